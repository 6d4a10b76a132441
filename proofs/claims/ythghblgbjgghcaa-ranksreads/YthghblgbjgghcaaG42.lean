/-
  What is read where nothing stands.
-/
import Derived.Test.YthghblgbjgghcaaG41
import Derived.Test.YthghblgbjgghcaaG26
namespace Go.Proofs.Ythghblgbjgghcaa
open Go.RowKit D
theorem reads15_neg {w : World} {l : List S5} {pl : Option Addr} {cl : Nat} {n : Int} (hn : n < 0) : Calls Try.prog 15 #[.slice pl l.length cl, .int .i64 n] w fun e w' => e = .returned (.slice none 0 0) ∧ Mo w w' := by
  refine w_enter 35 Try.func15 Try.ntmps15 rfl rfl ?_
  have M : Mo w w := Mo.refl _
  refine w_seq ?_
  refine w_reg ?_
  refine wl_mv (.const (.slice none 0 0)) (.slice none 0 0) (fun _ => rfl) rfl rfl ?_
  refine w_nil ?_
  refine xn_then ?_
  refine w_seq ?_
  refine w_reg ?_
  refine wl_mv (.tmp 0) (.slice pl l.length cl) (fun _ => rfl) rfl rfl ?_
  refine wl_mv (.tmp 1) (.int .i64 (n)) (fun _ => rfl) rfl rfl ?_
  refine wl_callx 12 [(.tmp 12), (.tmp 13)] _ [.slice pl l.length cl, .int .i64 (n)] rfl rfl (fun _ _ => by kernel_rfl) ((of12_neg hn)) rfl ?_
  rintro e9 u1 ⟨rfl, hq⟩
  refine ⟨_, rfl, ?_⟩
  replace M := M.trans hq
  clear hq
  refine wl_mv (.tmp 14) (.tuple #[.int .i64 (0), .int .i64 (0), .bool false]) (fun _ => rfl) rfl rfl ?_
  refine wl_un (fun v => Instr.extract v 0) (.tmp 11) (.tuple #[.int .i64 (0), .int .i64 (0), .bool false]) (.int .i64 (0)) (fun _ => rfl) rfl (by kernel_rfl) rfl ?_
  refine wl_un (fun v => Instr.extract v 1) (.tmp 11) (.tuple #[.int .i64 (0), .int .i64 (0), .bool false]) (.int .i64 (0)) (fun _ => rfl) rfl (by kernel_rfl) rfl ?_
  refine wl_un (fun v => Instr.extract v 2) (.tmp 11) (.tuple #[.int .i64 (0), .int .i64 (0), .bool false]) (.bool false) (fun _ => rfl) rfl (by kernel_rfl) rfl ?_
  refine wl_mv (.tmp 15) (.int .i64 (0)) (fun _ => rfl) rfl rfl ?_
  refine wl_mv (.tmp 16) (.int .i64 (0)) (fun _ => rfl) rfl rfl ?_
  refine wl_mv (.tmp 17) (.bool false) (fun _ => rfl) rfl rfl ?_
  refine w_nil ?_
  refine xn_then ?_
  refine w_seq ?_
  refine w_seq ?_
  refine w_reg ?_
  refine wl_mv (.tmp 7) (.bool false) (fun _ => rfl) rfl rfl ?_
  refine wl_un (fun v => Op.unary .not v) (.tmp 18) (.bool false) (.bool true) (fun _ => rfl) rfl (by kernel_rfl) rfl ?_
  refine w_nil ?_
  refine xn_then ?_
  refine w_condT rfl ?_
  refine w_seq ?_
  refine w_reg ?_
  refine wl_mv (.const (.slice none 0 0)) (.slice none 0 0) (fun _ => rfl) rfl rfl ?_
  refine w_nil ?_
  refine xn_then ?_
  refine w_ret ?_
  refine xr_then ?_
  exact w_ret1 _ (.slice none 0 0) rfl rfl ⟨rfl, M⟩
theorem reads15_out {w : World} {l : List S5} {pl : Option Addr} {cl : Nat} (hL : SL w 5 S5.cells pl l) (hz : l.length < 400000) {nn : Nat} (hm : nI l ≤ nn) (hn : nn ≤ 9223372036854775807) : Calls Try.prog 15 #[.slice pl l.length cl, .int .i64 ((nn : Nat) : Int)] w fun e w' => e = .returned (.slice none 0 0) ∧ Mo w w' := by
  refine w_enter 35 Try.func15 Try.ntmps15 rfl rfl ?_
  have M : Mo w w := Mo.refl _
  refine w_seq ?_
  refine w_reg ?_
  refine wl_mv (.const (.slice none 0 0)) (.slice none 0 0) (fun _ => rfl) rfl rfl ?_
  refine w_nil ?_
  refine xn_then ?_
  refine w_seq ?_
  refine w_reg ?_
  refine wl_mv (.tmp 0) (.slice pl l.length cl) (fun _ => rfl) rfl rfl ?_
  refine wl_mv (.tmp 1) (.int .i64 ((nn : Nat) : Int)) (fun _ => rfl) rfl rfl ?_
  refine wl_callx 12 [(.tmp 12), (.tmp 13)] _ [.slice pl l.length cl, .int .i64 ((nn : Nat) : Int)] rfl rfl (fun _ _ => by kernel_rfl) ((of12_out (hL.kp M.kp) hz hm hn)) rfl ?_
  rintro e9 u1 ⟨rfl, hq⟩
  refine ⟨_, rfl, ?_⟩
  replace M := M.trans hq
  clear hq
  refine wl_mv (.tmp 14) (.tuple #[.int .i64 (0), .int .i64 (0), .bool false]) (fun _ => rfl) rfl rfl ?_
  refine wl_un (fun v => Instr.extract v 0) (.tmp 11) (.tuple #[.int .i64 (0), .int .i64 (0), .bool false]) (.int .i64 (0)) (fun _ => rfl) rfl (by kernel_rfl) rfl ?_
  refine wl_un (fun v => Instr.extract v 1) (.tmp 11) (.tuple #[.int .i64 (0), .int .i64 (0), .bool false]) (.int .i64 (0)) (fun _ => rfl) rfl (by kernel_rfl) rfl ?_
  refine wl_un (fun v => Instr.extract v 2) (.tmp 11) (.tuple #[.int .i64 (0), .int .i64 (0), .bool false]) (.bool false) (fun _ => rfl) rfl (by kernel_rfl) rfl ?_
  refine wl_mv (.tmp 15) (.int .i64 (0)) (fun _ => rfl) rfl rfl ?_
  refine wl_mv (.tmp 16) (.int .i64 (0)) (fun _ => rfl) rfl rfl ?_
  refine wl_mv (.tmp 17) (.bool false) (fun _ => rfl) rfl rfl ?_
  refine w_nil ?_
  refine xn_then ?_
  refine w_seq ?_
  refine w_seq ?_
  refine w_reg ?_
  refine wl_mv (.tmp 7) (.bool false) (fun _ => rfl) rfl rfl ?_
  refine wl_un (fun v => Op.unary .not v) (.tmp 18) (.bool false) (.bool true) (fun _ => rfl) rfl (by kernel_rfl) rfl ?_
  refine w_nil ?_
  refine xn_then ?_
  refine w_condT rfl ?_
  refine w_seq ?_
  refine w_reg ?_
  refine wl_mv (.const (.slice none 0 0)) (.slice none 0 0) (fun _ => rfl) rfl rfl ?_
  refine w_nil ?_
  refine xn_then ?_
  refine w_ret ?_
  refine xr_then ?_
  exact w_ret1 _ (.slice none 0 0) rfl rfl ⟨rfl, M⟩
end Go.Proofs.Ythghblgbjgghcaa
