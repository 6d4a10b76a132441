/-
  Whether there is a section; which items can be read; the first of a key is kept.
-/
import Derived.Test.YthghblgbjgghcaaHa
namespace Go.Proofs.Ythghblgbjgghcaa
open Go.RowKit D
/-- Is there such a section? -/
def hasS {α : Type} (l : List α) (s : Int) : Bool := decide (0 ≤ s) && decide (s < (l.length : Int))
def rdb (k : Int) : Bool := decide (k = 1) || decide (k = 2)
theorem has_n (pl : Option Addr) (n cl : Nat) (s : Int) (w : World) : Calls Try.prog 33 #[.slice pl n cl, .int .i64 s] w fun e w' => e = .returned (.bool (decide (0 ≤ s) && decide (s < (n : Int)))) ∧ Mo w w' := by
  refine w_enter 13 Try.func33 Try.ntmps33 rfl rfl ?_
  have M : Mo w w := Mo.refl _
  refine w_seq ?_
  refine w_reg ?_
  refine wl_mv (.const (.bool false)) (.bool false) (fun _ => rfl) rfl rfl ?_
  refine w_nil ?_
  refine xn_then ?_
  refine w_seq ?_
  refine w_reg ?_
  refine wl_mv (.tmp 1) (.int .i64 (s)) (fun _ => rfl) rfl rfl ?_
  cases hf0 : decide (0 ≤ s) with
  | true =>
    have hf0p := of_decide_eq_true hf0
    refine wl_bin (fun x y => do eqGuard .geq 3 (.tmp 5) (.const (.int .i64 (0))) x y; binOp .geq 3 x y) (.tmp 5) (.const (.int .i64 (0))) (.int .i64 (s)) (.int .i64 (0)) (.bool true) (fun _ => rfl) rfl rfl (ge3 hf0 _ _ _) rfl ?_
    refine wl_mv (.tmp 6) (.bool true) (fun _ => rfl) rfl rfl ?_
    refine wl_mv (.tmp 1) (.int .i64 (s)) (fun _ => rfl) rfl rfl ?_
    refine wl_mv (.tmp 0) (.slice pl n cl) (fun _ => rfl) rfl rfl ?_
    refine wl_val (.int .i64 ((n : Nat) : Int)) (len22 _ _ _ _ _ (by exact rfl) _ _ _ _ _ _) rfl ?_
    cases hf1 : decide (s < ((n : Nat) : Int)) with
    | true =>
      have hf1p := of_decide_eq_true hf1
      refine wl_bin (fun x y => do eqGuard .lss 3 (.tmp 8) (.tmp 10) x y; binOp .lss 3 x y) (.tmp 8) (.tmp 10) (.int .i64 (s)) (.int .i64 ((n : Nat) : Int)) (.bool true) (fun _ => rfl) rfl rfl (lt3 hf1 _ _ _) rfl ?_
      refine wl_pick (.tmp 7) (.tmp 11) (.const (.bool false)) true (.bool true) (fun _ => rfl) rfl rfl rfl ?_
      refine wl_mv (.tmp 12) (.bool true) (fun _ => rfl) rfl rfl ?_
      refine w_nil ?_
      refine xn_then ?_
      refine w_ret ?_
      exact w_ret1 _ (.bool true) rfl rfl ⟨by simp, M⟩
    | false =>
      have hf1p := of_decide_eq_false hf1
      refine wl_bin (fun x y => do eqGuard .lss 3 (.tmp 8) (.tmp 10) x y; binOp .lss 3 x y) (.tmp 8) (.tmp 10) (.int .i64 (s)) (.int .i64 ((n : Nat) : Int)) (.bool false) (fun _ => rfl) rfl rfl (lt3 hf1 _ _ _) rfl ?_
      refine wl_pick (.tmp 7) (.tmp 11) (.const (.bool false)) true (.bool false) (fun _ => rfl) rfl rfl rfl ?_
      refine wl_mv (.tmp 12) (.bool false) (fun _ => rfl) rfl rfl ?_
      refine w_nil ?_
      refine xn_then ?_
      refine w_ret ?_
      exact w_ret1 _ (.bool false) rfl rfl ⟨by simp, M⟩
  | false =>
    have hf0p := of_decide_eq_false hf0
    refine wl_bin (fun x y => do eqGuard .geq 3 (.tmp 5) (.const (.int .i64 (0))) x y; binOp .geq 3 x y) (.tmp 5) (.const (.int .i64 (0))) (.int .i64 (s)) (.int .i64 (0)) (.bool false) (fun _ => rfl) rfl rfl (ge3 hf0 _ _ _) rfl ?_
    refine wl_mv (.tmp 6) (.bool false) (fun _ => rfl) rfl rfl ?_
    refine wl_skip rfl ?_
    refine wl_skip rfl ?_
    refine wl_skip rfl ?_
    refine wl_skip rfl ?_
    refine wl_pick (.tmp 7) (.tmp 11) (.const (.bool false)) false (.bool false) (fun _ => rfl) rfl rfl rfl ?_
    refine wl_mv (.tmp 12) (.bool false) (fun _ => rfl) rfl rfl ?_
    refine w_nil ?_
    refine xn_then ?_
    refine w_ret ?_
    exact w_ret1 _ (.bool false) rfl rfl ⟨by simp, M⟩
theorem can_n (k : Int) (w : World) : Calls Try.prog 54 #[.int .i64 k] w fun e w' => e = .returned (.bool (rdb k)) ∧ Mo w w' := by
  unfold rdb
  refine w_enter 9 Try.func54 Try.ntmps54 rfl rfl ?_
  have M : Mo w w := Mo.refl _
  refine w_seq ?_
  refine w_reg ?_
  refine wl_mv (.const (.bool false)) (.bool false) (fun _ => rfl) rfl rfl ?_
  refine w_nil ?_
  refine xn_then ?_
  refine w_seq ?_
  refine w_reg ?_
  refine wl_mv (.tmp 0) (.int .i64 (k)) (fun _ => rfl) rfl rfl ?_
  cases hf0 : decide (k = 1) with
  | true =>
    have hf0p := of_decide_eq_true hf0
    refine wl_bin (fun x y => do eqGuard .eql 3 (.tmp 3) (.const (.int .i64 (1))) x y; binOp .eql 3 x y) (.tmp 3) (.const (.int .i64 (1))) (.int .i64 (k)) (.int .i64 (1)) (.bool true) (fun _ => rfl) rfl rfl (eq3 hf0 _ _ _) rfl ?_
    refine wl_mv (.tmp 4) (.bool true) (fun _ => rfl) rfl rfl ?_
    refine wl_skip rfl ?_
    refine wl_skip rfl ?_
    refine wl_pick (.tmp 5) (.const (.bool true)) (.tmp 7) true (.bool true) (fun _ => rfl) rfl rfl rfl ?_
    refine wl_mv (.tmp 8) (.bool true) (fun _ => rfl) rfl rfl ?_
    refine w_nil ?_
    refine xn_then ?_
    refine w_ret ?_
    exact w_ret1 _ (.bool true) rfl rfl ⟨by simp, M⟩
  | false =>
    have hf0p := of_decide_eq_false hf0
    refine wl_bin (fun x y => do eqGuard .eql 3 (.tmp 3) (.const (.int .i64 (1))) x y; binOp .eql 3 x y) (.tmp 3) (.const (.int .i64 (1))) (.int .i64 (k)) (.int .i64 (1)) (.bool false) (fun _ => rfl) rfl rfl (eq3 hf0 _ _ _) rfl ?_
    refine wl_mv (.tmp 4) (.bool false) (fun _ => rfl) rfl rfl ?_
    refine wl_mv (.tmp 0) (.int .i64 (k)) (fun _ => rfl) rfl rfl ?_
    cases hf1 : decide (k = 2) with
    | true =>
      have hf1p := of_decide_eq_true hf1
      refine wl_bin (fun x y => do eqGuard .eql 3 (.tmp 6) (.const (.int .i64 (2))) x y; binOp .eql 3 x y) (.tmp 6) (.const (.int .i64 (2))) (.int .i64 (k)) (.int .i64 (2)) (.bool true) (fun _ => rfl) rfl rfl (eq3 hf1 _ _ _) rfl ?_
      refine wl_pick (.tmp 5) (.const (.bool true)) (.tmp 7) false (.bool true) (fun _ => rfl) rfl rfl rfl ?_
      refine wl_mv (.tmp 8) (.bool true) (fun _ => rfl) rfl rfl ?_
      refine w_nil ?_
      refine xn_then ?_
      refine w_ret ?_
      exact w_ret1 _ (.bool true) rfl rfl ⟨by simp, M⟩
    | false =>
      have hf1p := of_decide_eq_false hf1
      refine wl_bin (fun x y => do eqGuard .eql 3 (.tmp 6) (.const (.int .i64 (2))) x y; binOp .eql 3 x y) (.tmp 6) (.const (.int .i64 (2))) (.int .i64 (k)) (.int .i64 (2)) (.bool false) (fun _ => rfl) rfl rfl (eq3 hf1 _ _ _) rfl ?_
      refine wl_pick (.tmp 5) (.const (.bool true)) (.tmp 7) false (.bool false) (fun _ => rfl) rfl rfl rfl ?_
      refine wl_mv (.tmp 8) (.bool false) (fun _ => rfl) rfl rfl ?_
      refine w_nil ?_
      refine xn_then ?_
      refine w_ret ?_
      exact w_ret1 _ (.bool false) rfl rfl ⟨by simp, M⟩
/-- The first of a key is kept. -/
def kfq {κ : Type} [DecidableEq κ] (al : List (κ × Int)) (a : κ) (v : Int) : List (κ × Int) := if (lkq al a).isSome then al else putq al a v
theorem keep_n {w : World} {b : Nat} {al : List (Spo × Int)} (hM : Mp es w b al) (p : Spo) (v : Int) : Calls Try.prog 53 #[.map (some b), es p, .int .i64 v] w fun e w' => e = .returned (.tuple #[]) ∧ Mp es w' b (kfq al p v) ∧ Mk (fun j => j = b) w w' := by
  unfold kfq
  refine w_enter 19 Try.func53 Try.ntmps53 rfl rfl ?_
  have M : Mo w w := Mo.refl _
  refine w_seq ?_
  refine w_reg ?_
  refine wl_box 98 (.tmp 1) (.agg #[.int .i64 p.1, .string p.2]) (#[.int .i64 p.1, .string p.2]) rfl rfl (fun _ => by kernel_rfl) rfl ?_
  intro k1 u1 hk hz hq Q1
  have N_k1 : w.heap.size ≤ k1 := by have := M.size; omega
  replace M := M.trans hq
  clear hk hz hq
  refine w_nil ?_
  refine xn_then ?_
  refine w_seq ?_
  refine w_reg ?_
  refine wl_mv (.tmp 0) (.map (some b)) (fun _ => rfl) rfl rfl ?_
  refine wl_load 98 (.tmp 4) (pt k1 0) (.agg #[.int .i64 p.1, .string p.2]) rfl rfl (run_row Q1 98 0 2 [.int .i64 p.1, .string p.2] rfl Try.underlying98 rfl sz98) rfl ?_
  cases hf0 : (lkq al p).isSome with
  | true =>
    refine wl_val (.tuple #[.int .i64 ((lkq al p).getD 0), .bool true]) (lkp 91 (.tmp 9) (.tmp 10) true (.map (some b)) (.agg #[.int .i64 p.1, .string p.2]) (.tuple #[.int .i64 ((lkq al p).getD 0), .bool true]) rfl rfl rfl ((hM.mo M).looks kt98 Try.underlying91 p hf0)) rfl ?_
    refine wl_mv (.tmp 11) (.tuple #[.int .i64 ((lkq al p).getD 0), .bool true]) (fun _ => rfl) rfl rfl ?_
    refine wl_un (fun v => Instr.extract v 0) (.tmp 8) (.tuple #[.int .i64 ((lkq al p).getD 0), .bool true]) (.int .i64 ((lkq al p).getD 0)) (fun _ => rfl) rfl (by kernel_rfl) rfl ?_
    refine wl_un (fun v => Instr.extract v 1) (.tmp 8) (.tuple #[.int .i64 ((lkq al p).getD 0), .bool true]) (.bool true) (fun _ => rfl) rfl (by kernel_rfl) rfl ?_
    refine wl_mv (.tmp 12) (.int .i64 ((lkq al p).getD 0)) (fun _ => rfl) rfl rfl ?_
    refine wl_mv (.tmp 13) (.bool true) (fun _ => rfl) rfl rfl ?_
    refine w_nil ?_
    refine xn_then ?_
    refine w_seq ?_
    refine w_reg ?_
    refine wl_mv (.tmp 7) (.bool true) (fun _ => rfl) rfl rfl ?_
    refine wl_un (fun v => Op.unary .not v) (.tmp 14) (.bool true) (.bool false) (fun _ => rfl) rfl (by kernel_rfl) rfl ?_
    refine w_nil ?_
    refine xn_then ?_
    refine w_condF rfl ?_
    refine w_skip ?_
    exact w_end0 rfl ⟨rfl, hM.mo M, Mk.of _ M⟩
  | false =>
    refine wl_val (.tuple #[.int .i64 ((lkq al p).getD 0), .bool false]) (lkp 91 (.tmp 9) (.tmp 10) true (.map (some b)) (.agg #[.int .i64 p.1, .string p.2]) (.tuple #[.int .i64 ((lkq al p).getD 0), .bool false]) rfl rfl rfl ((hM.mo M).looks kt98 Try.underlying91 p hf0)) rfl ?_
    refine wl_mv (.tmp 11) (.tuple #[.int .i64 ((lkq al p).getD 0), .bool false]) (fun _ => rfl) rfl rfl ?_
    refine wl_un (fun v => Instr.extract v 0) (.tmp 8) (.tuple #[.int .i64 ((lkq al p).getD 0), .bool false]) (.int .i64 ((lkq al p).getD 0)) (fun _ => rfl) rfl (by kernel_rfl) rfl ?_
    refine wl_un (fun v => Instr.extract v 1) (.tmp 8) (.tuple #[.int .i64 ((lkq al p).getD 0), .bool false]) (.bool false) (fun _ => rfl) rfl (by kernel_rfl) rfl ?_
    refine wl_mv (.tmp 12) (.int .i64 ((lkq al p).getD 0)) (fun _ => rfl) rfl rfl ?_
    refine wl_mv (.tmp 13) (.bool false) (fun _ => rfl) rfl rfl ?_
    refine w_nil ?_
    refine xn_then ?_
    refine w_seq ?_
    refine w_reg ?_
    refine wl_mv (.tmp 7) (.bool false) (fun _ => rfl) rfl rfl ?_
    refine wl_un (fun v => Op.unary .not v) (.tmp 14) (.bool false) (.bool true) (fun _ => rfl) rfl (by kernel_rfl) rfl ?_
    refine w_nil ?_
    refine xn_then ?_
    refine w_condT rfl ?_
    refine w_reg ?_
    refine wl_mv (.tmp 0) (.map (some b)) (fun _ => rfl) rfl rfl ?_
    refine wl_load 98 (.tmp 4) (pt k1 0) (.agg #[.int .i64 p.1, .string p.2]) rfl rfl (run_row Q1 98 0 2 [.int .i64 p.1, .string p.2] rfl Try.underlying98 rfl sz98) rfl ?_
    refine wl_mv (.tmp 2) (.int .i64 (v)) (fun _ => rfl) rfl rfl ?_
    refine wl_mupq (al := al) (.tmp 16) (.tmp 17) (.tmp 18) p v (hM.mo M) kt98 Try.underlying91 rfl rfl rfl rfl rfl rfl ?_
    intro u2 hM2 hK
    have hK2 := (Mk.of (fun j => j = b) M).same hK
    refine w_nil ?_
    exact w_end0 rfl ⟨rfl, hM2, hK2⟩
end Go.Proofs.Ythghblgbjgghcaa
