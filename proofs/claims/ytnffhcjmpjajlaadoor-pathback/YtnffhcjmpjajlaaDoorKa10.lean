/-
  A part of the proof.
-/
import Derived.Test.YtnffhcjmpjajlaaDoorKa6
import Derived.Test.YtnffhcjmpjajlaaDoorKa5
import Derived.Test.YtnffhcjmpjajlaaDoorKa4
import Derived.Test.YtnffhcjmpjajlaaDoorKa3
import Derived.Test.YtnffhcjmpjajlaaDoorKa2
import Derived.Test.YtnffhcjmpjajlaaDoorKa1
import Derived.RegionTactic
import Derived.Test.YtnffhcjmpjajlaaDoorProg
import Derived.WalkKit
import Derived.WalkSpells
import Derived.Handy
import Derived.BigQuiet
import Derived.Deep.RegionHeld3
import Derived.Deep.MidRow
import Derived.BigCall
import Derived.ChangeKeysEq
import Derived.Shelf.Small.Bits
import Derived.Shelf.Strconv.Itoa0
import Derived.Shelf.Bits.Mul64
import Derived.Deep.CutRange
import Derived.Deep.CutBlock
import Derived.ScopeJumps
import Derived.WalkMore
import Derived.Laws.StructEq
import Derived.Lib.CutLaws
import Derived.Maps.OwnSet
import Derived.WalkArith
import Derived.StringKeys
import Derived.ProofKit
import Derived.OpenShut
import Derived.ChangeArms
import Derived.Deep.Slices
import Derived.ReadAgain
import Derived.WideKeyArgs
import Derived.Maps.AppendAt
import Derived.Test.YtnffhcjmpjajlaaDoorKa9
import Derived.Test.YtnffhcjmpjajlaaDoorKa7
import Derived.Shelf.Strconv.Itoa4
import Derived.Test.YtnffhcjmpjajlaaDoorKa8
import Derived.Lib.IndexBytes
import Derived.Lib.AppendIntMem
import Derived.Lib.ItoaLen
namespace Go.Proofs.YtnffhcjmpjajlaaDoor
open Go.RowKit D
theorem eq5 {a b : Int} {r : Bool} (h : decide (a = b) = r) (x y : Operand) (w : World) : (do eqGuard .eql 5 x y (.int .u8 a) (.int .u8 b); binOp .eql 5 (.int .u8 a) (.int .u8 b)).run Tryd.prog w = .ok (.bool r) w := by subst h; by_cases e : a = b <;> simp [go_sem, e]
theorem idx_0 {s : ByteArray} (h : 0 < s.size) (w : World) : (Instr.index 9 (.string s) (.int .i64 0)).run Tryd.prog w = .ok (.int .u8 (bt s 0)) w := idx_b h w
theorem sz_pos {u : ByteArray} (h : ¬ u = ⟨#[]⟩) : 0 < u.size := by
 rcases Nat.eq_zero_or_pos u.size with e | e
 ·exact absurd (ByteArray.ext (Array.eq_empty_of_size_eq_zero e)) h
 ·exact e
theorem bg_l {s h : ByteArray} (e : ¬ h.size ≤ s.size) : bgB s h = false := by unfold bgB bgn; rw [if_pos (by omega)]; rfl
theorem bg_e {s h : ByteArray} (e : h.size ≤ s.size) : bgB s h = decide (s.extract 0 h.size = h) := by
 unfold bgB bgn
 rw [if_neg (by omega)]
 by_cases q : s.extract 0 h.size = h <;> simp [q]
theorem hpx_n {s h : ByteArray} (w : World) : Calls Tryd.prog 71 #[.string s, .string h] w fun e9 w' => e9 = .returned (.bool (bgB s h)) ∧ Mo w w' := by
 refine w_enter 18 Tryd.func71 Tryd.ntmps71 rfl rfl ?_
 have M : Mo w w := Mo.refl _
 refine w_seq (w_reg ?_)
 refine wl_m (.const (.bool false)) (.bool false) ?_
 refine w_nil (xn_then (w_seq (w_reg ?_)))
 refine wl_m (.tmp 0) (.string s) ?_
 refine wl_val (.int .i64 ((s.size : Nat) : Int)) (len_s _ _ _ (by exact rfl) _ _ _ _ _ _) rfl ?_
 refine wl_m (.tmp 1) (.string h) ?_
 refine wl_val (.int .i64 ((h.size : Nat) : Int)) (len_s _ _ _ (by exact rfl) _ _ _ _ _ _) rfl ?_
 cases hf0 : decide (((h.size : Nat) : Int) ≤ ((s.size : Nat) : Int)) with
 | true =>
  have hf0p := of_decide_eq_true hf0
  refine wl_b .geq 3 (.tmp 6) (.tmp 8) (.int .i64 ((s.size : Nat) : Int)) (.int .i64 ((h.size : Nat) : Int)) (.bool true) (ge3 hf0 _ _ _) ?_
  refine wl_m (.tmp 9) (.bool true) ?_
  refine wl_m (.tmp 0) (.string s) ?_
  refine wl_m (.tmp 1) (.string h) ?_
  refine wl_val (.int .i64 ((h.size : Nat) : Int)) (len_s _ _ _ (by exact rfl) _ _ _ _ _ _) rfl ?_
  refine wl_val (.string (s.extract 0 h.size)) (slb_hi _ _ _ s h.size (by exact rfl) (by exact rfl) (by omega) _ _ _ _ _ _) rfl ?_
  refine wl_m (.tmp 1) (.string h) ?_
  cases hf1 : decide (s.extract 0 h.size = h) with
  | true =>
   have hf1p := of_decide_eq_true hf1
   refine wl_b .eql 9 (.tmp 14) (.tmp 15) (.string (s.extract 0 h.size)) (.string h) (.bool true) (s9 hf1 _ _ _) ?_
   refine wl_pick (.tmp 10) (.tmp 16) (.const (.bool false)) true (.bool true) (fun _ => rfl) rfl rfl rfl ?_
   refine wl_m (.tmp 17) (.bool true) ?_
   refine w_nil (xn_then (w_ret ?_))
   exact w_ret1 _ (.bool true) rfl rfl ⟨congrArg (fun v => Ending.returned (.bool v)) (by rw [bg_e (show h.size ≤ s.size by omega), hf1]), M⟩
  | false =>
   have hf1p := of_decide_eq_false hf1
   refine wl_b .eql 9 (.tmp 14) (.tmp 15) (.string (s.extract 0 h.size)) (.string h) (.bool false) (s9 hf1 _ _ _) ?_
   refine wl_pick (.tmp 10) (.tmp 16) (.const (.bool false)) true (.bool false) (fun _ => rfl) rfl rfl rfl ?_
   refine wl_m (.tmp 17) (.bool false) ?_
   refine w_nil (xn_then (w_ret ?_))
   exact w_ret1 _ (.bool false) rfl rfl ⟨congrArg (fun v => Ending.returned (.bool v)) (by rw [bg_e (show h.size ≤ s.size by omega), hf1]), M⟩
 | false =>
  have hf0p := of_decide_eq_false hf0
  refine wl_b .geq 3 (.tmp 6) (.tmp 8) (.int .i64 ((s.size : Nat) : Int)) (.int .i64 ((h.size : Nat) : Int)) (.bool false) (ge3 hf0 _ _ _) ?_
  refine wl_m (.tmp 9) (.bool false) ?_
  refine wl_skip rfl (wl_skip rfl (wl_skip rfl (wl_skip rfl (wl_skip rfl (wl_skip rfl ?_)))))
  refine wl_pick (.tmp 10) (.tmp 16) (.const (.bool false)) false (.bool false) (fun _ => rfl) rfl rfl rfl ?_
  refine wl_m (.tmp 17) (.bool false) ?_
  refine w_nil (xn_then (w_ret ?_))
  exact w_ret1 _ (.bool false) rfl rfl ⟨congrArg (fun v => Ending.returned (.bool v)) (bg_l (show ¬ h.size ≤ s.size by omega)).symm, M⟩
theorem bg_at {s h : ByteArray} (e : bgB s h = true) : h.size ≤ s.size ∧ bgn s h = some (s.extract h.size s.size) := by
 have q := bgB_t e
 unfold bgn at q ⊢
 split at q
 ·cases q
 ·rename_i h1
  split at q
  next h2 => rw [if_neg h1, if_pos h2]; exact ⟨by omega, rfl⟩
  next => cases q
theorem scp_n {s h : ByteArray} (w : World) : Calls Tryd.prog 56 #[.string s, .string h] w fun e9 w' => e9 = .returned (.tuple #[.string ((bgn s h).getD s), .bool (bgB s h)]) ∧ Mo w w' := by
 refine w_enter 15 Tryd.func56 Tryd.ntmps56 rfl rfl ?_
 have M : Mo w w := Mo.refl _
 refine w_seq (w_reg ?_)
 refine wl_m (.const (.string ⟨#[]⟩)) (.string ⟨#[]⟩) ?_
 refine wl_m (.const (.bool false)) (.bool false) ?_
 refine w_nil (xn_then (w_seq (w_seq (w_reg ?_))))
 refine wl_m (.tmp 0) (.string s) ?_
 refine wl_m (.tmp 1) (.string h) ?_
 cases hf0 : bgB s h with
 | true =>
  refine wl_call 71 [(.tmp 6), (.tmp 7)] _ [.string s, .string h] (.bool true) rfl rfl (fun _ _ => by kernel_rfl) (cB hf0 (hpx_n _)) rfl ?_
  intro u1 hq
  replace M := M.trans hq
  clear hq
  refine wl_un (fun v => Op.unary .not v) (.tmp 8) (.bool true) (.bool false) (fun _ => rfl) rfl (by kernel_rfl) rfl ?_
  refine w_nil (xn_then (w_condF rfl (w_skip (xn_then (w_seq ?_)))))
  have hbg := bg_at hf0
  have hb1 := hbg.1
  refine w_reg ?_
  refine wl_m (.tmp 0) (.string s) ?_
  refine wl_m (.tmp 1) (.string h) ?_
  refine wl_val (.int .i64 ((h.size : Nat) : Int)) (len_s _ _ _ (by exact rfl) _ _ _ _ _ _) rfl ?_
  refine wl_val (.string (s.extract h.size s.size)) (slb_lo _ _ _ s h.size (by exact rfl) (by exact rfl) (by omega) _ _ _ _ _ _) rfl ?_
  refine wl_m (.tmp 14) (.string (s.extract h.size s.size)) ?_
  refine wl_m (.const (.bool true)) (.bool true) ?_
  refine w_nil (xn_then (w_ret ?_))
  exact w_ret2 _ _ (.string (s.extract h.size s.size)) (.bool true) rfl rfl rfl ⟨by rw [hbg.2]; rfl, M⟩
 | false =>
  refine wl_call 71 [(.tmp 6), (.tmp 7)] _ [.string s, .string h] (.bool false) rfl rfl (fun _ _ => by kernel_rfl) (cB hf0 (hpx_n _)) rfl ?_
  intro u1 hq
  replace M := M.trans hq
  clear hq
  refine wl_un (fun v => Op.unary .not v) (.tmp 8) (.bool false) (.bool true) (fun _ => rfl) rfl (by kernel_rfl) rfl ?_
  refine w_nil (xn_then (w_condT rfl (w_seq (w_reg ?_))))
  refine wl_m (.tmp 0) (.string s) ?_
  refine wl_m (.tmp 10) (.string s) ?_
  refine wl_m (.const (.bool false)) (.bool false) ?_
  refine w_nil (xn_then (w_ret (xr_then ?_)))
  exact w_ret2 _ _ (.string s) (.bool false) rfl rfl rfl ⟨by rw [bgB_f hf0]; rfl, M⟩
theorem cpx_n {s h : ByteArray} (w : World) : Calls Tryd.prog 38 #[.string s, .string h] w fun e9 w' => e9 = .returned (.tuple #[.string ((bgn s h).getD s), .bool (bgB s h)]) ∧ Mo w w' := by
 refine w_enter 11 Tryd.func38 Tryd.ntmps38 rfl rfl ?_
 have M : Mo w w := Mo.refl _
 refine w_seq (w_reg ?_)
 refine wl_m (.const (.string ⟨#[]⟩)) (.string ⟨#[]⟩) ?_
 refine wl_m (.const (.bool false)) (.bool false) ?_
 refine w_nil (xn_then (w_seq (w_reg ?_)))
 refine wl_m (.tmp 0) (.string s) ?_
 refine wl_m (.tmp 1) (.string h) ?_
 refine wl_call 56 [(.tmp 6), (.tmp 7)] _ [.string s, .string h] (.tuple #[.string ((bgn s h).getD s), .bool ((bgB s h))]) rfl rfl (fun _ _ => by kernel_rfl) (scp_n _) rfl ?_
 intro u1 hq
 replace M := M.trans hq
 clear hq
 refine wl_un (fun v => Instr.extract v 0) (.tmp 8) (.tuple #[.string ((bgn s h).getD s), .bool ((bgB s h))]) (.string ((bgn s h).getD s)) (fun _ => rfl) rfl (by kernel_rfl) rfl ?_
 refine wl_un (fun v => Instr.extract v 1) (.tmp 8) (.tuple #[.string ((bgn s h).getD s), .bool ((bgB s h))]) (.bool ((bgB s h))) (fun _ => rfl) rfl (by kernel_rfl) rfl ?_
 refine wl_m (.tmp 9) (.string ((bgn s h).getD s)) ?_
 refine wl_m (.tmp 10) (.bool ((bgB s h))) ?_
 refine w_nil (xn_then (w_ret ?_))
 exact w_ret2 _ _ (.string ((bgn s h).getD s)) (.bool ((bgB s h))) rfl rfl rfl ⟨rfl, M⟩
def cid (u : ByteArray) : Option (Int × ByteArray) := if u = ⟨#[]⟩ then none else if bt u 0 = 48 then none else if idk (dgR u).1 then some ((dgR u).1, u.extract (dgR u).2 u.size) else none
def ciN (o : Option (Int × ByteArray)) : Int := (o.map (·.1)).getD 0
def ciS (o : Option (Int × ByteArray)) : ByteArray := (o.map (·.2)).getD ⟨#[]⟩
theorem ci_no {o : Option (Int × ByteArray)} (h : o = none) : Ending.returned (.tuple #[.int .i64 0, .string ⟨#[]⟩, .bool false]) = .returned (.tuple #[.int .i64 (ciN o), .string (ciS o), .bool o.isSome]) := by rw [h]; rfl
theorem ci_yes {o : Option (Int × ByteArray)} {n : Int} {s : ByteArray} (h : o = some (n, s)) : Ending.returned (.tuple #[.int .i64 n, .string s, .bool true]) = .returned (.tuple #[.int .i64 (ciN o), .string (ciS o), .bool o.isSome]) := by rw [h]; rfl
theorem cid_n {u : ByteArray} (w : World) (hu : u.size ≤ 9223372036854775807) : Calls Tryd.prog 70 #[.string u] w fun e9 w' => e9 = .returned (.tuple #[.int .i64 (ciN (cid u)), .string (ciS (cid u)), .bool (cid u).isSome]) ∧ Mo w w' := by
 refine w_enter 51 Tryd.func70 Tryd.ntmps70 rfl rfl ?_
 have M : Mo w w := Mo.refl _
 refine w_seq (w_reg ?_)
 refine wl_m (.const (.int .i64 (0))) (.int .i64 (0)) ?_
 refine wl_m (.const (.string ⟨#[]⟩)) (.string ⟨#[]⟩) ?_
 refine wl_m (.const (.bool false)) (.bool false) ?_
 refine w_nil (xn_then (w_seq (w_seq (w_reg ?_))))
 refine wl_m (.tmp 0) (.string u) ?_
 cases hf0 : decide (u = ⟨#[]⟩) with
 | true =>
  have hf0p := of_decide_eq_true hf0
  refine wl_b .eql 9 (.tmp 7) (.const (.string ⟨#[]⟩)) (.string u) (.string ⟨#[]⟩) (.bool true) (s9 hf0 _ _ _) ?_
  refine wl_m (.tmp 8) (.bool true) ?_
  refine wl_skip rfl (wl_skip rfl (wl_skip rfl ?_))
  refine wl_pick (.tmp 9) (.const (.bool true)) (.tmp 12) true (.bool true) (fun _ => rfl) rfl rfl rfl ?_
  refine w_nil (xn_then (w_condT rfl (w_seq (w_reg ?_))))
  refine wl_m (.const (.int .i64 (0))) (.int .i64 (0)) ?_
  refine wl_m (.const (.string ⟨#[]⟩)) (.string ⟨#[]⟩) ?_
  refine wl_m (.const (.bool false)) (.bool false) ?_
  refine w_nil (xn_then (w_ret (xr_then ?_)))
  exact w_ret3 _ _ _ (.int .i64 (0)) (.string ⟨#[]⟩) (.bool false) rfl rfl rfl rfl ⟨ci_no (by unfold cid; rw [if_pos hf0p]), M⟩
 | false =>
  have hf0p := of_decide_eq_false hf0
  refine wl_b .eql 9 (.tmp 7) (.const (.string ⟨#[]⟩)) (.string u) (.string ⟨#[]⟩) (.bool false) (s9 hf0 _ _ _) ?_
  refine wl_m (.tmp 8) (.bool false) ?_
  refine wl_m (.tmp 0) (.string u) ?_
  refine wl_bin (fun x y => Instr.index 9 x y) (.tmp 10) (.const (.int .i64 (0))) (.string u) (.int .i64 (0)) (.int .u8 (bt u 0)) (fun _ => rfl) rfl rfl (idx_0 (sz_pos hf0p) _) rfl ?_
  cases hf1 : decide (bt u 0 = 48) with
  | true =>
   have hf1p := of_decide_eq_true hf1
   refine wl_b .eql 5 (.tmp 11) (.const (.int .u8 (48))) (.int .u8 (bt u 0)) (.int .u8 (48)) (.bool true) (eq5 hf1 _ _ _) ?_
   refine wl_pick (.tmp 9) (.const (.bool true)) (.tmp 12) false (.bool true) (fun _ => rfl) rfl rfl rfl ?_
   refine w_nil (xn_then (w_condT rfl (w_seq (w_reg ?_))))
   refine wl_m (.const (.int .i64 (0))) (.int .i64 (0)) ?_
   refine wl_m (.const (.string ⟨#[]⟩)) (.string ⟨#[]⟩) ?_
   refine wl_m (.const (.bool false)) (.bool false) ?_
   refine w_nil (xn_then (w_ret (xr_then ?_)))
   exact w_ret3 _ _ _ (.int .i64 (0)) (.string ⟨#[]⟩) (.bool false) rfl rfl rfl rfl ⟨ci_no (by unfold cid; rw [if_neg hf0p, if_pos hf1p]), M⟩
  | false =>
   have hf1p := of_decide_eq_false hf1
   refine wl_b .eql 5 (.tmp 11) (.const (.int .u8 (48))) (.int .u8 (bt u 0)) (.int .u8 (48)) (.bool false) (eq5 hf1 _ _ _) ?_
   refine wl_pick (.tmp 9) (.const (.bool true)) (.tmp 12) false (.bool false) (fun _ => rfl) rfl rfl rfl ?_
   refine w_nil (xn_then (w_condF rfl (w_skip (xn_then (w_seq (w_reg ?_))))))
   refine wl_m (.const (.int .i64 (0))) (.int .i64 (0)) ?_
   refine wl_m (.const (.int .i64 (0))) (.int .i64 (0)) ?_
   refine w_nil (xn_then (w_seq (w_block ?_)))
   refine w_loop (fun m l9 w1 => ∃ (i : Nat) (n : Int), m = u.size - i ∧ i ≤ u.size ∧ look l9 0 = .string u ∧ look l9 5 = .int .i64 (i : Int) ∧ look l9 6 = .int .i64 n ∧ 0 ≤ n ∧ n ≤ 90071992547409930 ∧ dgF u (u.size - i) i n = dgR u ∧ Mo w w1) _ ⟨0, 0, rfl, Nat.zero_le _, rfl, rfl, rfl, by omega, by omega, rfl, M⟩ ?_
   clear M
   rintro m l9 wl ⟨i, n, rfl, hi, e0, e5, e6, hn0, hn1, hdg, M⟩
   have hbb := bt_bd u i
   refine w_seq (w_seq (w_reg ?_))
   refine wl_mv (.tmp 5) (.int .i64 ((i : Nat) : Int)) (fun _ => rfl) e5 rfl ?_
   refine wl_mv (.tmp 0) (.string u) (fun _ => rfl) e0 rfl ?_
   refine wl_val (.int .i64 ((u.size : Nat) : Int)) (len_s _ _ _ (by exact rfl) _ _ _ _ _ _) rfl ?_
   cases hf30 : decide (i < u.size) with
   | true =>
    have hf30p := of_decide_eq_true hf30
    refine wl_b .lss 3 (.tmp 14) (.tmp 16) (.int .i64 ((i : Nat) : Int)) (.int .i64 ((u.size : Nat) : Int)) (.bool true) (ltN hf30 _ _ _) ?_
    refine wl_m (.tmp 17) (.bool true) ?_
    refine wl_mv (.tmp 0) (.string u) (fun _ => rfl) e0 rfl ?_
    refine wl_mv (.tmp 5) (.int .i64 ((i : Nat) : Int)) (fun _ => rfl) e5 rfl ?_
    refine wl_bin (fun x y => Instr.index 9 x y) (.tmp 19) (.tmp 20) (.string u) (.int .i64 ((i : Nat) : Int)) (.int .u8 (bt u i)) (fun _ => rfl) rfl rfl (idx_b (by omega) _) rfl ?_
    cases hf31 : decide (48 ≤ bt u i) with
    | true =>
     have hf31p := of_decide_eq_true hf31
     refine wl_b .geq 5 (.tmp 21) (.const (.int .u8 (48))) (.int .u8 (bt u i)) (.int .u8 (48)) (.bool true) (ge5 hf31 _ _ _) ?_
     refine wl_pick (.tmp 18) (.tmp 22) (.const (.bool false)) true (.bool true) (fun _ => rfl) rfl rfl rfl ?_
     refine wl_m (.tmp 23) (.bool true) ?_
     refine wl_mv (.tmp 0) (.string u) (fun _ => rfl) e0 rfl ?_
     refine wl_mv (.tmp 5) (.int .i64 ((i : Nat) : Int)) (fun _ => rfl) e5 rfl ?_
     refine wl_bin (fun x y => Instr.index 9 x y) (.tmp 25) (.tmp 26) (.string u) (.int .i64 ((i : Nat) : Int)) (.int .u8 (bt u i)) (fun _ => rfl) rfl rfl (idx_b (by omega) _) rfl ?_
     cases hf32 : decide (bt u i ≤ 57) with
     | true =>
      have hf32p := of_decide_eq_true hf32
      refine wl_b .leq 5 (.tmp 27) (.const (.int .u8 (57))) (.int .u8 (bt u i)) (.int .u8 (57)) (.bool true) (le5 hf32 _ _ _) ?_
      refine wl_pick (.tmp 24) (.tmp 28) (.const (.bool false)) true (.bool true) (fun _ => rfl) rfl rfl rfl ?_
      refine wl_m (.tmp 29) (.bool true) ?_
      refine wl_mv (.tmp 6) (.int .i64 (n)) (fun _ => rfl) e6 rfl ?_
      cases hf33 : decide (n ≤ 9007199254740992) with
      | true =>
       have hf33p := of_decide_eq_true hf33
       refine wl_b .leq 2 (.tmp 31) (.const (.int .i64 (9007199254740992))) (.int .i64 (n)) (.int .i64 (9007199254740992)) (.bool true) (le2 hf33 _ _ _) ?_
       refine wl_pick (.tmp 30) (.tmp 32) (.const (.bool false)) true (.bool true) (fun _ => rfl) rfl rfl rfl ?_
       refine w_nil (xn_then (w_condT rfl (w_skip (xn_then (w_block (w_seq (w_reg ?_)))))))
       refine wl_mv (.tmp 6) (.int .i64 (n)) (fun _ => rfl) e6 rfl ?_
       refine wl_b .mul 2 (.const (.int .i64 (10))) (.tmp 34) (.int .i64 (10)) (.int .i64 (n)) (.int .i64 (10 * n)) (mul2 (by omega) (by omega) _ _ _) ?_
       refine wl_mv (.tmp 0) (.string u) (fun _ => rfl) e0 rfl ?_
       refine wl_mv (.tmp 5) (.int .i64 ((i : Nat) : Int)) (fun _ => rfl) e5 rfl ?_
       refine wl_bin (fun x y => Instr.index 9 x y) (.tmp 36) (.tmp 37) (.string u) (.int .i64 ((i : Nat) : Int)) (.int .u8 (bt u i)) (fun _ => rfl) rfl rfl (idx_b (by omega) _) rfl ?_
       refine wl_b .sub 5 (.tmp 38) (.const (.int .u8 (48))) (.int .u8 (bt u i)) (.int .u8 (48)) (.int .u8 (bt u i - 48)) (sub5 (by omega) (by omega) _ _ _) ?_
       refine wl_un (fun v => convert 5 2 v) (.tmp 39) (.int .u8 (bt u i - 48)) (.int .i64 (bt u i - 48)) (fun _ => rfl) rfl (cv52 (by omega) (by omega) _) rfl ?_
       refine wl_b .add 2 (.tmp 35) (.tmp 40) (.int .i64 (10 * n)) (.int .i64 (bt u i - 48)) (.int .i64 (10 * n + (bt u i - 48))) (add2 (by omega) (by omega) _ _ _) ?_
       refine wl_m (.tmp 41) (.int .i64 (10 * n + (bt u i - 48))) ?_
       refine w_nil (xn_then (w_reg ?_))
       refine wl_mv (.tmp 5) (.int .i64 ((i : Nat) : Int)) (fun _ => rfl) e5 rfl ?_
       refine wl_b .add 3 (.tmp 42) (.const (.int .i64 (1))) (.int .i64 ((i : Nat) : Int)) (.int .i64 (1)) (.int .i64 ((i + 1 : Nat) : Int)) (add1r (k := i) (by omega) _ _ _) ?_
       refine wl_m (.tmp 43) (.int .i64 ((i + 1 : Nat) : Int)) ?_
       refine w_nil (xn_blk ?_)
       have hcc : dgC u i n = true := by unfold dgC; simp; omega
       exact xn_loop (u.size - (i + 1)) (by omega) ⟨i + 1, 10 * n + (bt u i - 48), rfl, by omega, e0, rfl, rfl, by omega, by omega, (dg_on hcc).symm.trans hdg, M⟩
      | false =>
       have hf33p := of_decide_eq_false hf33
       refine wl_b .leq 2 (.tmp 31) (.const (.int .i64 (9007199254740992))) (.int .i64 (n)) (.int .i64 (9007199254740992)) (.bool false) (le2 hf33 _ _ _) ?_
       refine wl_pick (.tmp 30) (.tmp 32) (.const (.bool false)) true (.bool false) (fun _ => rfl) rfl rfl rfl ?_
       refine w_nil (xn_then (w_condF rfl (w_exit (xx_then (xx_then (xx_blk (xn_then (w_seq (w_seq ?_)))))))))
       have hcc : dgC u i n = false := by unfold dgC; simp; omega
       have hdr : dgR u = (n, i) := hdg.symm.trans (dg_stop hcc)
       refine w_reg ?_
       refine wl_mv (.tmp 6) (.int .i64 (n)) (fun _ => rfl) e6 rfl ?_
       cases hf34 : idk n with
       | true =>
        refine wl_call 31 [(.tmp 44)] _ [.int .i64 (n)] (.bool true) rfl rfl (fun _ _ => by kernel_rfl) (cB hf34 (pis_n n _)) rfl ?_
        intro u41 hq
        replace M := M.trans hq
        clear hq
        refine wl_un (fun v => Op.unary .not v) (.tmp 45) (.bool true) (.bool false) (fun _ => rfl) rfl (by kernel_rfl) rfl ?_
        refine w_nil (xn_then (w_condF rfl (w_skip (xn_then (w_seq ?_)))))
        refine w_any 5 [.inl (.int .i64 (n)), .inl (.string u), .inl (.int .i64 ((i : Nat) : Int)), .inl (.string (u.extract i u.size)), .inl (.int .i64 (n))] [] (by kernel_rfl) (by kernel_rfl) (by kernel_rfl) (by kernel_rfl) rfl (by kernel_rfl) (by kernel_rfl) late_nil ?_ ?_ ?_
        ·exact Ds.none rfl
        ·refine ea_cons ?_ (ea_cons ?_ (ea_cons ?_ (ea_cons ?_ (ea_cons ?_ (ea_nil)))))
         ·exact og_eq _ rfl (fun f wf hq hd K hK => go_run rfl (wo_mv (.tmp 6) (.int .i64 (n)) (fun _ => rfl) e6 (hK _ (Mo.refl _))))
         ·exact og_eq _ rfl (fun f wf hq hd K hK => go_run rfl (wo_mv (.tmp 0) (.string u) (fun _ => rfl) e0 (hK _ (Mo.refl _))))
         ·exact og_eq _ rfl (fun f wf hq hd K hK => go_run rfl (wo_mv (.tmp 5) (.int .i64 ((i : Nat) : Int)) (fun _ => rfl) e5 (hK _ (Mo.refl _))))
         ·exact og_eq _ rfl (fun f wf hq hd K hK => go_run rfl (wo_val (.string (u.extract i u.size)) (slb_lo _ _ _ u i (by exact (hd 1 rfl)) (by exact (hd 2 rfl)) hi _ _ _ _ _ _) (hK _ (Mo.refl _))))
         ·exact og_eq _ rfl (fun f wf hq hd K hK => go_run rfl (wo_mv (.tmp 47) (.int .i64 (n)) (fun _ => rfl) (hd 0 rfl) (hK _ (Mo.refl _))))
        intro kf42 u42 hq hR hne
        replace M := M.trans hq
        clear hq hR hne
        refine wl_m (.tmp 50) (.string (u.extract i u.size)) ?_
        refine wl_m (.const (.bool true)) (.bool true) ?_
        refine w_nil (xn_then (w_ret ?_))
        exact w_ret3 _ _ _ (.int .i64 (n)) (.string (u.extract i u.size)) (.bool true) rfl rfl rfl rfl ⟨ci_yes (by unfold cid; rw [if_neg hf0p, if_neg hf1p, hdr]; exact if_pos hf34), M⟩
       | false =>
        refine wl_call 31 [(.tmp 44)] _ [.int .i64 (n)] (.bool false) rfl rfl (fun _ _ => by kernel_rfl) (cB hf34 (pis_n n _)) rfl ?_
        intro u41 hq
        replace M := M.trans hq
        clear hq
        refine wl_un (fun v => Op.unary .not v) (.tmp 45) (.bool false) (.bool true) (fun _ => rfl) rfl (by kernel_rfl) rfl ?_
        refine w_nil (xn_then (w_condT rfl (w_seq (w_reg ?_))))
        refine wl_m (.const (.int .i64 (0))) (.int .i64 (0)) ?_
        refine wl_m (.const (.string ⟨#[]⟩)) (.string ⟨#[]⟩) ?_
        refine wl_m (.const (.bool false)) (.bool false) ?_
        refine w_nil (xn_then (w_ret (xr_then ?_)))
        exact w_ret3 _ _ _ (.int .i64 (0)) (.string ⟨#[]⟩) (.bool false) rfl rfl rfl rfl ⟨ci_no (by unfold cid; rw [if_neg hf0p, if_neg hf1p, hdr]; exact if_neg (by rw [hf34]; exact Bool.false_ne_true)), M⟩
     | false =>
      have hf32p := of_decide_eq_false hf32
      refine wl_b .leq 5 (.tmp 27) (.const (.int .u8 (57))) (.int .u8 (bt u i)) (.int .u8 (57)) (.bool false) (le5 hf32 _ _ _) ?_
      refine wl_pick (.tmp 24) (.tmp 28) (.const (.bool false)) true (.bool false) (fun _ => rfl) rfl rfl rfl ?_
      refine wl_m (.tmp 29) (.bool false) ?_
      refine wl_skip rfl (wl_skip rfl ?_)
      refine wl_pick (.tmp 30) (.tmp 32) (.const (.bool false)) false (.bool false) (fun _ => rfl) rfl rfl rfl ?_
      refine w_nil (xn_then (w_condF rfl (w_exit (xx_then (xx_then (xx_blk (xn_then (w_seq (w_seq ?_)))))))))
      have hcc : dgC u i n = false := by unfold dgC; simp; omega
      have hdr : dgR u = (n, i) := hdg.symm.trans (dg_stop hcc)
      refine w_reg ?_
      refine wl_mv (.tmp 6) (.int .i64 (n)) (fun _ => rfl) e6 rfl ?_
      cases hf33 : idk n with
      | true =>
       refine wl_call 31 [(.tmp 44)] _ [.int .i64 (n)] (.bool true) rfl rfl (fun _ _ => by kernel_rfl) (cB hf33 (pis_n n _)) rfl ?_
       intro u41 hq
       replace M := M.trans hq
       clear hq
       refine wl_un (fun v => Op.unary .not v) (.tmp 45) (.bool true) (.bool false) (fun _ => rfl) rfl (by kernel_rfl) rfl ?_
       refine w_nil (xn_then (w_condF rfl (w_skip (xn_then (w_seq ?_)))))
       refine w_any 5 [.inl (.int .i64 (n)), .inl (.string u), .inl (.int .i64 ((i : Nat) : Int)), .inl (.string (u.extract i u.size)), .inl (.int .i64 (n))] [] (by kernel_rfl) (by kernel_rfl) (by kernel_rfl) (by kernel_rfl) rfl (by kernel_rfl) (by kernel_rfl) late_nil ?_ ?_ ?_
       ·exact Ds.none rfl
       ·refine ea_cons ?_ (ea_cons ?_ (ea_cons ?_ (ea_cons ?_ (ea_cons ?_ (ea_nil)))))
        ·exact og_eq _ rfl (fun f wf hq hd K hK => go_run rfl (wo_mv (.tmp 6) (.int .i64 (n)) (fun _ => rfl) e6 (hK _ (Mo.refl _))))
        ·exact og_eq _ rfl (fun f wf hq hd K hK => go_run rfl (wo_mv (.tmp 0) (.string u) (fun _ => rfl) e0 (hK _ (Mo.refl _))))
        ·exact og_eq _ rfl (fun f wf hq hd K hK => go_run rfl (wo_mv (.tmp 5) (.int .i64 ((i : Nat) : Int)) (fun _ => rfl) e5 (hK _ (Mo.refl _))))
        ·exact og_eq _ rfl (fun f wf hq hd K hK => go_run rfl (wo_val (.string (u.extract i u.size)) (slb_lo _ _ _ u i (by exact (hd 1 rfl)) (by exact (hd 2 rfl)) hi _ _ _ _ _ _) (hK _ (Mo.refl _))))
        ·exact og_eq _ rfl (fun f wf hq hd K hK => go_run rfl (wo_mv (.tmp 47) (.int .i64 (n)) (fun _ => rfl) (hd 0 rfl) (hK _ (Mo.refl _))))
       intro kf42 u42 hq hR hne
       replace M := M.trans hq
       clear hq hR hne
       refine wl_m (.tmp 50) (.string (u.extract i u.size)) ?_
       refine wl_m (.const (.bool true)) (.bool true) ?_
       refine w_nil (xn_then (w_ret ?_))
       exact w_ret3 _ _ _ (.int .i64 (n)) (.string (u.extract i u.size)) (.bool true) rfl rfl rfl rfl ⟨ci_yes (by unfold cid; rw [if_neg hf0p, if_neg hf1p, hdr]; exact if_pos hf33), M⟩
      | false =>
       refine wl_call 31 [(.tmp 44)] _ [.int .i64 (n)] (.bool false) rfl rfl (fun _ _ => by kernel_rfl) (cB hf33 (pis_n n _)) rfl ?_
       intro u41 hq
       replace M := M.trans hq
       clear hq
       refine wl_un (fun v => Op.unary .not v) (.tmp 45) (.bool false) (.bool true) (fun _ => rfl) rfl (by kernel_rfl) rfl ?_
       refine w_nil (xn_then (w_condT rfl (w_seq (w_reg ?_))))
       refine wl_m (.const (.int .i64 (0))) (.int .i64 (0)) ?_
       refine wl_m (.const (.string ⟨#[]⟩)) (.string ⟨#[]⟩) ?_
       refine wl_m (.const (.bool false)) (.bool false) ?_
       refine w_nil (xn_then (w_ret (xr_then ?_)))
       exact w_ret3 _ _ _ (.int .i64 (0)) (.string ⟨#[]⟩) (.bool false) rfl rfl rfl rfl ⟨ci_no (by unfold cid; rw [if_neg hf0p, if_neg hf1p, hdr]; exact if_neg (by rw [hf33]; exact Bool.false_ne_true)), M⟩
    | false =>
     have hf31p := of_decide_eq_false hf31
     refine wl_b .geq 5 (.tmp 21) (.const (.int .u8 (48))) (.int .u8 (bt u i)) (.int .u8 (48)) (.bool false) (ge5 hf31 _ _ _) ?_
     refine wl_pick (.tmp 18) (.tmp 22) (.const (.bool false)) true (.bool false) (fun _ => rfl) rfl rfl rfl ?_
     refine wl_m (.tmp 23) (.bool false) ?_
     refine wl_skip rfl (wl_skip rfl (wl_skip rfl (wl_skip rfl ?_)))
     refine wl_pick (.tmp 24) (.tmp 28) (.const (.bool false)) false (.bool false) (fun _ => rfl) rfl rfl rfl ?_
     refine wl_m (.tmp 29) (.bool false) ?_
     refine wl_skip rfl (wl_skip rfl ?_)
     refine wl_pick (.tmp 30) (.tmp 32) (.const (.bool false)) false (.bool false) (fun _ => rfl) rfl rfl rfl ?_
     refine w_nil (xn_then (w_condF rfl (w_exit (xx_then (xx_then (xx_blk (xn_then (w_seq (w_seq ?_)))))))))
     have hcc : dgC u i n = false := by unfold dgC; simp; omega
     have hdr : dgR u = (n, i) := hdg.symm.trans (dg_stop hcc)
     refine w_reg ?_
     refine wl_mv (.tmp 6) (.int .i64 (n)) (fun _ => rfl) e6 rfl ?_
     cases hf32 : idk n with
     | true =>
      refine wl_call 31 [(.tmp 44)] _ [.int .i64 (n)] (.bool true) rfl rfl (fun _ _ => by kernel_rfl) (cB hf32 (pis_n n _)) rfl ?_
      intro u41 hq
      replace M := M.trans hq
      clear hq
      refine wl_un (fun v => Op.unary .not v) (.tmp 45) (.bool true) (.bool false) (fun _ => rfl) rfl (by kernel_rfl) rfl ?_
      refine w_nil (xn_then (w_condF rfl (w_skip (xn_then (w_seq ?_)))))
      refine w_any 5 [.inl (.int .i64 (n)), .inl (.string u), .inl (.int .i64 ((i : Nat) : Int)), .inl (.string (u.extract i u.size)), .inl (.int .i64 (n))] [] (by kernel_rfl) (by kernel_rfl) (by kernel_rfl) (by kernel_rfl) rfl (by kernel_rfl) (by kernel_rfl) late_nil ?_ ?_ ?_
      ·exact Ds.none rfl
      ·refine ea_cons ?_ (ea_cons ?_ (ea_cons ?_ (ea_cons ?_ (ea_cons ?_ (ea_nil)))))
       ·exact og_eq _ rfl (fun f wf hq hd K hK => go_run rfl (wo_mv (.tmp 6) (.int .i64 (n)) (fun _ => rfl) e6 (hK _ (Mo.refl _))))
       ·exact og_eq _ rfl (fun f wf hq hd K hK => go_run rfl (wo_mv (.tmp 0) (.string u) (fun _ => rfl) e0 (hK _ (Mo.refl _))))
       ·exact og_eq _ rfl (fun f wf hq hd K hK => go_run rfl (wo_mv (.tmp 5) (.int .i64 ((i : Nat) : Int)) (fun _ => rfl) e5 (hK _ (Mo.refl _))))
       ·exact og_eq _ rfl (fun f wf hq hd K hK => go_run rfl (wo_val (.string (u.extract i u.size)) (slb_lo _ _ _ u i (by exact (hd 1 rfl)) (by exact (hd 2 rfl)) hi _ _ _ _ _ _) (hK _ (Mo.refl _))))
       ·exact og_eq _ rfl (fun f wf hq hd K hK => go_run rfl (wo_mv (.tmp 47) (.int .i64 (n)) (fun _ => rfl) (hd 0 rfl) (hK _ (Mo.refl _))))
      intro kf42 u42 hq hR hne
      replace M := M.trans hq
      clear hq hR hne
      refine wl_m (.tmp 50) (.string (u.extract i u.size)) ?_
      refine wl_m (.const (.bool true)) (.bool true) ?_
      refine w_nil (xn_then (w_ret ?_))
      exact w_ret3 _ _ _ (.int .i64 (n)) (.string (u.extract i u.size)) (.bool true) rfl rfl rfl rfl ⟨ci_yes (by unfold cid; rw [if_neg hf0p, if_neg hf1p, hdr]; exact if_pos hf32), M⟩
     | false =>
      refine wl_call 31 [(.tmp 44)] _ [.int .i64 (n)] (.bool false) rfl rfl (fun _ _ => by kernel_rfl) (cB hf32 (pis_n n _)) rfl ?_
      intro u41 hq
      replace M := M.trans hq
      clear hq
      refine wl_un (fun v => Op.unary .not v) (.tmp 45) (.bool false) (.bool true) (fun _ => rfl) rfl (by kernel_rfl) rfl ?_
      refine w_nil (xn_then (w_condT rfl (w_seq (w_reg ?_))))
      refine wl_m (.const (.int .i64 (0))) (.int .i64 (0)) ?_
      refine wl_m (.const (.string ⟨#[]⟩)) (.string ⟨#[]⟩) ?_
      refine wl_m (.const (.bool false)) (.bool false) ?_
      refine w_nil (xn_then (w_ret (xr_then ?_)))
      exact w_ret3 _ _ _ (.int .i64 (0)) (.string ⟨#[]⟩) (.bool false) rfl rfl rfl rfl ⟨ci_no (by unfold cid; rw [if_neg hf0p, if_neg hf1p, hdr]; exact if_neg (by rw [hf32]; exact Bool.false_ne_true)), M⟩
   | false =>
    have hf30p := of_decide_eq_false hf30
    refine wl_b .lss 3 (.tmp 14) (.tmp 16) (.int .i64 ((i : Nat) : Int)) (.int .i64 ((u.size : Nat) : Int)) (.bool false) (ltN hf30 _ _ _) ?_
    refine wl_m (.tmp 17) (.bool false) ?_
    refine wl_skip rfl (wl_skip rfl (wl_skip rfl (wl_skip rfl ?_)))
    refine wl_pick (.tmp 18) (.tmp 22) (.const (.bool false)) false (.bool false) (fun _ => rfl) rfl rfl rfl ?_
    refine wl_m (.tmp 23) (.bool false) ?_
    refine wl_skip rfl (wl_skip rfl (wl_skip rfl (wl_skip rfl ?_)))
    refine wl_pick (.tmp 24) (.tmp 28) (.const (.bool false)) false (.bool false) (fun _ => rfl) rfl rfl rfl ?_
    refine wl_m (.tmp 29) (.bool false) ?_
    refine wl_skip rfl (wl_skip rfl ?_)
    refine wl_pick (.tmp 30) (.tmp 32) (.const (.bool false)) false (.bool false) (fun _ => rfl) rfl rfl rfl ?_
    refine w_nil (xn_then (w_condF rfl (w_exit (xx_then (xx_then (xx_blk (xn_then (w_seq (w_seq ?_)))))))))
    have hcc : dgC u i n = false := by unfold dgC; simp; omega
    have hdr : dgR u = (n, i) := hdg.symm.trans (dg_stop hcc)
    refine w_reg ?_
    refine wl_mv (.tmp 6) (.int .i64 (n)) (fun _ => rfl) e6 rfl ?_
    cases hf31 : idk n with
    | true =>
     refine wl_call 31 [(.tmp 44)] _ [.int .i64 (n)] (.bool true) rfl rfl (fun _ _ => by kernel_rfl) (cB hf31 (pis_n n _)) rfl ?_
     intro u41 hq
     replace M := M.trans hq
     clear hq
     refine wl_un (fun v => Op.unary .not v) (.tmp 45) (.bool true) (.bool false) (fun _ => rfl) rfl (by kernel_rfl) rfl ?_
     refine w_nil (xn_then (w_condF rfl (w_skip (xn_then (w_seq ?_)))))
     refine w_any 5 [.inl (.int .i64 (n)), .inl (.string u), .inl (.int .i64 ((i : Nat) : Int)), .inl (.string (u.extract i u.size)), .inl (.int .i64 (n))] [] (by kernel_rfl) (by kernel_rfl) (by kernel_rfl) (by kernel_rfl) rfl (by kernel_rfl) (by kernel_rfl) late_nil ?_ ?_ ?_
     ·exact Ds.none rfl
     ·refine ea_cons ?_ (ea_cons ?_ (ea_cons ?_ (ea_cons ?_ (ea_cons ?_ (ea_nil)))))
      ·exact og_eq _ rfl (fun f wf hq hd K hK => go_run rfl (wo_mv (.tmp 6) (.int .i64 (n)) (fun _ => rfl) e6 (hK _ (Mo.refl _))))
      ·exact og_eq _ rfl (fun f wf hq hd K hK => go_run rfl (wo_mv (.tmp 0) (.string u) (fun _ => rfl) e0 (hK _ (Mo.refl _))))
      ·exact og_eq _ rfl (fun f wf hq hd K hK => go_run rfl (wo_mv (.tmp 5) (.int .i64 ((i : Nat) : Int)) (fun _ => rfl) e5 (hK _ (Mo.refl _))))
      ·exact og_eq _ rfl (fun f wf hq hd K hK => go_run rfl (wo_val (.string (u.extract i u.size)) (slb_lo _ _ _ u i (by exact (hd 1 rfl)) (by exact (hd 2 rfl)) hi _ _ _ _ _ _) (hK _ (Mo.refl _))))
      ·exact og_eq _ rfl (fun f wf hq hd K hK => go_run rfl (wo_mv (.tmp 47) (.int .i64 (n)) (fun _ => rfl) (hd 0 rfl) (hK _ (Mo.refl _))))
     intro kf42 u42 hq hR hne
     replace M := M.trans hq
     clear hq hR hne
     refine wl_m (.tmp 50) (.string (u.extract i u.size)) ?_
     refine wl_m (.const (.bool true)) (.bool true) ?_
     refine w_nil (xn_then (w_ret ?_))
     exact w_ret3 _ _ _ (.int .i64 (n)) (.string (u.extract i u.size)) (.bool true) rfl rfl rfl rfl ⟨ci_yes (by unfold cid; rw [if_neg hf0p, if_neg hf1p, hdr]; exact if_pos hf31), M⟩
    | false =>
     refine wl_call 31 [(.tmp 44)] _ [.int .i64 (n)] (.bool false) rfl rfl (fun _ _ => by kernel_rfl) (cB hf31 (pis_n n _)) rfl ?_
     intro u41 hq
     replace M := M.trans hq
     clear hq
     refine wl_un (fun v => Op.unary .not v) (.tmp 45) (.bool false) (.bool true) (fun _ => rfl) rfl (by kernel_rfl) rfl ?_
     refine w_nil (xn_then (w_condT rfl (w_seq (w_reg ?_))))
     refine wl_m (.const (.int .i64 (0))) (.int .i64 (0)) ?_
     refine wl_m (.const (.string ⟨#[]⟩)) (.string ⟨#[]⟩) ?_
     refine wl_m (.const (.bool false)) (.bool false) ?_
     refine w_nil (xn_then (w_ret (xr_then ?_)))
     exact w_ret3 _ _ _ (.int .i64 (0)) (.string ⟨#[]⟩) (.bool false) rfl rfl rfl rfl ⟨ci_no (by unfold cid; rw [if_neg hf0p, if_neg hf1p, hdr]; exact if_neg (by rw [hf31]; exact Bool.false_ne_true)), M⟩
def cst (s nm : ByteArray) : Option (Int × ByteArray) := (bgn s (V.catB (V.catB ⟨#[47]⟩ nm) ⟨#[58]⟩)).bind cid
theorem szh {a : ByteArray} (h : a.size ≤ 140737488355328) : (⟨#[47]⟩ : ByteArray).size + a.size ≤ 9223372036854775807 ∧ (V.catB ⟨#[47]⟩ a).size + (⟨#[58]⟩ : ByteArray).size ≤ 9223372036854775807 := by
 unfold V.catB; simp only [ByteArray.size_append, V.s47, V.s58]; omega
theorem bgn_sz {s h u : ByteArray} (e : bgn s h = some u) : u.size ≤ s.size := by
 have q := bgS_sz s h
 unfold bgS at q
 rw [e] at q
 exact q
theorem cst_n {s nm : ByteArray} (w : World) (hs : s.size ≤ 9223372036854775807) (hn : nm.size ≤ 140737488355328) : Calls Tryd.prog 53 #[.string s, .string nm] w fun e9 w' => e9 = .returned (.tuple #[.int .i64 (ciN (cst s nm)), .string (ciS (cst s nm)), .bool (cst s nm).isSome]) ∧ Mo w w' := by
 have hz := szh hn
 refine w_enter 23 Tryd.func53 Tryd.ntmps53 rfl rfl ?_
 have M : Mo w w := Mo.refl _
 refine w_seq (w_reg ?_)
 refine wl_m (.const (.int .i64 (0))) (.int .i64 (0)) ?_
 refine wl_m (.const (.string ⟨#[]⟩)) (.string ⟨#[]⟩) ?_
 refine wl_m (.const (.bool false)) (.bool false) ?_
 refine w_nil (xn_then (w_seq (w_reg ?_)))
 refine wl_m (.tmp 0) (.string s) ?_
 refine wl_m (.tmp 1) (.string nm) ?_
 refine wl_b .add 9 (.const (.string ⟨#[47]⟩)) (.tmp 10) (.string ⟨#[47]⟩) (.string nm) (.string (V.catB ⟨#[47]⟩ nm)) (V.catc hz.1 _ _ _) ?_
 refine wl_b .add 9 (.tmp 11) (.const (.string ⟨#[58]⟩)) (.string (V.catB ⟨#[47]⟩ nm)) (.string ⟨#[58]⟩) (.string (V.catB (V.catB ⟨#[47]⟩ nm) ⟨#[58]⟩)) (V.catc hz.2 _ _ _) ?_
 cases hf0 : bgB s (V.catB (V.catB ⟨#[47]⟩ nm) ⟨#[58]⟩) with
 | true =>
  refine wl_call 38 [(.tmp 9), (.tmp 12)] _ [.string s, .string (V.catB (V.catB ⟨#[47]⟩ nm) ⟨#[58]⟩)] (.tuple #[.string (bgS s (V.catB (V.catB ⟨#[47]⟩ nm) ⟨#[58]⟩)), .bool true]) rfl rfl (fun _ _ => by kernel_rfl) (cR (by rw [hf0, bgB_t hf0]; rfl) (cpx_n (s := s) (h := (V.catB (V.catB ⟨#[47]⟩ nm) ⟨#[58]⟩)) _)) rfl ?_
  intro u1 hq
  replace M := M.trans hq
  clear hq
  refine wl_m (.tmp 13) (.tuple #[.string (bgS s (V.catB (V.catB ⟨#[47]⟩ nm) ⟨#[58]⟩)), .bool true]) ?_
  refine wl_un (fun v => Instr.extract v 0) (.tmp 8) (.tuple #[.string (bgS s (V.catB (V.catB ⟨#[47]⟩ nm) ⟨#[58]⟩)), .bool true]) (.string (bgS s (V.catB (V.catB ⟨#[47]⟩ nm) ⟨#[58]⟩))) (fun _ => rfl) rfl (by kernel_rfl) rfl ?_
  refine wl_un (fun v => Instr.extract v 1) (.tmp 8) (.tuple #[.string (bgS s (V.catB (V.catB ⟨#[47]⟩ nm) ⟨#[58]⟩)), .bool true]) (.bool true) (fun _ => rfl) rfl (by kernel_rfl) rfl ?_
  refine wl_m (.tmp 14) (.string (bgS s (V.catB (V.catB ⟨#[47]⟩ nm) ⟨#[58]⟩))) ?_
  refine wl_m (.tmp 15) (.bool true) ?_
  refine w_nil (xn_then (w_seq (w_seq (w_reg ?_))))
  refine wl_m (.tmp 7) (.bool true) ?_
  refine wl_un (fun v => Op.unary .not v) (.tmp 16) (.bool true) (.bool false) (fun _ => rfl) rfl (by kernel_rfl) rfl ?_
  refine w_nil (xn_then (w_condF rfl (w_skip (xn_then (w_seq (w_reg ?_))))))
  refine wl_m (.tmp 0) (.string (bgS s (V.catB (V.catB ⟨#[47]⟩ nm) ⟨#[58]⟩))) ?_
  refine wl_call 70 [(.tmp 18)] _ [.string (bgS s (V.catB (V.catB ⟨#[47]⟩ nm) ⟨#[58]⟩))] (.tuple #[.int .i64 (ciN (cid (bgS s (V.catB (V.catB ⟨#[47]⟩ nm) ⟨#[58]⟩)))), .string (ciS (cid (bgS s (V.catB (V.catB ⟨#[47]⟩ nm) ⟨#[58]⟩)))), .bool ((cid (bgS s (V.catB (V.catB ⟨#[47]⟩ nm) ⟨#[58]⟩))).isSome)]) rfl rfl (fun _ _ => by kernel_rfl) (cid_n (u := bgS s (V.catB (V.catB ⟨#[47]⟩ nm) ⟨#[58]⟩)) _ (Nat.le_trans (bgS_sz _ _) hs)) rfl ?_
  intro u2 hq
  replace M := M.trans hq
  clear hq
  refine wl_un (fun v => Instr.extract v 0) (.tmp 19) (.tuple #[.int .i64 (ciN (cid (bgS s (V.catB (V.catB ⟨#[47]⟩ nm) ⟨#[58]⟩)))), .string (ciS (cid (bgS s (V.catB (V.catB ⟨#[47]⟩ nm) ⟨#[58]⟩)))), .bool ((cid (bgS s (V.catB (V.catB ⟨#[47]⟩ nm) ⟨#[58]⟩))).isSome)]) (.int .i64 (ciN (cid (bgS s (V.catB (V.catB ⟨#[47]⟩ nm) ⟨#[58]⟩))))) (fun _ => rfl) rfl (by kernel_rfl) rfl ?_
  refine wl_un (fun v => Instr.extract v 1) (.tmp 19) (.tuple #[.int .i64 (ciN (cid (bgS s (V.catB (V.catB ⟨#[47]⟩ nm) ⟨#[58]⟩)))), .string (ciS (cid (bgS s (V.catB (V.catB ⟨#[47]⟩ nm) ⟨#[58]⟩)))), .bool ((cid (bgS s (V.catB (V.catB ⟨#[47]⟩ nm) ⟨#[58]⟩))).isSome)]) (.string (ciS (cid (bgS s (V.catB (V.catB ⟨#[47]⟩ nm) ⟨#[58]⟩))))) (fun _ => rfl) rfl (by kernel_rfl) rfl ?_
  refine wl_un (fun v => Instr.extract v 2) (.tmp 19) (.tuple #[.int .i64 (ciN (cid (bgS s (V.catB (V.catB ⟨#[47]⟩ nm) ⟨#[58]⟩)))), .string (ciS (cid (bgS s (V.catB (V.catB ⟨#[47]⟩ nm) ⟨#[58]⟩)))), .bool ((cid (bgS s (V.catB (V.catB ⟨#[47]⟩ nm) ⟨#[58]⟩))).isSome)]) (.bool ((cid (bgS s (V.catB (V.catB ⟨#[47]⟩ nm) ⟨#[58]⟩))).isSome)) (fun _ => rfl) rfl (by kernel_rfl) rfl ?_
  refine wl_m (.tmp 20) (.int .i64 (ciN (cid (bgS s (V.catB (V.catB ⟨#[47]⟩ nm) ⟨#[58]⟩))))) ?_
  refine wl_m (.tmp 21) (.string (ciS (cid (bgS s (V.catB (V.catB ⟨#[47]⟩ nm) ⟨#[58]⟩))))) ?_
  refine wl_m (.tmp 22) (.bool ((cid (bgS s (V.catB (V.catB ⟨#[47]⟩ nm) ⟨#[58]⟩))).isSome)) ?_
  refine w_nil (xn_then (w_ret ?_))
  exact w_ret3 _ _ _ (.int .i64 (ciN (cid (bgS s (V.catB (V.catB ⟨#[47]⟩ nm) ⟨#[58]⟩))))) (.string (ciS (cid (bgS s (V.catB (V.catB ⟨#[47]⟩ nm) ⟨#[58]⟩))))) (.bool ((cid (bgS s (V.catB (V.catB ⟨#[47]⟩ nm) ⟨#[58]⟩))).isSome)) rfl rfl rfl rfl ⟨by unfold cst; rw [bgB_t hf0]; rfl, M⟩
 | false =>
  refine wl_call 38 [(.tmp 9), (.tmp 12)] _ [.string s, .string (V.catB (V.catB ⟨#[47]⟩ nm) ⟨#[58]⟩)] (.tuple #[.string s, .bool false]) rfl rfl (fun _ _ => by kernel_rfl) (cR (by rw [hf0, bgB_f hf0]; rfl) (cpx_n (s := s) (h := (V.catB (V.catB ⟨#[47]⟩ nm) ⟨#[58]⟩)) _)) rfl ?_
  intro u1 hq
  replace M := M.trans hq
  clear hq
  refine wl_m (.tmp 13) (.tuple #[.string s, .bool false]) ?_
  refine wl_un (fun v => Instr.extract v 0) (.tmp 8) (.tuple #[.string s, .bool false]) (.string s) (fun _ => rfl) rfl (by kernel_rfl) rfl ?_
  refine wl_un (fun v => Instr.extract v 1) (.tmp 8) (.tuple #[.string s, .bool false]) (.bool false) (fun _ => rfl) rfl (by kernel_rfl) rfl ?_
  refine wl_m (.tmp 14) (.string s) ?_
  refine wl_m (.tmp 15) (.bool false) ?_
  refine w_nil (xn_then (w_seq (w_seq (w_reg ?_))))
  refine wl_m (.tmp 7) (.bool false) ?_
  refine wl_un (fun v => Op.unary .not v) (.tmp 16) (.bool false) (.bool true) (fun _ => rfl) rfl (by kernel_rfl) rfl ?_
  refine w_nil (xn_then (w_condT rfl (w_seq (w_reg ?_))))
  refine wl_m (.const (.int .i64 (0))) (.int .i64 (0)) ?_
  refine wl_m (.const (.string ⟨#[]⟩)) (.string ⟨#[]⟩) ?_
  refine wl_m (.const (.bool false)) (.bool false) ?_
  refine w_nil (xn_then (w_ret (xr_then ?_)))
  exact w_ret3 _ _ _ (.int .i64 (0)) (.string ⟨#[]⟩) (.bool false) rfl rfl rfl rfl ⟨ci_no (by unfold cst; rw [bgB_f hf0]; rfl), M⟩
end Go.Proofs.YtnffhcjmpjajlaaDoor
