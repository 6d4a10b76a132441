/-
  Decimals as the document says them: sums, differences, how two stand, which way a cut rounds. Decimals as the document says them: how two stand, rounding, products. Values as the document says them: what is done with one. Operators as the document says them. Brackets as the document says them. Sums as the document says them: bit by bit. Sums as the document says them: of five limbs. What an aggregate says of a column, as the document says it. Formulas as the document says them: small calls, tables. Formulas as the document says them: what an expression comes to. Folding as the document says it. Folding as the document says it: the loop; Fold, whole. The same tree is the same. A region that draws its order and in which nothing is written: each operation once, by what is known of its operands. The law FormulaFolds.
-/
import Derived.Test.YtfmfeipeeedfpaaGreatKf
import Derived.Test.YtfmfeipeeedfpaaGreatKd
namespace Go.Proofs.YtfmfeipeeedfpaaGreat
open S Go.RowKit
set_option maxRecDepth 20000 in
theorem q_may (S p : Int) (w : World) : Calls Tryz.prog 103 #[.int .i64 S, .int .i64 p] w fun r W => r = .returned (.int .i64 (rkE S p)) ∧ Mb w W := by
  refine fn_pure [.int .i64 S, .int .i64 p] Tryz.func103 rfl rfl rfl (run_ok (st mo ?_))
  have n1 : ∀ h : ¬ (0 ≤ S ∧ S ≤ 18), rkE S p = 21 := fun h => by unfold rkE; rw [if_neg (fun q => h (sc_iff.1 q))]
  refine ⟨fun h => st mo ?_, fun h => st mo ⟨fun g => st mo ?_, fun g => st mo ?_⟩⟩
  · show _ = _; rw [n1 (by omega)]
  · show _ = _; rw [n1 (by omega)]
  have n2 : rkE S p = if 1 ≤ p ∧ p ≤ 5 then 0 else 22 := by unfold rkE; rw [if_pos (sc_iff.2 ⟨by omega, by omega⟩)]
  refine ⟨fun h => st mo ?_, fun h => st mo ⟨fun g => st mo ?_, fun g => st mo ?_⟩⟩
  · show _ = _; rw [n2, if_neg (by omega)]
  · show _ = _; rw [n2, if_neg (by omega)]
  · show _ = _; rw [n2, if_pos (by omega)]
theorem qadd_r {r : Int} (hr : 0 ≤ r ∧ r + r < MM) (W : World) : Calls Tryz.prog 180 #[nv r, nv r] W fun e W' => e = .returned (.tuple #[nv (r + r), .bool false]) ∧ Mb W W' :=
  qadd_c rfl (decide_eq_false (by rw [lo_n (by omega) hr.1]; omega)) W
set_option maxRecDepth 20000 in
theorem q_up (b : Bool) (q r d p : Int) (h0 : ¬ r = 0) (hr : 0 ≤ r ∧ r + r < MM) (hd : 0 ≤ d ∧ d < MM) (w : World) : Calls Tryz.prog 150 #[.int .i64 p, .bool b, nv q, nv r, nv d] w fun e W => e = .returned (.bool (aw b q r d p)) ∧ Mb w W := by
  obtain ⟨g1, g2, g3⟩ := @cm_g (r + r) d
  cases b
  · refine fn_pure [.int .i64 p, litF, nv q, nv r, nv d] Tryz.func150 rfl rfl rfl (run_ok (st mo ?_))
    refine ⟨_, fun nn => r_call (t := .tuple #[nv (r + r), litF]) rfl rfl Tryz.func180 (fun W M E => qadd_r hr W), st mo ?_⟩
    refine ⟨_, fun nn => r_call (t := .int .i64 (cm (r + r) d)) rfl rfl Tryz.func179 (fun W M E => qcmp_c ⟨by omega, hr.2⟩ hd rfl W), st mo ?_⟩
    refine ⟨fun h1 => st mo ⟨fun h => st mo ?_, fun h => st mo ?_⟩, fun h1 => st mo ⟨fun h2 => st mo ?_, fun h2 => st mo ⟨fun h4 => st mo ?_, fun h4 => st mo ⟨fun h5 => st mo ?_, fun h5 => st mo ?_⟩⟩⟩⟩
    · show _ = _; rw [aw, if_neg h0, if_pos h1, decide_eq_true (g1.1 h)]
    · show _ = _; rw [aw, if_neg h0, if_pos h1, decide_eq_false (by omega)]
    · refine ⟨fun h => st mo ?_, fun h => st mo ⟨fun g => st mo ?_, fun g => st mo ?_⟩⟩
      · show _ = _; rw [aw, if_neg h0, if_neg h1, if_pos h2, decide_eq_true (g2.1 h)]; rfl
      · refine ⟨by decide, q % 2, by rw [Int.tmod_eq_emod_of_nonneg (by unfold l0; omega)]; unfold l0; omega, st mo ⟨fun ho => st mo ?_, fun ho => st mo ?_⟩⟩
        · show _ = _; rw [aw, if_neg h0, if_neg h1, if_pos h2, decide_eq_true (g3.1 g), decide_eq_true ho]; simp
        · show _ = _; rw [aw, if_neg h0, if_neg h1, if_pos h2, decide_eq_false (by omega : ¬ d < r + r), decide_eq_false ho]; simp
      · show _ = _; rw [aw, if_neg h0, if_neg h1, if_pos h2, decide_eq_false (by omega), decide_eq_false (by omega)]; rfl
    · show _ = _; rw [aw, if_neg h0, if_neg h1, if_neg h2, if_pos h4]
    · show _ = _; rw [aw, if_neg h0, if_neg h1, if_neg h2, if_neg h4, if_pos h5]
    · show _ = _; rw [aw, if_neg h0, if_neg h1, if_neg h2, if_neg h4, if_neg h5]
  · refine fn_pure [.int .i64 p, litT, nv q, nv r, nv d] Tryz.func150 rfl rfl rfl (run_ok (st mo ?_))
    refine ⟨_, fun nn => r_call (t := .tuple #[nv (r + r), litF]) rfl rfl Tryz.func180 (fun W M E => qadd_r hr W), st mo ?_⟩
    refine ⟨_, fun nn => r_call (t := .int .i64 (cm (r + r) d)) rfl rfl Tryz.func179 (fun W M E => qcmp_c ⟨by omega, hr.2⟩ hd rfl W), st mo ?_⟩
    refine ⟨fun h1 => st mo ⟨fun h => st mo ?_, fun h => st mo ?_⟩, fun h1 => st mo ⟨fun h2 => st mo ?_, fun h2 => st mo ⟨fun h4 => st mo ?_, fun h4 => st mo ⟨fun h5 => st mo ?_, fun h5 => st mo ?_⟩⟩⟩⟩
    · show _ = _; rw [aw, if_neg h0, if_pos h1, decide_eq_true (g1.1 h)]
    · show _ = _; rw [aw, if_neg h0, if_pos h1, decide_eq_false (by omega)]
    · refine ⟨fun h => st mo ?_, fun h => st mo ⟨fun g => st mo ?_, fun g => st mo ?_⟩⟩
      · show _ = _; rw [aw, if_neg h0, if_neg h1, if_pos h2, decide_eq_true (g2.1 h)]; rfl
      · refine ⟨by decide, q % 2, by rw [Int.tmod_eq_emod_of_nonneg (by unfold l0; omega)]; unfold l0; omega, st mo ⟨fun ho => st mo ?_, fun ho => st mo ?_⟩⟩
        · show _ = _; rw [aw, if_neg h0, if_neg h1, if_pos h2, decide_eq_true (g3.1 g), decide_eq_true ho]; simp
        · show _ = _; rw [aw, if_neg h0, if_neg h1, if_pos h2, decide_eq_false (by omega : ¬ d < r + r), decide_eq_false ho]; simp
      · show _ = _; rw [aw, if_neg h0, if_neg h1, if_pos h2, decide_eq_false (by omega), decide_eq_false (by omega)]; rfl
    · show _ = _; rw [aw, if_neg h0, if_neg h1, if_neg h2, if_pos h4]
    · show _ = _; rw [aw, if_neg h0, if_neg h1, if_neg h2, if_neg h4, if_pos h5]
    · show _ = _; rw [aw, if_neg h0, if_neg h1, if_neg h2, if_neg h4, if_neg h5]
set_option maxRecDepth 20000 in
theorem q_add (b : Bool) (n s : Int) (c : Bool) (m t : Int) (hn : 0 ≤ n ∧ n < MM) (hm : 0 ≤ m ∧ m < MM) (h1 : ck b n s = 0) (h2 : ck c m t = 0) (w : World) : Calls Tryz.prog 105 #[dc b n s, dc c m t] w fun r W => r = .returned (addR b n s c m t).v ∧ Mb w W := by
  obtain ⟨i, j, hi, hj, hi8, hj8, s0, t0, hS⟩ := lifts (ck_s h1) (ck_s h2)
  have bX := lift_b hn hi8
  have bY := lift_b hm hj8
  by_cases hbc : c = b
  · subst hbc
    rw [addR_same c hn hm hi hj]
    have bZ : 0 ≤ n * 10 ^ i + m * 10 ^ j ∧ n * 10 ^ i + m * 10 ^ j < MM * MM := ⟨by omega, by unfold MM at *; omega⟩
    generalize hr : fxR c (n * 10 ^ i + m * 10 ^ j) (max s t) = r
    cases c
    · refine fn_pure [dcl litF n s, dcl litF m t] Tryz.func105 rfl rfl rfl (run_ok (st mo ?_))
      refine ⟨_, fun nn => r_call (t := .int .i64 0) rfl rfl Tryz.func152 (fun W M E => q_both false n s false m t hn hm h1 h2 W), st mo ⟨fun h => absurd rfl h, fun _ => st mo ?_⟩⟩
      refine ⟨_, fun nn => r_max s t, st mo ⟨(i : Int), wz i (by omega), st mo ?_⟩⟩
      refine ⟨_, fun nn => r_call (t := dw (n * 10 ^ i)) rfl rfl Tryz.func147 (fun W M E => q_shift n i hn (by omega) W), st mo ⟨(j : Int), wz j (by omega), st mo ?_⟩⟩
      refine ⟨_, fun nn => r_call (t := dw (m * 10 ^ j)) rfl rfl Tryz.func147 (fun W M E => q_shift m j hm (by omega) W), st mo ?_⟩
      refine ⟨_, r_eqB false false, fun _ => st mo ?_, fun h => absurd h (by decide)⟩
      refine ⟨_, fun nn => r_call (t := dw (n * 10 ^ i + m * 10 ^ j)) rfl rfl Tryz.func151 (fun W M E => q_plus _ _ W), st mo ?_⟩
      refine ⟨_, fun nn => r_call (t := r.v) rfl rfl Tryz.func102 (fun W M E => q_at hr bZ W), st mo ⟨dk, st mo ?_⟩⟩
      rfl
    · refine fn_pure [dcl litT n s, dcl litT m t] Tryz.func105 rfl rfl rfl (run_ok (st mo ?_))
      refine ⟨_, fun nn => r_call (t := .int .i64 0) rfl rfl Tryz.func152 (fun W M E => q_both true n s true m t hn hm h1 h2 W), st mo ⟨fun h => absurd rfl h, fun _ => st mo ?_⟩⟩
      refine ⟨_, fun nn => r_max s t, st mo ⟨(i : Int), wz i (by omega), st mo ?_⟩⟩
      refine ⟨_, fun nn => r_call (t := dw (n * 10 ^ i)) rfl rfl Tryz.func147 (fun W M E => q_shift n i hn (by omega) W), st mo ⟨(j : Int), wz j (by omega), st mo ?_⟩⟩
      refine ⟨_, fun nn => r_call (t := dw (m * 10 ^ j)) rfl rfl Tryz.func147 (fun W M E => q_shift m j hm (by omega) W), st mo ?_⟩
      refine ⟨_, r_eqB true true, fun _ => st mo ?_, fun h => absurd h (by decide)⟩
      refine ⟨_, fun nn => r_call (t := dw (n * 10 ^ i + m * 10 ^ j)) rfl rfl Tryz.func151 (fun W M E => q_plus _ _ W), st mo ?_⟩
      refine ⟨_, fun nn => r_call (t := r.v) rfl rfl Tryz.func102 (fun W M E => q_at hr bZ W), st mo ⟨dk, st mo ?_⟩⟩
      rfl
  · obtain rfl : c = !b := by cases b <;> cases c <;> simp_all
    rw [addR_diff b hi hj]
    by_cases hlt : n * 10 ^ i < m * 10 ^ j
    · rw [if_pos hlt]
      have hc : cm (n * 10 ^ i) (m * 10 ^ j) = -1 := if_pos hlt
      have bZ : 0 ≤ m * 10 ^ j - n * 10 ^ i ∧ m * 10 ^ j - n * 10 ^ i < MM * MM := ⟨by omega, by unfold MM at *; omega⟩
      generalize hr : fxR (!b) (m * 10 ^ j - n * 10 ^ i) (max s t) = r
      cases b
      · refine fn_pure [dcl litF n s, dcl litT m t] Tryz.func105 rfl rfl rfl (run_ok (st mo ?_))
        refine ⟨_, fun nn => r_call (t := .int .i64 0) rfl rfl Tryz.func152 (fun W M E => q_both false n s true m t hn hm h1 h2 W), st mo ⟨fun h => absurd rfl h, fun _ => st mo ?_⟩⟩
        refine ⟨_, fun nn => r_max s t, st mo ⟨(i : Int), wz i (by omega), st mo ?_⟩⟩
        refine ⟨_, fun nn => r_call (t := dw (n * 10 ^ i)) rfl rfl Tryz.func147 (fun W M E => q_shift n i hn (by omega) W), st mo ⟨(j : Int), wz j (by omega), st mo ?_⟩⟩
        refine ⟨_, fun nn => r_call (t := dw (m * 10 ^ j)) rfl rfl Tryz.func147 (fun W M E => q_shift m j hm (by omega) W), st mo ?_⟩
        refine ⟨_, r_eqB false true, fun h => absurd h (by decide), fun _ => st mo ?_⟩
        refine ⟨_, fun nn => r_call (t := .int .i64 (-1)) rfl rfl Tryz.func153 (fun W M E => hc ▸ q_cmpW _ _ (lift_w bX) (lift_w bY) W), st mo ?_⟩
        refine ⟨fun h => absurd h (by decide), fun _ => st mo ?_⟩
        refine ⟨_, fun nn => r_call (t := dw (m * 10 ^ j - n * 10 ^ i)) rfl rfl Tryz.func154 (fun W M E => q_minus _ _ W), st mo ?_⟩
        refine ⟨_, fun nn => r_call (t := r.v) rfl rfl Tryz.func102 (fun W M E => q_at hr bZ W), st mo ⟨dk, st mo ?_⟩⟩
        rfl
      · refine fn_pure [dcl litT n s, dcl litF m t] Tryz.func105 rfl rfl rfl (run_ok (st mo ?_))
        refine ⟨_, fun nn => r_call (t := .int .i64 0) rfl rfl Tryz.func152 (fun W M E => q_both true n s false m t hn hm h1 h2 W), st mo ⟨fun h => absurd rfl h, fun _ => st mo ?_⟩⟩
        refine ⟨_, fun nn => r_max s t, st mo ⟨(i : Int), wz i (by omega), st mo ?_⟩⟩
        refine ⟨_, fun nn => r_call (t := dw (n * 10 ^ i)) rfl rfl Tryz.func147 (fun W M E => q_shift n i hn (by omega) W), st mo ⟨(j : Int), wz j (by omega), st mo ?_⟩⟩
        refine ⟨_, fun nn => r_call (t := dw (m * 10 ^ j)) rfl rfl Tryz.func147 (fun W M E => q_shift m j hm (by omega) W), st mo ?_⟩
        refine ⟨_, r_eqB true false, fun h => absurd h (by decide), fun _ => st mo ?_⟩
        refine ⟨_, fun nn => r_call (t := .int .i64 (-1)) rfl rfl Tryz.func153 (fun W M E => hc ▸ q_cmpW _ _ (lift_w bX) (lift_w bY) W), st mo ?_⟩
        refine ⟨fun h => absurd h (by decide), fun _ => st mo ?_⟩
        refine ⟨_, fun nn => r_call (t := dw (m * 10 ^ j - n * 10 ^ i)) rfl rfl Tryz.func154 (fun W M E => q_minus _ _ W), st mo ?_⟩
        refine ⟨_, fun nn => r_call (t := r.v) rfl rfl Tryz.func102 (fun W M E => q_at hr bZ W), st mo ⟨dk, st mo ?_⟩⟩
        rfl
    · rw [if_neg hlt]
      have hc : 0 ≤ cm (n * 10 ^ i) (m * 10 ^ j) := by unfold cm; rw [if_neg hlt]; split <;> decide
      have bZ : 0 ≤ n * 10 ^ i - m * 10 ^ j ∧ n * 10 ^ i - m * 10 ^ j < MM * MM := ⟨by omega, by unfold MM at *; omega⟩
      generalize hr : fxR b (n * 10 ^ i - m * 10 ^ j) (max s t) = r
      cases b
      · refine fn_pure [dcl litF n s, dcl litT m t] Tryz.func105 rfl rfl rfl (run_ok (st mo ?_))
        refine ⟨_, fun nn => r_call (t := .int .i64 0) rfl rfl Tryz.func152 (fun W M E => q_both false n s true m t hn hm h1 h2 W), st mo ⟨fun h => absurd rfl h, fun _ => st mo ?_⟩⟩
        refine ⟨_, fun nn => r_max s t, st mo ⟨(i : Int), wz i (by omega), st mo ?_⟩⟩
        refine ⟨_, fun nn => r_call (t := dw (n * 10 ^ i)) rfl rfl Tryz.func147 (fun W M E => q_shift n i hn (by omega) W), st mo ⟨(j : Int), wz j (by omega), st mo ?_⟩⟩
        refine ⟨_, fun nn => r_call (t := dw (m * 10 ^ j)) rfl rfl Tryz.func147 (fun W M E => q_shift m j hm (by omega) W), st mo ?_⟩
        refine ⟨_, r_eqB false true, fun h => absurd h (by decide), fun _ => st mo ?_⟩
        refine ⟨_, fun nn => r_call (t := .int .i64 (cm (n * 10 ^ i) (m * 10 ^ j))) rfl rfl Tryz.func153 (fun W M E => q_cmpW _ _ (lift_w bX) (lift_w bY) W), st mo ?_⟩
        refine ⟨fun _ => st mo ?_, fun h => absurd h (by omega)⟩
        refine ⟨_, fun nn => r_call (t := dw (n * 10 ^ i - m * 10 ^ j)) rfl rfl Tryz.func154 (fun W M E => q_minus _ _ W), st mo ?_⟩
        refine ⟨_, fun nn => r_call (t := r.v) rfl rfl Tryz.func102 (fun W M E => q_at hr bZ W), st mo ⟨dk, st mo ?_⟩⟩
        rfl
      · refine fn_pure [dcl litT n s, dcl litF m t] Tryz.func105 rfl rfl rfl (run_ok (st mo ?_))
        refine ⟨_, fun nn => r_call (t := .int .i64 0) rfl rfl Tryz.func152 (fun W M E => q_both true n s false m t hn hm h1 h2 W), st mo ⟨fun h => absurd rfl h, fun _ => st mo ?_⟩⟩
        refine ⟨_, fun nn => r_max s t, st mo ⟨(i : Int), wz i (by omega), st mo ?_⟩⟩
        refine ⟨_, fun nn => r_call (t := dw (n * 10 ^ i)) rfl rfl Tryz.func147 (fun W M E => q_shift n i hn (by omega) W), st mo ⟨(j : Int), wz j (by omega), st mo ?_⟩⟩
        refine ⟨_, fun nn => r_call (t := dw (m * 10 ^ j)) rfl rfl Tryz.func147 (fun W M E => q_shift m j hm (by omega) W), st mo ?_⟩
        refine ⟨_, r_eqB true false, fun h => absurd h (by decide), fun _ => st mo ?_⟩
        refine ⟨_, fun nn => r_call (t := .int .i64 (cm (n * 10 ^ i) (m * 10 ^ j))) rfl rfl Tryz.func153 (fun W M E => q_cmpW _ _ (lift_w bX) (lift_w bY) W), st mo ?_⟩
        refine ⟨fun _ => st mo ?_, fun h => absurd h (by omega)⟩
        refine ⟨_, fun nn => r_call (t := dw (n * 10 ^ i - m * 10 ^ j)) rfl rfl Tryz.func154 (fun W M E => q_minus _ _ W), st mo ?_⟩
        refine ⟨_, fun nn => r_call (t := r.v) rfl rfl Tryz.func102 (fun W M E => q_at hr bZ W), st mo ⟨dk, st mo ?_⟩⟩
        rfl
set_option maxRecDepth 20000 in
theorem q_sub (b : Bool) (n s : Int) (c : Bool) (m t : Int) (hn : 0 ≤ n ∧ n < MM) (hm : 0 ≤ m ∧ m < MM) (h1 : ck b n s = 0) (h2 : ck c m t = 0) (w : World) : Calls Tryz.prog 106 #[dc b n s, dc c m t] w fun r W => r = .returned (subR b n s c m t).v ∧ Mb w W := by
  have e : subR b n s c m t = addR b n s (!c && !decide (m = 0)) m t := by unfold subR addR; rw [neg_sgn h2]
  refine fn_pure [dc b n s, dc c m t] Tryz.func106 rfl rfl rfl (run_ok (st mo ?_))
  refine ⟨_, fun nn => r_call (t := .int .i64 0) rfl rfl Tryz.func152 (fun W M E => q_both b n s c m t hn hm h1 h2 W), st mo ⟨fun h => absurd rfl h, fun _ => st mo ?_⟩⟩
  refine ⟨_, fun nn => r_call (t := .tuple #[dc (!c && !decide (m = 0)) m t, .int .i64 0]) rfl rfl Tryz.func68 (fun W M E => q_dneg c m t hm h2 W), st mo ?_⟩
  refine ⟨_, fun nn => r_call (t := (addR b n s (!c && !decide (m = 0)) m t).v) rfl rfl Tryz.func105 (fun W M E => q_add b n s _ m t hn hm h1 (neg_ck h2) W), st mo ?_⟩
  rw [e]; rfl
theorem qc_11 {X Y : Int} : cm (-X) (-Y) = cm Y X := by unfold cm; repeat (first | omega | split)
theorem qc_10 {X Y : Int} (h : 0 < X) (g : 0 ≤ Y) : cm (-X) Y = -1 := by unfold cm; rw [if_pos (by omega)]
theorem qc_01 {X Y : Int} (h : 0 < Y) (g : 0 ≤ X) : cm X (-Y) = 1 := by unfold cm; repeat (first | omega | split)
theorem qc_e {b : Bool} {n s : Int} {c : Bool} {m t : Int} {i j : Nat} (hi : max s t - s = (i : Int)) (hj : max s t - t = (j : Int)) : cmpR b n s c m t = cm (sgn b (n * 10 ^ i)) (sgn c (m * 10 ^ j)) := by
  unfold cmpR; rw [hi, hj, pw_nat, pw_nat, sgn_mul, sgn_mul]
theorem qc_p {n s : Int} {i : Nat} (h : ck true n s = 0) (hn : 0 ≤ n) : 0 < n * 10 ^ i := Int.mul_pos (by have := (ck_0 h).2 rfl; omega) (Int.pow_pos (by decide))
set_option maxRecDepth 20000 in
theorem q_cmp (b : Bool) (n s : Int) (c : Bool) (m t : Int) (hn : 0 ≤ n ∧ n < MM) (hm : 0 ≤ m ∧ m < MM) (h1 : ck b n s = 0) (h2 : ck c m t = 0) (w : World) : Calls Tryz.prog 108 #[dc b n s, dc c m t] w fun r W => r = .returned (.int .i64 (cmpR b n s c m t)) ∧ Mb w W := by
  obtain ⟨i, j, hi, hj, hi8, hj8, s0, t0, hS⟩ := lifts (ck_s h1) (ck_s h2)
  have bX := lift_b hn hi8
  have bY := lift_b hm hj8
  rw [qc_e hi hj]
  cases b <;> cases c
  · refine fn_pure [dcl litF n s, dcl litF m t] Tryz.func108 rfl rfl rfl (run_ok (st mo ?_))
    refine ⟨_, fun nn => r_call (t := .int .i64 0) rfl rfl Tryz.func152 (fun W M E => q_both false n s false m t hn hm h1 h2 W), st mo ⟨fun h => absurd rfl h, fun _ => st mo ?_⟩⟩
    refine ⟨_, fun nn => r_max s t, st mo ⟨(i : Int), wz i (by omega), st mo ?_⟩⟩
    refine ⟨_, fun nn => r_call (t := dw (n * 10 ^ i)) rfl rfl Tryz.func147 (fun W M E => q_shift n i hn (by omega) W), st mo ⟨(j : Int), wz j (by omega), st mo ?_⟩⟩
    refine ⟨_, fun nn => r_call (t := dw (m * 10 ^ j)) rfl rfl Tryz.func147 (fun W M E => q_shift m j hm (by omega) W), st mo ?_⟩
    exact ⟨_, fun nn => r_call (t := .int .i64 (cm (n * 10 ^ i) (m * 10 ^ j))) rfl rfl Tryz.func153 (fun W M E => q_cmpW _ _ (lift_w bX) (lift_w bY) W), st mo rfl⟩
  · refine fn_pure [dcl litF n s, dcl litT m t] Tryz.func108 rfl rfl rfl (run_ok (st mo ?_))
    refine ⟨_, fun nn => r_call (t := .int .i64 0) rfl rfl Tryz.func152 (fun W M E => q_both false n s true m t hn hm h1 h2 W), st mo ⟨fun h => absurd rfl h, fun _ => st mo ?_⟩⟩
    refine ⟨_, fun nn => r_max s t, st mo ⟨(i : Int), wz i (by omega), st mo ?_⟩⟩
    refine ⟨_, fun nn => r_call (t := dw (n * 10 ^ i)) rfl rfl Tryz.func147 (fun W M E => q_shift n i hn (by omega) W), st mo ⟨(j : Int), wz j (by omega), st mo ?_⟩⟩
    refine ⟨_, fun nn => r_call (t := dw (m * 10 ^ j)) rfl rfl Tryz.func147 (fun W M E => q_shift m j hm (by omega) W), st mo ?_⟩
    (show _ = _; rw [show sgn true (m * 10 ^ j) = -(m * 10 ^ j) from rfl, show sgn false (n * 10 ^ i) = n * 10 ^ i from rfl, qc_01 (qc_p h2 hm.1) bX.1])
  · refine fn_pure [dcl litT n s, dcl litF m t] Tryz.func108 rfl rfl rfl (run_ok (st mo ?_))
    refine ⟨_, fun nn => r_call (t := .int .i64 0) rfl rfl Tryz.func152 (fun W M E => q_both true n s false m t hn hm h1 h2 W), st mo ⟨fun h => absurd rfl h, fun _ => st mo ?_⟩⟩
    refine ⟨_, fun nn => r_max s t, st mo ⟨(i : Int), wz i (by omega), st mo ?_⟩⟩
    refine ⟨_, fun nn => r_call (t := dw (n * 10 ^ i)) rfl rfl Tryz.func147 (fun W M E => q_shift n i hn (by omega) W), st mo ⟨(j : Int), wz j (by omega), st mo ?_⟩⟩
    refine ⟨_, fun nn => r_call (t := dw (m * 10 ^ j)) rfl rfl Tryz.func147 (fun W M E => q_shift m j hm (by omega) W), st mo ?_⟩
    (show _ = _; rw [show sgn true (n * 10 ^ i) = -(n * 10 ^ i) from rfl, show sgn false (m * 10 ^ j) = m * 10 ^ j from rfl, qc_10 (qc_p h1 hn.1) bY.1])
  · refine fn_pure [dcl litT n s, dcl litT m t] Tryz.func108 rfl rfl rfl (run_ok (st mo ?_))
    refine ⟨_, fun nn => r_call (t := .int .i64 0) rfl rfl Tryz.func152 (fun W M E => q_both true n s true m t hn hm h1 h2 W), st mo ⟨fun h => absurd rfl h, fun _ => st mo ?_⟩⟩
    refine ⟨_, fun nn => r_max s t, st mo ⟨(i : Int), wz i (by omega), st mo ?_⟩⟩
    refine ⟨_, fun nn => r_call (t := dw (n * 10 ^ i)) rfl rfl Tryz.func147 (fun W M E => q_shift n i hn (by omega) W), st mo ⟨(j : Int), wz j (by omega), st mo ?_⟩⟩
    refine ⟨_, fun nn => r_call (t := dw (m * 10 ^ j)) rfl rfl Tryz.func147 (fun W M E => q_shift m j hm (by omega) W), st mo ?_⟩
    exact ⟨_, fun nn => r_call (t := .int .i64 (cm (m * 10 ^ j) (n * 10 ^ i))) rfl rfl Tryz.func153 (fun W M E => q_cmpW _ _ (lift_w bY) (lift_w bX) W), st mo (by rw [show sgn true (n * 10 ^ i) = -(n * 10 ^ i) from rfl, show sgn true (m * 10 ^ j) = -(m * 10 ^ j) from rfl, qc_11]; rfl)⟩
theorem rdiv_c {X D : Int} {q r : Int} {o : Bool} (hX : 0 ≤ X ∧ X < MM * MM) (hD : 0 ≤ D ∧ D < MM) (h : dq (X / MM) (X % MM) D = q ∧ dr (X / MM) (X % MM) D = r ∧ decide (X / MM < D) = o) (W : World) : Calls Tryz.prog 149 #[nv (X / MM), nv X, nv D] W fun e W' => e = .returned (.tuple #[nv q, nv r, .bool o]) ∧ Mb W W' := by
  have a := rdiv_n (X / MM) (X % MM) D W (hi_b hX).1 (hi_b hX).2 (lo_b X).1 (lo_b X).2 hD.1 hD.2
  obtain ⟨h1, h2, h3⟩ := h
  rw [nv_mod, h1, h2, show dok (X / MM) D = o from h3] at a
  exact a.mono fun _ _ ⟨a, b⟩ => ⟨a, b.mb⟩
theorem q_ten' {k : Nat} {D : Int} (h : 10 ^ k = D) (hk : k ≤ 77) (w : World) : Calls Tryz.prog 148 #[.int .i64 (k : Int)] w fun r W => r = .returned (.tuple #[nv D, .bool true]) ∧ Mb w W := h ▸ (rten_yes k w hk).mono fun _ _ ⟨a, b⟩ => ⟨a, b.mb⟩
theorem q_plusz {x y : Int} (hx : 0 ≤ x ∧ x < MM) (hy : 0 ≤ y ∧ y < MM) (w : World) : Calls Tryz.prog 151 #[dwz x, dwz y] w fun r W => r = .returned (dw (x + y)) ∧ Mb w W := by
  rw [dwz_eq hx, dwz_eq hy]; exact q_plus x y w
theorem aw_0 {b : Bool} {q r d p : Int} (h : r = 0) : aw b q r d p = false := by unfold aw; rw [if_pos h]
set_option maxRecDepth 20000 in
theorem q_round {b : Bool} {X f S p : Int} {R : DR} (hR : fxR b (rdV b X f S p) S = R) (hX : 0 ≤ X ∧ X < MM * MM) (hf : 0 ≤ f ∧ f ≤ 36) (hS : 0 ≤ S ∧ S ≤ 18) (w : World) : Calls Tryz.prog 104 #[.bool b, dw X, .int .i64 f, .int .i64 S, .int .i64 p] w fun e W => e = .returned R.v ∧ Mb w W := by
  refine fn_pure [.bool b, dw X, .int .i64 f, .int .i64 S, .int .i64 p] Tryz.func104 rfl rfl rfl (run_ok (st mo ⟨fun hle => st mo ?_, fun hle => st mo ?_⟩))
  · unfold rdV at hR
    rw [if_pos hle] at hR
    obtain ⟨k, hk⟩ : ∃ k : Nat, S - f = (k : Int) := ⟨(S - f).toNat, by omega⟩
    rw [hk, pw_nat] at hR
    have p1 : (1 : Int) ≤ 10 ^ k := by have : (0 : Int) < 10 ^ k := Int.pow_pos (by decide); omega
    refine ⟨_, r_neN (X / MM) 0 (hi_b hX) MM_0, fun h => st mo ?_, fun h => st mo ?_⟩
    · have h : ¬ X < MM := fun q => by rw [hi_0 q hX.1] at h; cases h
      have := Int.mul_le_mul_of_nonneg_left p1 hX.1
      rw [fx_7 (by omega)] at hR
      subst hR; rfl
    · have h : X < MM := Classical.byContradiction fun q => by rw [decide_eq_false (hi_1 q)] at h; cases h
      refine ⟨(k : Int), wz k (by omega), st mo ?_⟩
      refine ⟨_, fun nn => r_call (t := dw (X * 10 ^ k)) rfl rfl Tryz.func147 (fun W M E => q_shift X k ⟨hX.1, h⟩ (by omega) W), st mo ?_⟩
      refine ⟨_, fun nn => r_call (t := R.v) rfl rfl Tryz.func102 (fun W M E => q_at hR (mul_b ⟨hX.1, h⟩ (p10_b (by omega))) W), st mo ?_⟩
      rfl
  · unfold rdV at hR
    rw [if_neg (by omega)] at hR
    obtain ⟨k, hk⟩ : ∃ k : Nat, f - S = (k : Int) := ⟨(f - S).toNat, by omega⟩
    rw [hk, Int.toNat_natCast] at hR
    obtain ⟨d0, d1, d2⟩ := p10_s (k := k) (by omega)
    obtain ⟨D, hD⟩ : ∃ D, (10 : Int) ^ k = D := ⟨_, rfl⟩
    unfold ro at hR
    rw [hD] at hR d0 d1 d2
    refine ⟨(k : Int), wz k (by omega), st mo ?_⟩
    refine ⟨_, fun nn => r_call (t := .tuple #[nv D, litT]) rfl rfl Tryz.func148 (fun W M E => q_ten' hD (by omega) W), st mo ?_⟩
    by_cases ho : X / MM < D
    · have hq := q_b hX.1 d0 ho
      have hr : 0 ≤ X % D ∧ X % D < D := ⟨Int.emod_nonneg _ (by omega), Int.emod_lt_of_pos _ d0⟩
      have hdv := dq_ok ho
      generalize hqe : X / D = q at hR hq hdv
      generalize hre : X % D = r at hR hr hdv
      refine ⟨_, fun nn => r_call (t := .tuple #[nv q, nv r, litT]) rfl rfl Tryz.func149 (fun W M E => rdiv_c hX ⟨by omega, d1⟩ hdv W), st mo ?_⟩
      have low : aw b q r D p = false → fxR b q S = R := fun ha => by
        rw [ha, show q + (if false = true then (1 : Int) else 0) = q by simp] at hR; exact hR
      refine ⟨_, r_neN r 0 ⟨hr.1, by omega⟩ MM_0, fun h => st mo ?_, fun h => st mo ?_⟩
      · have h : ¬ r = 0 := fun q => by rw [decide_eq_true q] at h; cases h
        have hA := q_up b q r D p h ⟨hr.1, by omega⟩ ⟨by omega, d1⟩
        cases ha : aw b q r D p with
        | false =>
          rw [ha] at hA
          refine ⟨_, fun nn => r_call (t := litF) rfl rfl Tryz.func150 (fun W M E => hA W), st mo ?_⟩
          refine ⟨_, fun nn => r_call (t := R.v) rfl rfl Tryz.func102 (fun W M E => q_at0 (low ha) hq W), st mo ?_⟩
          rfl
        | true =>
          rw [ha] at hA hR
          rw [show q + (if true = true then (1 : Int) else 0) = q + 1 by simp] at hR
          refine ⟨_, fun nn => r_call (t := litT) rfl rfl Tryz.func150 (fun W M E => hA W), st mo ?_⟩
          refine ⟨_, fun nn => r_call (t := nv 1) rfl rfl Tryz.func99 (fun W M E => q_from 1 (by decide) W), st mo ?_⟩
          refine ⟨_, fun nn => r_call (t := dw (q + 1)) rfl rfl Tryz.func151 (fun W M E => q_plusz (y := 1) hq (by decide) W), st mo ⟨dk, st mo ?_⟩⟩
          refine ⟨_, fun nn => r_call (t := R.v) rfl rfl Tryz.func102 (fun W M E => q_at hR ⟨by omega, Int.lt_of_le_of_lt (show q + 1 ≤ MM by omega) (by decide)⟩ W), st mo ?_⟩
          rfl
      · have h : r = 0 := by
          cases hz : decide (r = 0) with
          | true => exact of_decide_eq_true hz
          | false => rw [hz] at h; cases h
        refine ⟨_, fun nn => r_call (t := R.v) rfl rfl Tryz.func102 (fun W M E => q_at0 (low (aw_0 h)) hq W), st mo ?_⟩
        rfl
    · have hq := qt_no d0 ho
      refine ⟨_, fun nn => r_call (t := .tuple #[nv (dq (X / MM) (X % MM) D), nv (dr (X / MM) (X % MM) D), litF]) rfl rfl Tryz.func149 (fun W M E => rdiv_c hX ⟨by omega, d1⟩ ⟨rfl, rfl, decide_eq_false ho⟩ W), st mo ?_⟩
      have : ¬ X / D + (if aw b (X / D) (X % D) D p = true then 1 else 0) < MM := by split <;> omega
      rw [fx_7 this] at hR
      subst hR; rfl
theorem rk_ok {S p : Int} (h : rkE S p = 0) : sc S = true ∧ 1 ≤ p ∧ p ≤ 5 := by unfold rkE at h; by_cases q : sc S = true <;> by_cases r : 1 ≤ p ∧ p ≤ 5 <;> simp [q, r] at h; exact ⟨q, r⟩
set_option maxRecDepth 20000 in
theorem q_mto (b : Bool) (n s : Int) (c : Bool) (m t S p : Int) (hn : 0 ≤ n ∧ n < MM) (hm : 0 ≤ m ∧ m < MM) (h1 : ck b n s = 0) (h2 : ck c m t = 0) (w : World) : Calls Tryz.prog 107 #[dc b n s, dc c m t, .int .i64 S, .int .i64 p] w fun e W => e = .returned (mtoR b n s c m t S p).v ∧ Mb w W := by
  obtain ⟨s0, s1⟩ := sc_iff.1 (ck_s h1)
  obtain ⟨t0, t1⟩ := sc_iff.1 (ck_s h2)
  have hX := mul_b hn hm
  generalize hR : mtoR b n s c m t S p = R
  cases b <;> cases c
  · refine fn_pure [dcl litF n s, dcl litF m t, .int .i64 S, .int .i64 p] Tryz.func107 rfl rfl rfl (run_ok (st mo ?_))
    refine ⟨_, fun nn => r_call (t := .int .i64 0) rfl rfl Tryz.func152 (fun W M E => q_both false n s false m t hn hm h1 h2 W), st mo ⟨fun h => absurd rfl h, fun _ => st mo ?_⟩⟩
    refine ⟨_, fun nn => r_call (t := .int .i64 (rkE S p)) rfl rfl Tryz.func103 (fun W M E => q_may S p W), st mo ⟨fun h => st mo ?_, fun h => st mo ?_⟩⟩
    · rw [mto_e h] at hR; subst hR; rfl
    · have hk := rk_ok h
      unfold mtoR at hR
      rw [hk.1, if_pos rfl, if_pos hk.2] at hR
      refine ⟨_, fun nn => r_call (t := .tuple #[nv (n * m / MM), nv (n * m)]) rfl rfl Tryz.func155 (fun W M E => (rmul_n n m W hn.1 hn.2 hm.1 hm.2).mono fun _ _ ⟨a, b⟩ => ⟨a, b.mb⟩), st mo ?_⟩
      refine ⟨_, r_neB false false, fun h => absurd h (by decide), fun _ => st mo ?_⟩
      refine ⟨s + t, wi (by omega), st mo ?_⟩
      refine ⟨_, fun nn => r_call (t := R.v) rfl rfl Tryz.func104 (fun W M E => q_round (b := false) hR hX ⟨by omega, by omega⟩ (sc_iff.1 hk.1) W), st mo ?_⟩
      rfl
  · refine fn_pure [dcl litF n s, dcl litT m t, .int .i64 S, .int .i64 p] Tryz.func107 rfl rfl rfl (run_ok (st mo ?_))
    refine ⟨_, fun nn => r_call (t := .int .i64 0) rfl rfl Tryz.func152 (fun W M E => q_both false n s true m t hn hm h1 h2 W), st mo ⟨fun h => absurd rfl h, fun _ => st mo ?_⟩⟩
    refine ⟨_, fun nn => r_call (t := .int .i64 (rkE S p)) rfl rfl Tryz.func103 (fun W M E => q_may S p W), st mo ⟨fun h => st mo ?_, fun h => st mo ?_⟩⟩
    · rw [mto_e h] at hR; subst hR; rfl
    · have hk := rk_ok h
      unfold mtoR at hR
      rw [hk.1, if_pos rfl, if_pos hk.2] at hR
      refine ⟨_, fun nn => r_call (t := .tuple #[nv (n * m / MM), nv (n * m)]) rfl rfl Tryz.func155 (fun W M E => (rmul_n n m W hn.1 hn.2 hm.1 hm.2).mono fun _ _ ⟨a, b⟩ => ⟨a, b.mb⟩), st mo ?_⟩
      refine ⟨_, r_neB false true, fun _ => st mo ?_, fun h => absurd h (by decide)⟩
      refine ⟨s + t, wi (by omega), st mo ?_⟩
      refine ⟨_, fun nn => r_call (t := R.v) rfl rfl Tryz.func104 (fun W M E => q_round (b := true) hR hX ⟨by omega, by omega⟩ (sc_iff.1 hk.1) W), st mo ?_⟩
      rfl
  · refine fn_pure [dcl litT n s, dcl litF m t, .int .i64 S, .int .i64 p] Tryz.func107 rfl rfl rfl (run_ok (st mo ?_))
    refine ⟨_, fun nn => r_call (t := .int .i64 0) rfl rfl Tryz.func152 (fun W M E => q_both true n s false m t hn hm h1 h2 W), st mo ⟨fun h => absurd rfl h, fun _ => st mo ?_⟩⟩
    refine ⟨_, fun nn => r_call (t := .int .i64 (rkE S p)) rfl rfl Tryz.func103 (fun W M E => q_may S p W), st mo ⟨fun h => st mo ?_, fun h => st mo ?_⟩⟩
    · rw [mto_e h] at hR; subst hR; rfl
    · have hk := rk_ok h
      unfold mtoR at hR
      rw [hk.1, if_pos rfl, if_pos hk.2] at hR
      refine ⟨_, fun nn => r_call (t := .tuple #[nv (n * m / MM), nv (n * m)]) rfl rfl Tryz.func155 (fun W M E => (rmul_n n m W hn.1 hn.2 hm.1 hm.2).mono fun _ _ ⟨a, b⟩ => ⟨a, b.mb⟩), st mo ?_⟩
      refine ⟨_, r_neB true false, fun _ => st mo ?_, fun h => absurd h (by decide)⟩
      refine ⟨s + t, wi (by omega), st mo ?_⟩
      refine ⟨_, fun nn => r_call (t := R.v) rfl rfl Tryz.func104 (fun W M E => q_round (b := true) hR hX ⟨by omega, by omega⟩ (sc_iff.1 hk.1) W), st mo ?_⟩
      rfl
  · refine fn_pure [dcl litT n s, dcl litT m t, .int .i64 S, .int .i64 p] Tryz.func107 rfl rfl rfl (run_ok (st mo ?_))
    refine ⟨_, fun nn => r_call (t := .int .i64 0) rfl rfl Tryz.func152 (fun W M E => q_both true n s true m t hn hm h1 h2 W), st mo ⟨fun h => absurd rfl h, fun _ => st mo ?_⟩⟩
    refine ⟨_, fun nn => r_call (t := .int .i64 (rkE S p)) rfl rfl Tryz.func103 (fun W M E => q_may S p W), st mo ⟨fun h => st mo ?_, fun h => st mo ?_⟩⟩
    · rw [mto_e h] at hR; subst hR; rfl
    · have hk := rk_ok h
      unfold mtoR at hR
      rw [hk.1, if_pos rfl, if_pos hk.2] at hR
      refine ⟨_, fun nn => r_call (t := .tuple #[nv (n * m / MM), nv (n * m)]) rfl rfl Tryz.func155 (fun W M E => (rmul_n n m W hn.1 hn.2 hm.1 hm.2).mono fun _ _ ⟨a, b⟩ => ⟨a, b.mb⟩), st mo ?_⟩
      refine ⟨_, r_neB true true, fun h => absurd h (by decide), fun _ => st mo ?_⟩
      refine ⟨s + t, wi (by omega), st mo ?_⟩
      refine ⟨_, fun nn => r_call (t := R.v) rfl rfl Tryz.func104 (fun W M E => q_round (b := false) hR hX ⟨by omega, by omega⟩ (sc_iff.1 hk.1) W), st mo ?_⟩
      rfl
theorem rnd_e {b : Bool} {n s S p : Int} (h : rkE S p ≠ 0) : rndR b n s S p = erR (rkE S p) := by rw [← mto_1]; exact mto_e h
theorem q_roundz {b : Bool} {n f S p : Int} {R : DR} (hR : fxR b (rdV b n f S p) S = R) (hn : 0 ≤ n ∧ n < MM) (hf : 0 ≤ f ∧ f ≤ 36) (hS : 0 ≤ S ∧ S ≤ 18) (w : World) : Calls Tryz.prog 104 #[.bool b, dwz n, .int .i64 f, .int .i64 S, .int .i64 p] w fun e W => e = .returned R.v ∧ Mb w W := by
  rw [dwz_eq hn]; exact q_round hR (mm_w hn) hf hS w
set_option maxRecDepth 20000 in
theorem q_resc (b : Bool) (n s S p : Int) (hn : 0 ≤ n ∧ n < MM) (h1 : ck b n s = 0) (w : World) : Calls Tryz.prog 71 #[dc b n s, .int .i64 S, .int .i64 p] w fun e W => e = .returned (rndR b n s S p).v ∧ Mb w W := by
  obtain ⟨s0, s1⟩ := sc_iff.1 (ck_s h1)
  generalize hR : rndR b n s S p = R
  refine fn_pure [dc b n s, .int .i64 S, .int .i64 p] Tryz.func71 rfl rfl rfl (run_ok (st mo ?_))
  refine ⟨_, fun nn => r_call (t := .int .i64 0) rfl rfl Tryz.func59 (fun W M E => h1 ▸ q_dck b n s hn W), st mo ⟨fun h => absurd rfl h, fun _ => st mo ?_⟩⟩
  refine ⟨_, fun nn => r_call (t := .int .i64 (rkE S p)) rfl rfl Tryz.func103 (fun W M E => q_may S p W), st mo ⟨fun h => st mo ?_, fun h => st mo ?_⟩⟩
  · rw [rnd_e h] at hR; subst hR; rfl
  · have hk := rk_ok h
    unfold rndR at hR
    rw [hk.1, if_pos rfl, if_pos hk.2] at hR
    refine ⟨_, fun nn => r_call (t := R.v) rfl rfl Tryz.func104 (fun W M E => q_roundz hR hn ⟨by omega, by omega⟩ (sc_iff.1 hk.1) W), st mo ?_⟩
    rfl
set_option maxRecDepth 20000 in
theorem q_bad (e : Int) (w : World) : Calls Tryz.prog 62 #[.int .i64 e] w fun r W => r = .returned (vBad e).v ∧ Mb w W := by
  refine fn_pure [.int .i64 e] Tryz.func62 rfl rfl rfl (run_ok (st mo ⟨fun h => st mo ?_, fun h => st mo ⟨fun g => st mo ?_, fun g => st mo ?_⟩⟩))
  · show _ = _; rw [vBad, show isE e = false by unfold isE; rw [decide_eq_false (by omega)]; rfl]; rfl
  · show _ = _; rw [vBad, show isE e = false by unfold isE; rw [decide_eq_false (by omega : ¬ e ≤ 5), Bool.and_false]]; rfl
  · show _ = _; rw [vBad, show isE e = true by unfold isE; rw [decide_eq_true (by omega), decide_eq_true (by omega)]; rfl]; rfl
set_option maxRecDepth 20000 in
theorem q_flag (b : Bool) (w : World) : Calls Tryz.prog 69 #[.bool b] w fun r W => r = .returned (vFl b).v ∧ Mb w W :=
  fn_pure [.bool b] Tryz.func69 rfl rfl rfl (run_ok (st mo rfl))
set_option maxRecDepth 20000 in
theorem q_num (b : Bool) (n s : Int) (w : World) : Calls Tryz.prog 101 #[dc b n s] w fun r W => r = .returned (vNu b n s).v ∧ Mb w W :=
  fn_pure [dc b n s] Tryz.func101 rfl rfl rfl (run_ok (st mo rfl))
set_option maxRecDepth 20000 in
theorem q_told (r : DR) (w : World) : Calls Tryz.prog 67 #[dc r.b r.n r.s, .int .i64 r.e] w fun e W => e = .returned (numV r).v ∧ Mb w W := by
  refine fn_pure [dc r.b r.n r.s, .int .i64 r.e] Tryz.func67 rfl rfl rfl (run_ok (st mo ⟨fun h => st mo ?_, fun h => st mo ⟨fun g => st mo ?_, fun g => st mo ?_⟩⟩))
  · refine ⟨_, fun nn => r_call (t := (vBad 1).y) rfl rfl Tryz.func62 (fun W M E => q_bad 1 W), st mo ?_⟩
    show _ = _; rw [numV, if_neg (by omega), if_pos h]; rfl
  · refine ⟨_, fun nn => r_call (t := (vBad 2).y) rfl rfl Tryz.func62 (fun W M E => q_bad 2 W), st mo ?_⟩
    show _ = _; rw [numV, if_neg g, if_neg h]; rfl
  · refine ⟨_, fun nn => r_call (t := (vNu r.b r.n r.s).y) rfl rfl Tryz.func101 (fun W M E => q_num r.b r.n r.s W), st mo ?_⟩
    show _ = _; rw [numV, if_pos g]; rfl
set_option maxRecDepth 20000 in
theorem q_mayv (x : VL) (hx : x.ok) (w : World) : Calls Tryz.prog 70 #[x.v] w fun r W => r = .returned (mayV x).v ∧ Mb w W := by
  refine fn_pure [x.y] Tryz.func70 rfl rfl rfl (run_ok (st mo ?_))
  refine ⟨_, fun nn => r_call (t := .int .i64 (ckI x)) rfl rfl Tryz.func27 (fun W M E => q_check x hx W), st mo ⟨fun q => st mo ?_, fun q => st mo ?_⟩⟩
  · refine ⟨_, fun nn => r_call (t := (vBad 2).y) rfl rfl Tryz.func62 (fun W M E => q_bad 2 W), st mo ?_⟩
    show _ = _; rw [mayV, ckI_1 q]; rfl
  · show _ = _; rw [mayV, ckI_0 q]; rfl
def askV (x : VL) : VL := if ask x = 0 then x else vEr (ask x)
def oneV (K : Int) (x : VL) : VL := if askK K x = 0 then x else vEr (askK K x)
theorem may_1 {x : VL} (h : ckv x = true) : mayV x = x := if_pos h
theorem may_0 {x : VL} (h : ckv x = false) : mayV x = vEr 2 := by unfold mayV; rw [h]; rfl
theorem q_may1 {x : VL} (h : ckv x = true) (hx : x.ok) (w : World) : Calls Tryz.prog 70 #[x.v] w fun r W => r = .returned x.v ∧ Mb w W := by have q := q_mayv x hx w; rw [may_1 h] at q; exact q
theorem q_may0 {x : VL} (h : ckv x = false) (hx : x.ok) (w : World) : Calls Tryz.prog 70 #[x.v] w fun r W => r = .returned (vEr 2).v ∧ Mb w W := by have q := q_mayv x hx w; rw [may_0 h] at q; exact q
set_option maxRecDepth 20000 in
theorem q_asked (x : VL) (hx : x.ok) (w : World) : Calls Tryz.prog 72 #[x.v] w fun r W => r = .returned (askV x).v ∧ Mb w W := by
  refine fn_pure [x.y] Tryz.func72 rfl rfl rfl (run_ok (st mo ?_))
  cases hc : ckv x with
  | false =>
    refine ⟨_, fun nn => r_call (t := (vEr 2).y) rfl rfl Tryz.func70 (fun W M E => q_may0 hc hx W), st mo ⟨fun h => absurd h (by decide), fun _ => st mo ?_⟩⟩
    show _ = _; rw [askV, ask_c hc]; rfl
  | true =>
    refine ⟨_, fun nn => r_call (t := x.y) rfl rfl Tryz.func70 (fun W M E => q_may1 hc hx W), st mo ⟨fun h => st mo ?_, fun h => st mo ?_⟩⟩
    · refine ⟨_, fun nn => r_call (t := (vBad 3).y) rfl rfl Tryz.func62 (fun W M E => q_bad 3 W), st mo ?_⟩
      show _ = _; rw [askV, ask_b hc h]; rfl
    · have e : askV x = x := by
        unfold askV
        by_cases k : x.k = 4
        · have q := ckv_err hx hc k
          rw [ask_e hc k]; split
          · rfl
          · exact q.1.symm
        · rw [ask_n hc k h]; rfl
      show _ = _; rw [e]; rfl
theorem q_asked1 {x : VL} (h : ask x = 0) (hx : x.ok) (w : World) : Calls Tryz.prog 72 #[x.v] w fun r W => r = .returned x.v ∧ Mb w W := by have q := q_asked x hx w; rw [askV, if_pos h] at q; exact q
theorem q_asked0 {x : VL} (h : ¬ ask x = 0) (hx : x.ok) (w : World) : Calls Tryz.prog 72 #[x.v] w fun r W => r = .returned (vEr (ask x)).v ∧ Mb w W := by have q := q_asked x hx w; rw [askV, if_neg h] at q; exact q
set_option maxRecDepth 20000 in
theorem q_one (K : Int) (x : VL) (hx : x.ok) (w : World) : Calls Tryz.prog 66 #[x.v, .int .i64 K] w fun r W => r = .returned (oneV K x).v ∧ Mb w W := by
  refine fn_pure [x.y, .int .i64 K] Tryz.func66 rfl rfl rfl (run_ok (st mo ?_))
  by_cases ha : ask x = 0
  · have k4 := (ask_0 hx ha).2.1
    refine ⟨_, fun nn => r_call (t := x.y) rfl rfl Tryz.func72 (fun W M E => q_asked1 ha hx W), st mo ⟨fun _ => st mo ⟨fun h => st mo ?_, fun h => st mo ?_⟩, fun h => absurd h k4⟩⟩
    · refine ⟨_, fun nn => r_call (t := (vBad 2).y) rfl rfl Tryz.func62 (fun W M E => q_bad 2 W), st mo ?_⟩
      show _ = _; rw [oneV, show askK K x = 2 by unfold askK; rw [if_pos ha, if_neg h]]; rfl
    · show _ = _; rw [oneV, show askK K x = 0 by unfold askK; rw [if_pos ha, if_pos h]]; rfl
  · refine ⟨_, fun nn => r_call (t := (vEr (ask x)).y) rfl rfl Tryz.func72 (fun W M E => q_asked0 ha hx W), st mo ⟨fun h => absurd rfl h, fun _ => st mo ?_⟩⟩
    show _ = _; rw [oneV, show askK K x = ask x by unfold askK; rw [if_neg ha], if_neg ha]; rfl
theorem q_one1 {K : Int} {x : VL} (h : askK K x = 0) (hx : x.ok) (w : World) : Calls Tryz.prog 66 #[x.v, .int .i64 K] w fun r W => r = .returned x.v ∧ Mb w W := by have q := q_one K x hx w; rw [oneV, if_pos h] at q; exact q
theorem q_one0 {K : Int} {x : VL} (h : ¬ askK K x = 0) (hx : x.ok) (w : World) : Calls Tryz.prog 66 #[x.v, .int .i64 K] w fun r W => r = .returned (vEr (askK K x)).v ∧ Mb w W := by have q := q_one K x hx w; rw [oneV, if_neg h] at q; exact q
theorem askK_isE {K : Int} {x : VL} (hx : x.ok) (h : ¬ askK K x = 0) : vBad (askK K x) = vEr (askK K x) := by
  refine bad_of ?_
  unfold askK at h ⊢
  split
  next q => rw [if_pos q] at h; split; · rename_i r; rw [if_pos r] at h; exact absurd rfl h
            · rfl
  next q => exact ask_isE hx q
set_option maxRecDepth 20000 in
theorem q_neg (x : VL) (hx : x.ok) (w : World) : Calls Tryz.prog 36 #[x.v] w fun r W => r = .returned (negV x).v ∧ Mb w W := by
  refine fn_pure [x.y] Tryz.func36 rfl rfl rfl (run_ok (st mo ?_))
  by_cases h : askK 1 x = 0
  · have k := (askK_0 h).2
    refine ⟨_, fun nn => r_call (t := x.y) rfl rfl Tryz.func66 (fun W M E => q_one1 h hx W), st mo ⟨fun q => absurd q (by omega), fun _ => st mo ?_⟩⟩
    refine ⟨_, fun nn => r_call (t := (negR x.b x.n x.s).y) rfl rfl Tryz.func68 (fun W M E => q_dneg x.b x.n x.s hx (num_of hx (askK_0 h).1 k) W), st mo ?_⟩
    refine ⟨_, fun nn => r_call (t := (numV (negR x.b x.n x.s)).y) rfl rfl Tryz.func67 (fun W M E => q_told (negR x.b x.n x.s) W), st mo ?_⟩
    show _ = _; rw [negV, if_pos h]; rfl
  · refine ⟨_, fun nn => r_call (t := (vEr (askK 1 x)).y) rfl rfl Tryz.func66 (fun W M E => q_one0 h hx W), st mo ⟨fun _ => st mo ?_, fun q => absurd rfl q⟩⟩
    show _ = _; rw [negV, if_neg h, askK_isE hx h]; rfl
set_option maxRecDepth 20000 in
theorem q_not (x : VL) (hx : x.ok) (w : World) : Calls Tryz.prog 37 #[x.v] w fun r W => r = .returned (notV x).v ∧ Mb w W := by
  refine fn_pure [x.y] Tryz.func37 rfl rfl rfl (run_ok (st mo ?_))
  by_cases h : askK 2 x = 0
  · have k := (askK_0 h).2
    refine ⟨_, fun nn => r_call (t := x.y) rfl rfl Tryz.func66 (fun W M E => q_one1 h hx W), st mo ⟨fun q => absurd q (by omega), fun _ => st mo ?_⟩⟩
    refine ⟨_, fun nn => r_call (t := (vFl (!x.f)).y) rfl rfl Tryz.func69 (fun W M E => q_flag (!x.f) W), st mo ?_⟩
    show _ = _; rw [notV, if_pos h]; rfl
  · refine ⟨_, fun nn => r_call (t := (vEr (askK 2 x)).y) rfl rfl Tryz.func66 (fun W M E => q_one0 h hx W), st mo ⟨fun _ => st mo ?_, fun q => absurd rfl q⟩⟩
    show _ = _; rw [notV, if_neg h, askK_isE hx h]; rfl
set_option maxRecDepth 20000 in
theorem q_blank (x : VL) (hx : x.ok) (w : World) : Calls Tryz.prog 38 #[x.v] w fun r W => r = .returned (blkV x).v ∧ Mb w W := by
  refine fn_pure [x.y] Tryz.func38 rfl rfl rfl (run_ok (st mo ?_))
  cases hc : ckv x with
  | false =>
    refine ⟨_, fun nn => r_call (t := (vEr 2).y) rfl rfl Tryz.func70 (fun W M E => q_may0 hc hx W), st mo ⟨fun _ => st mo ?_, fun q => absurd rfl q⟩⟩
    show _ = _; rw [blkV, hc]; rfl
  | true =>
    refine ⟨_, fun nn => r_call (t := x.y) rfl rfl Tryz.func70 (fun W M E => q_may1 hc hx W), st mo ⟨fun h => st mo ?_, fun h => st mo ⟨fun h0 => st mo ?_, fun h0 => st mo ?_⟩⟩⟩
    · show _ = _; rw [blkV, if_pos hc, if_pos h]; rfl
    · refine ⟨_, fun nn => r_call (t := (vFl true).y) rfl rfl Tryz.func69 (fun W M E => q_flag true W), st mo ?_⟩
      show _ = _; rw [blkV, if_pos hc, if_neg h, decide_eq_true h0]; rfl
    · refine ⟨_, fun nn => r_call (t := (vFl false).y) rfl rfl Tryz.func69 (fun W M E => q_flag false W), st mo ?_⟩
      show _ = _; rw [blkV, if_pos hc, if_neg h, decide_eq_false h0]; rfl
set_option maxRecDepth 20000 in
theorem q_rnd (x : VL) (hx : x.ok) (s p : Int) (w : World) : Calls Tryz.prog 39 #[x.v, .int .i64 s, .int .i64 p] w fun r W => r = .returned (rndV x s p).v ∧ Mb w W := by
  refine fn_pure [x.y, .int .i64 s, .int .i64 p] Tryz.func39 rfl rfl rfl (run_ok (st mo ?_))
  by_cases h : askK 1 x = 0
  · have k := (askK_0 h).2
    refine ⟨_, fun nn => r_call (t := x.y) rfl rfl Tryz.func66 (fun W M E => q_one1 h hx W), st mo ⟨fun q => absurd q (by omega), fun _ => st mo ?_⟩⟩
    refine ⟨_, fun nn => r_call (t := (rndR x.b x.n x.s s p).y) rfl rfl Tryz.func71 (fun W M E => q_resc x.b x.n x.s s p hx (num_of hx (askK_0 h).1 k) W), st mo ?_⟩
    refine ⟨_, fun nn => r_call (t := (numV (rndR x.b x.n x.s s p)).y) rfl rfl Tryz.func67 (fun W M E => q_told (rndR x.b x.n x.s s p) W), st mo ?_⟩
    show _ = _; rw [rndV, if_pos h]; rfl
  · refine ⟨_, fun nn => r_call (t := (vEr (askK 1 x)).y) rfl rfl Tryz.func66 (fun W M E => q_one0 h hx W), st mo ⟨fun _ => st mo ?_, fun q => absurd rfl q⟩⟩
    show _ = _; rw [rndV, if_neg h, askK_isE hx h]; rfl
set_option maxRecDepth 20000 in
theorem q_if (c x y : VL) (hc : c.ok) (hx : x.ok) (hy : y.ok) (w : World) : Calls Tryz.prog 41 #[c.v, x.v, y.v] w fun r W => r = .returned (ifV c x y).v ∧ Mb w W := by
  refine fn_pure [c.y, x.y, y.y] Tryz.func41 rfl rfl rfl (run_ok (st mo ?_))
  by_cases h : askK 2 c = 0
  · have k := (askK_0 h).2
    refine ⟨_, fun nn => r_call (t := c.y) rfl rfl Tryz.func66 (fun W M E => q_one1 h hc W), st mo ⟨fun q => absurd q (by omega), fun _ => st mo ⟨fun hf => st mo ?_, fun hf => st mo ?_⟩⟩⟩
    · refine ⟨_, fun nn => r_call (t := (mayV x).y) rfl rfl Tryz.func70 (fun W M E => q_mayv x hx W), st mo ?_⟩
      show _ = _; rw [ifV, if_pos h, hf, if_pos rfl]; rfl
    · refine ⟨_, fun nn => r_call (t := (mayV y).y) rfl rfl Tryz.func70 (fun W M E => q_mayv y hy W), st mo ?_⟩
      show _ = _; rw [ifV, if_pos h, hf, if_neg (by decide)]; rfl
  · refine ⟨_, fun nn => r_call (t := (vEr (askK 2 c)).y) rfl rfl Tryz.func66 (fun W M E => q_one0 h hc W), st mo ⟨fun _ => st mo ?_, fun q => absurd rfl q⟩⟩
    show _ = _; rw [ifV, if_neg h, askK_isE hc h]; rfl
def recV (op : Int) (b : Bool) (n s : Int) (c : Bool) (m t : Int) : VL := if op = 1 then numV (addR b n s c m t) else if op = 2 then numV (subR b n s c m t) else numV (mulR b n s c m t)
def samV (x y : VL) : Bool := if x.k = 1 then decide (cmpR x.b x.n x.s y.b y.n y.s = 0) else svv x y
def ordB (op o : Int) : Bool := if op = 6 then decide (o < 0) else if op = 7 then decide (o ≤ 0) else if op = 8 then decide (0 < o) else decide (0 ≤ o)
theorem qd_mul (b : Bool) (n s : Int) (c : Bool) (m t : Int) (w : World) (hn : 0 ≤ n ∧ n < MM) (hm : 0 ≤ m ∧ m < MM) (h1 : ck b n s = 0) (h2 : ck c m t = 0) : Calls Tryz.prog 107 #[dc b n s, dc c m t, .int .i64 (min 18 (s + t)), .int .i64 2] w fun e9 w' => e9 = .returned (mulR b n s c m t).v ∧ Mb w w' := by
  obtain ⟨a0, a1⟩ := sc_iff.1 (ck_s h1)
  obtain ⟨b0, b1⟩ := sc_iff.1 (ck_s h2)
  rw [show min 18 (s + t) = min (s + t) 18 by omega]
  have q := q_mto b n s c m t (min (s + t) 18) 2 hn hm h1 h2 w
  unfold mtoR at q
  rw [if_pos (sc_iff.2 ⟨by omega, by omega⟩), if_pos (by decide)] at q
  exact q
set_option maxRecDepth 20000 in
theorem q_reckon (op : Int) (b : Bool) (n s : Int) (c : Bool) (m t : Int) (hn : 0 ≤ n ∧ n < MM) (hm : 0 ≤ m ∧ m < MM) (h1 : ck b n s = 0) (h2 : ck c m t = 0) (w : World) : Calls Tryz.prog 73 #[.int .i64 op, dc b n s, dc c m t] w fun r W => r = .returned (recV op b n s c m t).v ∧ Mb w W := by
  have s1 := sc_iff.1 (ck_s h1)
  have t1 := sc_iff.1 (ck_s h2)
  refine fn_pure [.int .i64 op, dc b n s, dc c m t] Tryz.func73 rfl rfl rfl (run_ok (st mo ⟨fun h => st mo ?_, fun q1 => st mo ⟨fun h => st mo ?_, fun q2 => st mo ?_⟩⟩))
  · refine ⟨_, fun nn => r_call (t := (addR b n s c m t).y) rfl rfl Tryz.func105 (fun W M E => q_add b n s c m t hn hm h1 h2 W), st mo ?_⟩
    refine ⟨_, fun nn => r_call (t := (numV (addR b n s c m t)).y) rfl rfl Tryz.func67 (fun W M E => q_told (addR b n s c m t) W), st mo ?_⟩
    show _ = _; rw [recV, if_pos h]; rfl
  · refine ⟨_, fun nn => r_call (t := (subR b n s c m t).y) rfl rfl Tryz.func106 (fun W M E => q_sub b n s c m t hn hm h1 h2 W), st mo ?_⟩
    refine ⟨_, fun nn => r_call (t := (numV (subR b n s c m t)).y) rfl rfl Tryz.func67 (fun W M E => q_told (subR b n s c m t) W), st mo ?_⟩
    show _ = _; rw [recV, if_neg q1, if_pos h]; rfl
  · refine ⟨s + t, wi (by omega), st mo ⟨_, fun nn => r_min 18 (s + t), st mo ?_⟩⟩
    refine ⟨_, fun nn => r_call (t := (mulR b n s c m t).y) rfl rfl Tryz.func107 (fun W M E => qd_mul b n s c m t W hn hm h1 h2), st mo ?_⟩
    refine ⟨_, fun nn => r_call (t := (numV (mulR b n s c m t)).y) rfl rfl Tryz.func67 (fun W M E => q_told (mulR b n s c m t) W), st mo ?_⟩
    show _ = _; rw [recV, if_neg q1, if_neg q2]; rfl
set_option maxRecDepth 20000 in
theorem q_order (op : Int) (b : Bool) (n s : Int) (c : Bool) (m t : Int) (hn : 0 ≤ n ∧ n < MM) (hm : 0 ≤ m ∧ m < MM) (h1 : ck b n s = 0) (h2 : ck c m t = 0) (w : World) : Calls Tryz.prog 75 #[.int .i64 op, dc b n s, dc c m t] w fun r W => r = .returned (.bool (ordB op (cmpR b n s c m t))) ∧ Mb w W := by
  refine fn_pure [.int .i64 op, dc b n s, dc c m t] Tryz.func75 rfl rfl rfl (run_ok (st mo ?_))
  refine ⟨_, fun nn => r_call (t := .int .i64 (cmpR b n s c m t)) rfl rfl Tryz.func108 (fun W M E => q_cmp b n s c m t hn hm h1 h2 W), st mo ?_⟩
  generalize cmpR b n s c m t = o
  refine ⟨fun h => st mo ⟨fun q => st mo ?_, fun q => st mo ?_⟩, fun h6 => st mo ⟨fun h => st mo ⟨fun q => st mo ?_, fun q => st mo ?_⟩, fun h7 => st mo ⟨fun h => st mo ⟨fun q => st mo ?_, fun q => st mo ?_⟩, fun h8 => st mo ⟨fun q => st mo ?_, fun q => st mo ?_⟩⟩⟩⟩
  · show _ = _; rw [ordB, if_pos h, decide_eq_true (by omega)]
  · show _ = _; rw [ordB, if_pos h, decide_eq_false (by omega)]
  · show _ = _; rw [ordB, if_neg h6, if_pos h, decide_eq_true (by omega)]
  · show _ = _; rw [ordB, if_neg h6, if_pos h, decide_eq_false (by omega)]
  · show _ = _; rw [ordB, if_neg h6, if_neg h7, if_pos h, decide_eq_true (by omega)]
  · show _ = _; rw [ordB, if_neg h6, if_neg h7, if_pos h, decide_eq_false (by omega)]
  · show _ = _; rw [ordB, if_neg h6, if_neg h7, if_neg h8, decide_eq_true (by omega)]
  · show _ = _; rw [ordB, if_neg h6, if_neg h7, if_neg h8, decide_eq_false (by omega)]
set_option maxRecDepth 20000 in
theorem q_same (x y : VL) (hx : x.ok) (hy : y.ok) (h1 : x.k = 1 → ck x.b x.n x.s = 0 ∧ ck y.b y.n y.s = 0) (w : World) : Calls Tryz.prog 74 #[x.v, y.v] w fun r W => r = .returned (.bool (samV x y)) ∧ Mb w W := by
  refine fn_pure [x.y, y.y] Tryz.func74 rfl rfl rfl (run_ok (st mo ⟨fun h => st mo ?_, fun h => st mo ?_⟩))
  · refine ⟨_, fun nn => r_call (t := .int .i64 (cmpR x.b x.n x.s y.b y.n y.s)) rfl rfl Tryz.func108 (fun W M E => q_cmp x.b x.n x.s y.b y.n y.s hx hy (h1 h).1 (h1 h).2 W), st mo ⟨fun q => st mo ?_, fun q => st mo ?_⟩⟩
    · show _ = _; rw [samV, if_pos h, decide_eq_true q]
    · show _ = _; rw [samV, if_pos h, decide_eq_false q]
  · refine ⟨_, r_eqV x y, fun q => st mo ?_, fun q => st mo ?_⟩
    · show _ = _; rw [samV, if_neg h, q]
    · show _ = _; rw [samV, if_neg h, q]
theorem q_same' {x y : VL} {b : Bool} (hb : samV x y = b) (hx : x.ok) (hy : y.ok) (h1 : x.k = 1 → ck x.b x.n x.s = 0 ∧ ck y.b y.n y.s = 0) (w : World) : Calls Tryz.prog 74 #[x.v, y.v] w fun r W => r = .returned (.bool b) ∧ Mb w W := hb ▸ q_same x y hx hy h1 w
section
variable {op : Int} {x y : VL}
theorem op_rec (a : ask2 x y = 0) (k : x.k = 1) (l : y.k = 1) (h : 1 ≤ op ∧ op ≤ 3) : opV op x y = recV op x.b x.n x.s y.b y.n y.s := by
  rw [opV, if_pos a, if_pos (by omega), if_pos k, opN, recV]
  split; · rfl
  split; · rfl
  rw [if_pos (by omega)]
theorem op_ord (a : ask2 x y = 0) (k : x.k = 1) (l : y.k = 1) (h : 6 ≤ op ∧ op ≤ 9) : opV op x y = vFl (ordB op (cmpR x.b x.n x.s y.b y.n y.s)) := by
  rw [opV, if_pos a, if_pos (by omega), if_pos k, opN, if_neg (by omega), if_neg (by omega), if_neg (by omega), ordV, if_neg (by omega), if_neg (by omega), ordB]
  split; · rfl
  split; · rfl
  split; · rfl
  rw [if_pos (by omega)]
theorem op_eq (a : ask2 x y = 0) (k : x.k = y.k) (h : op = 4) : opV op x y = vFl (samV x y) := by
  subst h
  rw [opV, if_pos a, if_pos k, samV]
  split
  · rw [opN, if_neg (by decide), if_neg (by decide), if_neg (by decide), ordV, if_pos rfl]
  · rw [if_pos rfl]
theorem op_ne (a : ask2 x y = 0) (k : x.k = y.k) (h : op = 5) : opV op x y = vFl (!samV x y) := by
  subst h
  rw [opV, if_pos a, if_pos k, samV]
  split
  · rw [opN, if_neg (by decide), if_neg (by decide), if_neg (by decide), ordV, if_neg (by decide), if_pos rfl]
  · rw [if_neg (by decide), if_pos rfl]
theorem op_and (a : ask2 x y = 0) (k : x.k = 2) (l : y.k = 2) (h : op = 10) : opV op x y = vFl (x.f && y.f) := by
  subst h
  rw [opV, if_pos a, if_pos (by omega), if_neg (by omega), if_neg (by decide), if_neg (by decide), if_pos k, opF, if_pos rfl]
theorem op_or (a : ask2 x y = 0) (k : x.k = 2) (l : y.k = 2) (h : op = 11) : opV op x y = vFl (x.f || y.f) := by
  subst h
  rw [opV, if_pos a, if_pos (by omega), if_neg (by omega), if_neg (by decide), if_neg (by decide), if_pos k, opF, if_neg (by decide), if_pos rfl]
theorem op_bad (a : ask2 x y = 0) (h : ¬ (x.k = 1 ∧ y.k = 1 ∧ 1 ≤ op ∧ op ≤ 3)) (g : ¬ (x.k = y.k ∧ 4 ≤ op ∧ op ≤ 5)) (i : ¬ (x.k = 1 ∧ y.k = 1 ∧ 6 ≤ op ∧ op ≤ 9)) (j : ¬ (x.k = 2 ∧ y.k = 2 ∧ 10 ≤ op ∧ op ≤ 11)) : opV op x y = vBad 2 := by
  rw [opV, if_pos a]
  split
  next e =>
    split
    next k => rw [opN, if_neg (by omega), if_neg (by omega), if_neg (by omega), ordV, if_neg (by omega), if_neg (by omega), if_neg (by omega), if_neg (by omega), if_neg (by omega), if_neg (by omega)]
    next k =>
      rw [if_neg (by omega), if_neg (by omega)]
      split
      · rw [opF, if_neg (by omega), if_neg (by omega)]
      · rfl
  next => rfl
end
theorem num_of2 {x y : VL} (hx : x.ok) (hy : y.ok) (h : ask2 x y = 0) (k : x.k = 1) (l : y.k = 1) : ck x.b x.n x.s = 0 ∧ ck y.b y.n y.s = 0 := ⟨num_of hx (ask2_0 h).1 k, num_of hy (ask2_0 h).2 l⟩
set_option maxHeartbeats 2000000 in
set_option maxRecDepth 20000 in
theorem q_op (op : Int) (x y : VL) (hx : x.ok) (hy : y.ok) (w : World) : Calls Tryz.prog 40 #[.int .i64 op, x.v, y.v] w fun r W => r = .returned (opV op x y).v ∧ Mb w W := by
  refine fn_pure [.int .i64 op, x.y, y.y] Tryz.func40 rfl rfl rfl (run_ok (st mo ?_))
  by_cases ax : ask x = 0
  · by_cases ay : ask y = 0
    · have a : ask2 x y = 0 := by unfold ask2; rw [if_pos ax]; exact ay
      have kx := ask_0 hx ax
      have ky := ask_0 hy ay
      refine ⟨_, fun nn => r_call (t := x.y) rfl rfl Tryz.func72 (fun W M E => q_asked1 ax hx W), st mo ?_⟩
      refine ⟨_, fun nn => r_call (t := y.y) rfl rfl Tryz.func72 (fun W M E => q_asked1 ay hy W), st mo ⟨dk, st mo ?_⟩⟩
      have k4 := kx.2.1
      have l4 := ky.2.1
      have nn2 : x.k = 1 → y.k = 1 → ck x.b x.n x.s = 0 ∧ ck y.b y.n y.s = 0 := fun k l => num_of2 hx hy a k l
      by_cases o4 : op = 4
      · cases hs : samV x y
        · repeat' (first | (refine ⟨fun h => ?_, fun h => ?_⟩ <;> first | (exfalso; omega) | refine st mo ?_) | fail "")
          all_goals first
            | (refine ⟨_, fun nn => r_call (t := (vBad 2).y) rfl rfl Tryz.func62 (fun W M E => q_bad 2 W), st mo ?_⟩; show _ = _; rw [op_bad a (by omega) (by omega) (by omega) (by omega)]; rfl)
            | (refine ⟨_, fun nn => r_call (t := litF) rfl rfl Tryz.func74 (fun W M E => q_same' hs hx hy (fun k => nn2 k (by omega)) W), st mo ?_⟩; refine ⟨fun h => ?_, fun h => ?_⟩ <;> first | (exfalso; omega) | refine st mo ?_)
          all_goals refine ⟨_, r_eqB false true, fun h => ?_, fun h => ?_⟩ <;> first | exact absurd h (by decide) | refine st mo ?_
          all_goals refine ⟨_, fun nn => r_call (t := (vFl false).y) rfl rfl Tryz.func69 (fun W M E => q_flag false W), st mo ?_⟩
          all_goals (show _ = _; rw [op_eq a (by omega) (by omega), hs]; rfl)
        · repeat' (first | (refine ⟨fun h => ?_, fun h => ?_⟩ <;> first | (exfalso; omega) | refine st mo ?_) | fail "")
          all_goals first
            | (refine ⟨_, fun nn => r_call (t := (vBad 2).y) rfl rfl Tryz.func62 (fun W M E => q_bad 2 W), st mo ?_⟩; show _ = _; rw [op_bad a (by omega) (by omega) (by omega) (by omega)]; rfl)
            | (refine ⟨_, fun nn => r_call (t := litT) rfl rfl Tryz.func74 (fun W M E => q_same' hs hx hy (fun k => nn2 k (by omega)) W), st mo ?_⟩; refine ⟨fun h => ?_, fun h => ?_⟩ <;> first | (exfalso; omega) | refine st mo ?_)
          all_goals refine ⟨_, r_eqB true true, fun h => ?_, fun h => ?_⟩ <;> first | exact absurd h (by decide) | refine st mo ?_
          all_goals refine ⟨_, fun nn => r_call (t := (vFl true).y) rfl rfl Tryz.func69 (fun W M E => q_flag true W), st mo ?_⟩
          all_goals (show _ = _; rw [op_eq a (by omega) (by omega), hs]; rfl)
      by_cases o5 : op = 5
      · cases hs : samV x y
        · repeat' (first | (refine ⟨fun h => ?_, fun h => ?_⟩ <;> first | (exfalso; omega) | refine st mo ?_) | fail "")
          all_goals first
            | (refine ⟨_, fun nn => r_call (t := (vBad 2).y) rfl rfl Tryz.func62 (fun W M E => q_bad 2 W), st mo ?_⟩; show _ = _; rw [op_bad a (by omega) (by omega) (by omega) (by omega)]; rfl)
            | (refine ⟨_, fun nn => r_call (t := litF) rfl rfl Tryz.func74 (fun W M E => q_same' hs hx hy (fun k => nn2 k (by omega)) W), st mo ?_⟩; refine ⟨fun h => ?_, fun h => ?_⟩ <;> first | (exfalso; omega) | refine st mo ?_)
          all_goals refine ⟨_, r_eqB false false, fun h => ?_, fun h => ?_⟩ <;> first | exact absurd h (by decide) | refine st mo ?_
          all_goals refine ⟨_, fun nn => r_call (t := (vFl (!false)).y) rfl rfl Tryz.func69 (fun W M E => q_flag (!false) W), st mo ?_⟩
          all_goals (show _ = _; rw [op_ne a (by omega) (by omega), hs]; rfl)
        · repeat' (first | (refine ⟨fun h => ?_, fun h => ?_⟩ <;> first | (exfalso; omega) | refine st mo ?_) | fail "")
          all_goals first
            | (refine ⟨_, fun nn => r_call (t := (vBad 2).y) rfl rfl Tryz.func62 (fun W M E => q_bad 2 W), st mo ?_⟩; show _ = _; rw [op_bad a (by omega) (by omega) (by omega) (by omega)]; rfl)
            | (refine ⟨_, fun nn => r_call (t := litT) rfl rfl Tryz.func74 (fun W M E => q_same' hs hx hy (fun k => nn2 k (by omega)) W), st mo ?_⟩; refine ⟨fun h => ?_, fun h => ?_⟩ <;> first | (exfalso; omega) | refine st mo ?_)
          all_goals refine ⟨_, r_eqB true false, fun h => ?_, fun h => ?_⟩ <;> first | exact absurd h (by decide) | refine st mo ?_
          all_goals refine ⟨_, fun nn => r_call (t := (vFl (!true)).y) rfl rfl Tryz.func69 (fun W M E => q_flag (!true) W), st mo ?_⟩
          all_goals (show _ = _; rw [op_ne a (by omega) (by omega), hs]; rfl)
      repeat' (first | (refine ⟨fun h => ?_, fun h => ?_⟩ <;> first | (exfalso; omega) | exact absurd (‹x.f = true›.symm.trans ‹x.f = false›) (by decide) | refine st mo ?_) | fail "")
      all_goals first
        | (refine ⟨_, fun nn => r_call (t := (vBad 2).y) rfl rfl Tryz.func62 (fun W M E => q_bad 2 W), st mo ?_⟩; show _ = _; rw [op_bad a (by omega) (by omega) (by omega) (by omega)]; rfl)
        | (refine ⟨_, fun nn => r_call (t := (recV op x.b x.n x.s y.b y.n y.s).y) rfl rfl Tryz.func73 (fun W M E => q_reckon op x.b x.n x.s y.b y.n y.s hx hy (nn2 (by omega) (by omega)).1 (nn2 (by omega) (by omega)).2 W), st mo ?_⟩; show _ = _; rw [op_rec a (by omega) (by omega) (by omega)]; rfl)
        | (refine ⟨_, fun nn => r_call (t := .bool (ordB op (cmpR x.b x.n x.s y.b y.n y.s))) rfl rfl Tryz.func75 (fun W M E => q_order op x.b x.n x.s y.b y.n y.s hx hy (nn2 (by omega) (by omega)).1 (nn2 (by omega) (by omega)).2 W), st mo ?_⟩; refine ⟨_, fun nn => r_call (t := (vFl (ordB op (cmpR x.b x.n x.s y.b y.n y.s))).y) rfl rfl Tryz.func69 (fun W M E => q_flag _ W), st mo ?_⟩; show _ = _; rw [op_ord a (by omega) (by omega) (by omega)]; rfl)
        | exact absurd (‹x.f = true›.symm.trans ‹x.f = false›) (by decide)
        | (refine ⟨_, fun nn => r_call (t := (vFl false).y) rfl rfl Tryz.func69 (fun W M E => q_flag false W), st mo ?_⟩; show _ = _; rw [op_and a (by omega) (by omega) (by omega), ‹x.f = false›]; rfl)
        | (refine ⟨_, fun nn => r_call (t := (vFl y.f).y) rfl rfl Tryz.func69 (fun W M E => q_flag y.f W), st mo ?_⟩; show _ = _; rw [op_and a (by omega) (by omega) (by omega), ‹x.f = true›]; rfl)
        | (refine ⟨_, fun nn => r_call (t := (vFl true).y) rfl rfl Tryz.func69 (fun W M E => q_flag true W), st mo ?_⟩; show _ = _; rw [op_or a (by omega) (by omega) (by omega), ‹x.f = true›]; rfl)
        | (refine ⟨_, fun nn => r_call (t := (vFl y.f).y) rfl rfl Tryz.func69 (fun W M E => q_flag y.f W), st mo ?_⟩; show _ = _; rw [op_or a (by omega) (by omega) (by omega), ‹x.f = false›]; rfl)
    · refine ⟨_, fun nn => r_call (t := x.y) rfl rfl Tryz.func72 (fun W M E => q_asked1 ax hx W), st mo ?_⟩
      refine ⟨_, fun nn => r_call (t := (vEr (ask y)).y) rfl rfl Tryz.func72 (fun W M E => q_asked0 ay hy W), st mo ⟨dk, st mo ?_⟩⟩
      have k4 := (ask_0 hx ax).2.1
      refine ⟨fun h => absurd h k4, fun _ => st mo ⟨fun _ => st mo ?_, fun h => absurd rfl h⟩⟩
      have a : ask2 x y = ask y := by unfold ask2; rw [if_pos ax]
      show _ = _; rw [opV, if_neg (by rw [a]; exact ay), a, bad_of (ask_isE hy ay)]; rfl
  · refine ⟨_, fun nn => r_call (t := (vEr (ask x)).y) rfl rfl Tryz.func72 (fun W M E => q_asked0 ax hx W), st mo ?_⟩
    refine ⟨_, fun nn => r_call (t := (askV y).y) rfl rfl Tryz.func72 (fun W M E => q_asked y hy W), st mo ⟨dk, st mo ?_⟩⟩
    refine ⟨fun _ => st mo ?_, fun h => absurd rfl h⟩
    have a : ask2 x y = ask x := by unfold ask2; rw [if_neg ax]
    show _ = _; rw [opV, if_neg (by rw [a]; exact ax), a, bad_of (ask_isE hx ax)]; rfl
theorem okS_no {s : Stp} (h : ¬ (s.a.er = 0 ∧ s.b.er = 0 ∧ s.c.er = 0)) : okS s = false := by
  cases q : okS s with
  | false => rfl
  | true => unfold okS at q; simp at q; exact absurd ⟨q.1, q.2.1, q.2.2⟩ h
theorem okS_yes {s : Stp} (h : s.a.er = 0) (g : s.b.er = 0) (i : s.c.er = 0) : okS s = true := by unfold okS; rw [decide_eq_true h, decide_eq_true g, decide_eq_true i]; rfl
set_option maxRecDepth 20000 in
theorem c_check (x : Tb) (w : World) (hT : TbL w x) : Calls Tryz.prog 156 #[x.v] w fun r W => r = .returned (.int .i64 (chkT x.st)) ∧ Mb w W := by
  have hln := hT.ln
  refine fn_pure [x.y] Tryz.func156 rfl rfl rfl (run_ok (st mo (st mo ?_)))
  refine ⟨fun h => st mo ?_, fun h1 => st mo (st mo ⟨fun h => st mo ?_, fun h2 => st mo ?_⟩)⟩
  · show _ = _; rw [chkT, if_pos (by omega)]
  · show _ = _; rw [chkT, if_neg (by omega), if_pos (by omega)]
  refine S.w_loop (fun i : Nat => ⟨⟨Tryz.f156.ntmps, [(1, .pointer (some ⟨0, 0, none⟩)), (3, .int .i64 (i : Int))]⟩, [(0, some (x.cells.map rel1))], 1, w⟩) (fun i => i ≤ x.st.length ∧ ∀ j < i, ∀ y, x.st[j]? = some y → okS y = true) (fun i => x.st.length - i) 0 ⟨by omega, fun j hj => absurd hj (Nat.not_lt_zero j)⟩ [0] ⟨rfl, ⟨fp, fv, trivial⟩, ⟨flr rfl, trivial⟩, xf, rfl, rfl⟩ ?_
  intro i hi
  refine st mo (st mo ⟨fun hlt => st mo ?_, fun hge => st mo (st mo ?_)⟩)
  · have hil : i < x.st.length := by omega
    obtain ⟨y, hy, hok, b, o, h4, h5⟩ := hT.at hil
    refine ⟨b, o, i, h4, rfl, hil, st mo ⟨y.cells, rfl, h5, st mo ?_⟩⟩
    have bad : okS y = false → chkT x.st = 20 := fun hb => chk_bad (by omega) (by omega) (List.mem_of_getElem? hy) hb
    refine ⟨_, fun nn => r_call (t := .int .i64 y.a.er) rfl rfl Tryz.func59 (fun W M E => q_dck y.a.b y.a.n y.a.s hok.1 W), st mo ⟨fun h => st mo ?_, fun ha => st mo ?_⟩⟩
    · show _ = _; rw [bad (okS_no (fun q => h q.1))]
    refine ⟨_, fun nn => r_call (t := .int .i64 y.b.er) rfl rfl Tryz.func59 (fun W M E => q_dck y.b.b y.b.n y.b.s hok.2.1 W), st mo ⟨fun h => st mo ?_, fun hb => st mo ?_⟩⟩
    · show _ = _; rw [bad (okS_no (fun q => h q.2.1))]
    refine ⟨_, fun nn => r_call (t := .int .i64 y.c.er) rfl rfl Tryz.func59 (fun W M E => q_dck y.c.b y.c.n y.c.s hok.2.2 W), st mo ⟨fun h => st mo ?_, fun hc => st mo ?_⟩⟩
    · show _ = _; rw [bad (okS_no (fun q => h q.2.2))]
    refine ⟨_, wz (i + 1) rfl, st mo ?_⟩
    refine ⟨i + 1, ⟨hil, fun j hj z hz => ?_⟩, by dsimp; omega, [0], rfl, ⟨fp, fv, trivial⟩, ⟨flr rfl, trivial⟩, xf, rfl, rfl⟩
    rcases Nat.lt_or_ge j i with q | q
    · exact hi.2 j q z hz
    · obtain rfl : j = i := by omega
      rw [hy] at hz; cases hz; exact okS_yes ha hb hc
  have hall : x.st.all okS = true := all_of (fun j hj y hy => hi.2 j (by omega) y hy)
  refine S.w_loop (fun i : Nat => ⟨⟨Tryz.f156.ntmps, [(1, .pointer (some ⟨0, 0, none⟩)), (5, .int .i64 ((i + 1 : Nat) : Int))]⟩, [(0, some (x.cells.map rel1))], 1, w⟩) (fun i => i < x.st.length ∧ ∀ j < i, ∀ y z, x.st[j]? = some y → x.st[j + 1]? = some z → 0 < cmpD z.a y.a) (fun i => x.st.length - i) 0 ⟨by omega, fun j hj => absurd hj (Nat.not_lt_zero j)⟩ [0] ⟨rfl, ⟨fp, fv, trivial⟩, ⟨flr rfl, trivial⟩, xf, rfl, rfl⟩ ?_
  intro i hi
  refine st mo (st mo ⟨fun hlt => st mo ?_, fun hge => st mo (st mo ?_)⟩)
  · have hil : i + 1 < x.st.length := by omega
    obtain ⟨y, hy, hok, b, o, h4, h5⟩ := hT.at (Nat.lt_of_succ_lt hil)
    obtain ⟨z, hz, hokz, b', o', h6, h7⟩ := hT.at hil
    obtain ⟨rfl, rfl⟩ : b' = b ∧ o' = o := by rw [h4] at h6; cases h6; exact ⟨rfl, rfl⟩
    have fy := fit_of hT.ok hall hy
    have fz := fit_of hT.ok hall hz
    refine ⟨b', o', i + 1, h4, rfl, hil, st mo ⟨z.a.cells, rfl, (Stp.lc h7).1, st mo ?_⟩⟩
    refine ⟨(i : Int), wz i (by omega), st mo ⟨b', o', i, h4, rfl, by omega, st mo ⟨y.a.cells, rfl, (Stp.lc h5).1, st mo ?_⟩⟩⟩
    refine ⟨_, fun nn => r_call (t := .int .i64 (cmpD z.a y.a)) rfl rfl Tryz.func108 (fun W M E => q_cmp z.a.b z.a.n z.a.s y.a.b y.a.n y.a.s fz.1.1 fy.1.1 fz.1.2 fy.1.2 W), st mo ⟨fun h => st mo ⟨dk, st mo ?_⟩, fun h => st mo ⟨dk, st mo ?_⟩⟩⟩
    · show _ = _; rw [chk_low (by omega) (by omega) hall hy hz (by omega)]
    · refine ⟨_, wz (i + 1 + 1) rfl, st mo ?_⟩
      refine ⟨i + 1, ⟨hil, fun j hj u v hu hv => ?_⟩, by dsimp; omega, [0], rfl, ⟨fp, fv, trivial⟩, ⟨flr rfl, trivial⟩, xf, rfl, rfl⟩
      rcases Nat.lt_or_ge j i with q | q
      · exact hi.2 j q u v hu hv
      · obtain rfl : j = i := by omega
        rw [hy] at hu; cases hu; rw [hz] at hv; cases hv; omega
  · have hs : asc x.st = true := asc_of fun j u v hu hv => hi.2 j (by have := lt_of_get hv; omega) u v hu hv
    show _ = _; rw [chk_fine (by omega) (by omega) hall hs]
/-- The number found so far, none: -1. -/
def lpI (o : Option Nat) : Int := match o with | none => -1 | some k => (k : Int)
theorem lp_succ (p : Nat → Bool) (i : Nat) : lpI (lastP p (i + 1)) = if p i then (i : Int) else lpI (lastP p i) := by
  rw [lastP]; split <;> rfl
theorem stp_e {L : List Stp} {d : Dn} (hc : chkT L = 0) (he : d.er = 0) : (lpI (lastP (rchd L d) L.length) < 0 → stpE L d = 141 ∧ stpN L d = 0) ∧ (¬ lpI (lastP (rchd L d) L.length) < 0 → stpE L d = 0 ∧ stpN L d = lpI (lastP (rchd L d) L.length)) := by
  unfold stpN stpE
  rw [if_pos hc, if_pos he]
  cases lastP (rchd L d) L.length with
  | none => exact ⟨fun _ => ⟨rfl, rfl⟩, fun h => absurd (show (-1 : Int) < 0 by decide) h⟩
  | some k => exact ⟨fun h => absurd h (by show ¬ (k : Int) < 0; omega), fun _ => ⟨rfl, rfl⟩⟩
set_option maxRecDepth 20000 in
theorem c_step (x : Tb) (d : Dn) (hd : d.ok) (w : World) (hT : TbL w x) : Calls Tryz.prog 109 #[x.v, d.v'] w fun r W => r = .returned (.tuple #[.int .i64 (stpN x.st d), .int .i64 (stpE x.st d)]) ∧ Mb w W := by
  have hln := hT.ln
  refine fn_pure [x.y, d.v'] Tryz.func109 rfl rfl rfl (run_ok (st mo ?_))
  refine ⟨_, fun nn => r_call (t := .int .i64 (chkT x.st)) rfl rfl Tryz.func156 (fun W M E => c_check x W (hT.mono E)), st mo ⟨fun h => st mo ?_, fun h => st mo ?_⟩⟩
  · have e1 : stpE x.st d = chkT x.st := by unfold stpE; rw [if_neg h]
    have e2 : stpN x.st d = 0 := by unfold stpN; rw [if_neg (by rw [e1]; exact h)]
    show _ = _; rw [e1, e2]; rfl
  · have hc : chkT x.st = 0 := h
    refine ⟨_, fun nn => r_call (t := .int .i64 d.er) rfl rfl Tryz.func59 (fun W M E => q_dck d.b d.n d.s hd W), st mo ⟨fun h => st mo ?_, fun h => st mo ?_⟩⟩
    · have e1 : stpE x.st d = 20 := by unfold stpE; rw [if_pos hc, if_neg h]
      have e2 : stpN x.st d = 0 := by unfold stpN; rw [if_neg (by rw [e1]; decide)]
      show _ = _; rw [e1, e2]; rfl
    have he : d.er = 0 := h
    obtain ⟨s1, s2⟩ := stp_e hc he
    have hall := (chk_0 hc).2.2.1
    refine S.w_loop (fun i : Nat => ⟨⟨Tryz.f109.ntmps, [(2, .pointer (some ⟨0, 0, none⟩)), (3, .pointer (some ⟨1, 0, none⟩)), (7, .int .i64 (lpI (lastP (rchd x.st d) i))), (8, .int .i64 (i : Int))]⟩, hB x d, 2, w⟩) (fun i => i ≤ x.st.length) (fun i => x.st.length - i) 0 (by omega) [0, 1] ⟨rfl, ⟨fp, fp, fv, fv, trivial⟩, ⟨flr rfl, flr rfl, trivial⟩, xf, rfl, rfl⟩ ?_
    intro i hi
    refine st mo (st mo ⟨fun hlt => st mo ?_, fun hge => st mo (st mo ?_)⟩)
    · have hil : i < x.st.length := by omega
      obtain ⟨y, hy, hok, b, o, h4, h5⟩ := hT.at hil
      have fy := fit_of hT.ok hall hy
      have e3 := lp_succ (rchd x.st d) i
      rw [rchd_at hy] at e3
      refine ⟨b, o, i, h4, rfl, hil, st mo ⟨y.a.cells, rfl, (Stp.lc h5).1, st mo ?_⟩⟩
      refine ⟨_, fun nn => r_call (t := .int .i64 (cmpD y.a d)) rfl rfl Tryz.func108 (fun W M E => q_cmp y.a.b y.a.n y.a.s d.b d.n d.s fy.1.1 hd fy.1.2 he W), st mo ⟨fun h => st mo ⟨dk, st mo ?_⟩, fun h => st mo ⟨dk, st mo ?_⟩⟩⟩
      · refine ⟨_, wz (i + 1) rfl, st mo ?_⟩
        rw [if_pos (decide_eq_true h)] at e3
        exact ⟨i + 1, hil, by dsimp; omega, [0, 1], rfl, ⟨fp, fp, fe e3.symm, fv, trivial⟩, ⟨flr rfl, flr rfl, trivial⟩, xf, rfl, rfl⟩
      · refine ⟨_, wz (i + 1) rfl, st mo ?_⟩
        rw [decide_eq_false (by omega)] at e3
        exact ⟨i + 1, hil, by dsimp; omega, [0, 1], rfl, ⟨fp, fp, fe e3.symm, fv, trivial⟩, ⟨flr rfl, flr rfl, trivial⟩, xf, rfl, rfl⟩
    · obtain rfl : i = x.st.length := by omega
      refine ⟨fun h => st mo ?_, fun h => st mo ?_⟩
      · show _ = _; rw [(s1 h).1, (s1 h).2]; rfl
      · show _ = _; rw [(s2 (by omega)).1, (s2 (by omega)).2]; rfl
theorem addD_comm (x y : Dn) : addD x y = addD y x := by
  unfold addD addR addV
  rw [Int.max_comm x.s y.s, Int.add_comm (sgn x.b x.n * _)]
set_option maxRecDepth 20000 in
theorem c_says (s : Stp) (d : Dn) (hs : s.fit) (hd : d.fit) (w : World) : Calls Tryz.prog 110 #[s.v, d.v'] w fun r W => r = .returned (saysD s d).v ∧ Mb w W := by
  refine fn_pure [.agg (s.cells.map rel1).toArray, d.v'] Tryz.func110 rfl rfl rfl (run_ok (st mo ?_))
  have g1 := good_sub hd hs.1
  refine ⟨_, fun nn => r_call (t := (subD d s.a).y) rfl rfl Tryz.func106 (fun W M E => q_sub d.b d.n d.s s.a.b s.a.n s.a.s hd.1 hs.1.1 hd.2 hs.1.2 W), st mo ⟨fun h => st mo ?_, fun h => st mo ?_⟩⟩
  · show _ = _; rw [saysD, if_neg h]; rfl
  · have h : (subD d s.a).e = 0 := h
    have f1 := g1.fit h
    have b1 := f1.s
    have b2 := hs.2.2.s
    have g2 := good_mul f1 hs.2.2
    refine ⟨(subD d s.a).s + s.c.s, wi (by have : (subD d s.a).s = (subD d s.a).d.s := rfl; omega), st mo ⟨_, fun nn => r_min 18 ((subD d s.a).s + s.c.s), st mo ?_⟩⟩
    refine ⟨_, fun nn => r_call (t := (mulD (subD d s.a).d s.c).y) rfl rfl Tryz.func107 (fun W M E => qd_mul (subD d s.a).b (subD d s.a).n (subD d s.a).s s.c.b s.c.n s.c.s W f1.1 hs.2.2.1 f1.2 hs.2.2.2), st mo ⟨fun h2 => st mo ?_, fun h2 => st mo ?_⟩⟩
    · show _ = _; rw [saysD, if_pos h, if_neg h2]; rfl
    · have h2 : (mulD (subD d s.a).d s.c).e = 0 := h2
      have f2 := g2.fit h2
      refine ⟨_, fun nn => r_call (t := (addD s.b (mulD (subD d s.a).d s.c).d).y) rfl rfl Tryz.func105 (fun W M E => q_add s.b.b s.b.n s.b.s _ _ _ hs.2.1.1 f2.1 hs.2.1.2 f2.2 W), st mo ?_⟩
      show _ = _; rw [saysD, if_pos h, if_pos h2, addD_comm]; rfl
set_option maxRecDepth 20000 in
theorem c_at (x : Tb) (d : Dn) (hd : d.ok) (w : World) (hT : TbL w x) : Calls Tryz.prog 76 #[x.v, d.v'] w fun r W => r = .returned (atD x.st d).v ∧ Mb w W := by
  refine fn_pure [x.y, d.v'] Tryz.func76 rfl rfl rfl (run_ok (st mo ?_))
  refine ⟨_, fun nn => r_call (t := .tuple #[.int .i64 (stpN x.st d), .int .i64 (stpE x.st d)]) rfl rfl Tryz.func109 (fun W M E => c_step x d hd W (hT.mono E)), st mo ⟨fun h => st mo ?_, fun h => st mo ?_⟩⟩
  · show _ = _; rw [atD, if_neg h]; rfl
  · have h : stpE x.st d = 0 := h
    obtain ⟨hc, he, k, hk, hN⟩ := stp_0 h
    have hkl := (lastP_inv hk).1
    obtain ⟨y, hy, hok, b, o, h4, h5⟩ := hT.at hkl
    have fy := fit_of hT.ok (chk_0 hc).2.2.1 hy
    have e : atD x.st d = saysD y d := by unfold atD; rw [if_pos h, hk]; simp only [Option.getD_some, List.getD_eq_getElem?_getD, hy]
    rw [e]
    refine ⟨b, o, k, h4, hN.symm, hkl, st mo ⟨y.cells, rfl, h5, st mo ?_⟩⟩
    refine ⟨_, fun nn => r_call (t := (saysD y d).y) rfl rfl Tryz.func110 (fun W M E => c_says y d fy ⟨hd, he⟩ W), st mo ⟨dk, st mo ?_⟩⟩
    rfl
def pN (A B c e : Nat) : Nat := A % 2 ^ e + B % 2 ^ e + c
def ouN (A B c e : Nat) : Nat := pN A B c e % 2 ^ e
def caN (A B c e : Nat) : Nat := pN A B c e / 2 ^ e
theorem pN_succ (A B c e : Nat) : pN A B c (e + 1) = pN A B c e + 2 ^ e * (A / 2 ^ e % 2 + B / 2 ^ e % 2) := by
  unfold pN; rw [Nat.pow_succ, Nat.mod_mul, Nat.mod_mul, Nat.mul_add]; omega
theorem sN (A B c e : Nat) : A / 2 ^ e % 2 + B / 2 ^ e % 2 + caN A B c e = pN A B c (e + 1) / 2 ^ e := by
  rw [pN_succ, Nat.add_mul_div_left _ _ (Nat.two_pow_pos e)]; unfold caN; omega
theorem caN_succ (A B c e : Nat) : caN A B c (e + 1) = (A / 2 ^ e % 2 + B / 2 ^ e % 2 + caN A B c e) / 2 := by
  rw [sN, Nat.div_div_eq_div_mul, ← Nat.pow_succ]; rfl
theorem ouN_succ (A B c e : Nat) : ouN A B c (e + 1) = ouN A B c e + (A / 2 ^ e % 2 + B / 2 ^ e % 2 + caN A B c e) % 2 * 2 ^ e := by
  rw [sN]; unfold ouN
  rw [Nat.pow_succ, Nat.mod_mul, pN_succ, Nat.add_mul_mod_self_left, Nat.mul_comm (2 ^ e)]
theorem caN_le {A B c : Nat} (e : Nat) (h : c ≤ 1) : caN A B c e ≤ 1 := by
  unfold caN pN
  have h1 := Nat.mod_lt A (Nat.two_pow_pos e)
  have h2 := Nat.mod_lt B (Nat.two_pow_pos e)
  exact Nat.le_of_lt_succ (Nat.div_lt_of_lt_mul (by omega))
theorem ouN_lt (A B c e : Nat) : ouN A B c e < 2 ^ e := Nat.mod_lt _ (Nat.two_pow_pos e)
theorem orN {x y r : Nat} (hx : x < 2 ^ r) (hy : y ≤ 1) (hr : r < 64) : IntKind.u64.wrap (((BitVec.ofInt IntKind.u64.bits (x : Int) ||| BitVec.ofInt IntKind.u64.bits ((y * 2 ^ r : Nat) : Int)).toNat : Nat) : Int) = ((x + y * 2 ^ r : Nat) : Int) := by
  have p1 : 2 ^ r * 2 ≤ 2 ^ 64 := by rw [← Nat.pow_succ]; exact Nat.pow_le_pow_right (by decide) (by omega)
  have p2 : y * 2 ^ r ≤ 2 ^ r := by have := Nat.mul_le_mul_right (2 ^ r) hy; omega
  show IntKind.u64.wrap (((BitVec.ofInt 64 (x : Int) ||| BitVec.ofInt 64 ((y * 2 ^ r : Nat) : Int)).toNat : Nat) : Int) = _
  rw [BitVec.toNat_or, BitVec.toNat_ofInt, BitVec.toNat_ofInt, IntKind.wrap_u64]
  have e1 : ((x : Int) % ((2 ^ 64 : Nat) : Int)).toNat = x := by omega
  have e2 : (((y * 2 ^ r : Nat) : Int) % ((2 ^ 64 : Nat) : Int)).toNat = y * 2 ^ r := by omega
  rw [e1, e2, Nat.or_comm, ← Nat.shiftLeft_eq, ← Nat.shiftLeft_add_eq_or_of_lt hx, Nat.shiftLeft_eq]
  omega
theorem andN {x : Nat} (hx : x < 2 ^ 64) : IntKind.u64.wrap (((BitVec.ofInt IntKind.u64.bits (x : Int) &&& BitVec.ofInt IntKind.u64.bits 1).toNat : Nat) : Int) = ((x % 2 : Nat) : Int) := by
  show IntKind.u64.wrap (((BitVec.ofInt 64 (x : Int) &&& BitVec.ofInt 64 1).toNat : Nat) : Int) = _
  rw [BitVec.toNat_and, BitVec.toNat_ofInt, IntKind.wrap_u64]
  have e1 : ((x : Int) % ((2 ^ 64 : Nat) : Int)).toNat = x := by omega
  rw [e1, show (BitVec.ofInt 64 1).toNat = 1 by decide, Nat.and_one_is_mod]
  omega
theorem td64 {q r : Nat} (h : r < 64) : ((64 * q + r : Nat) : Int).tdiv 64 = (q : Int) := by rw [Int.tdiv_eq_ediv_of_nonneg (by omega)]; omega
theorem tm64 {q r : Nat} (h : r < 64) : ((64 * q + r : Nat) : Int).tmod 64 = (r : Int) := by rw [Int.tmod_eq_emod_of_nonneg (by omega)]; omega
theorem fdN (a r : Nat) (h : r < 64) : (a : Int).fdiv (2 ^ min (r : Int).toNat IntKind.u64.bits) = ((a / 2 ^ r : Nat) : Int) := by
  rw [show min (r : Int).toNat IntKind.u64.bits = r by show min (r : Int).toNat 64 = r; omega, Int.fdiv_eq_ediv_of_nonneg _ (Int.le_of_lt (Int.pow_pos (by decide)))]
  rw [Int.natCast_ediv, Int.natCast_pow]; rfl
theorem slN {a r : Nat} (h : r < 64) (ha : a ≤ 1) : IntKind.u64.wrap ((a : Int) * 2 ^ min (r : Int).toNat IntKind.u64.bits) = ((a * 2 ^ r : Nat) : Int) := by
  have p1 : 2 ^ r * 2 ≤ 2 ^ 64 := by rw [← Nat.pow_succ]; exact Nat.pow_le_pow_right (by decide) (by omega)
  have p2 : a * 2 ^ r ≤ 2 ^ r := by have := Nat.mul_le_mul_right (2 ^ r) ha; omega
  have e : (a : Int) * 2 ^ r = ((a * 2 ^ r : Nat) : Int) := by rw [Int.natCast_mul, Int.natCast_pow]; rfl
  rw [show min (r : Int).toNat IntKind.u64.bits = r by show min (r : Int).toNat 64 = r; omega, e, IntKind.wrap_u64]
  omega
theorem u_div {a : Nat} (h : a < 2 ^ 64) (r : Nat) : a / 2 ^ r < 2 ^ 64 := Nat.lt_of_le_of_lt (Nat.div_le_self ..) h
abbrev wn (a0 a1 a2 a3 a4 : Nat) : List Value := wd a0 a1 a2 a3 a4
set_option maxRecDepth 20000 in
theorem c_bit0 (a0 a1 a2 a3 a4 r : Nat) (h : a0 < 2 ^ 64) (hr : r < 64) (w : World) : Calls Tryz.prog 178 #[.agg (wn a0 a1 a2 a3 a4).toArray, .int .i64 ((64 * 0 + r : Nat) : Int)] w fun e W => e = .returned (.int .u64 ((a0 / 2 ^ r % 2 : Nat) : Int)) ∧ Mb w W := by
  refine fn_pure [.agg (wn a0 a1 a2 a3 a4).toArray, .int .i64 ((64 * 0 + r : Nat) : Int)] Tryz.func178 rfl rfl rfl (run_ok (st mo ?_))
  refine ⟨by decide, 0, by rw [td64 hr]; exact wz 0, st mo ⟨0, rfl, by decide, st mo ⟨.int .u64 a0, rfl, st mo ⟨by decide, r, tm64 hr, st mo ⟨by omega, _, fdN a0 r hr, st mo ⟨_, andN (u_div h r), st mo rfl⟩⟩⟩⟩⟩⟩
set_option maxRecDepth 20000 in
theorem c_bit1 (a0 a1 a2 a3 a4 r : Nat) (h : a1 < 2 ^ 64) (hr : r < 64) (w : World) : Calls Tryz.prog 178 #[.agg (wn a0 a1 a2 a3 a4).toArray, .int .i64 ((64 * 1 + r : Nat) : Int)] w fun e W => e = .returned (.int .u64 ((a1 / 2 ^ r % 2 : Nat) : Int)) ∧ Mb w W := by
  refine fn_pure [.agg (wn a0 a1 a2 a3 a4).toArray, .int .i64 ((64 * 1 + r : Nat) : Int)] Tryz.func178 rfl rfl rfl (run_ok (st mo ?_))
  refine ⟨by decide, 1, by rw [td64 hr]; exact wz 1, st mo ⟨1, rfl, by decide, st mo ⟨.int .u64 a1, rfl, st mo ⟨by decide, r, tm64 hr, st mo ⟨by omega, _, fdN a1 r hr, st mo ⟨_, andN (u_div h r), st mo rfl⟩⟩⟩⟩⟩⟩
set_option maxRecDepth 20000 in
theorem c_bit2 (a0 a1 a2 a3 a4 r : Nat) (h : a2 < 2 ^ 64) (hr : r < 64) (w : World) : Calls Tryz.prog 178 #[.agg (wn a0 a1 a2 a3 a4).toArray, .int .i64 ((64 * 2 + r : Nat) : Int)] w fun e W => e = .returned (.int .u64 ((a2 / 2 ^ r % 2 : Nat) : Int)) ∧ Mb w W := by
  refine fn_pure [.agg (wn a0 a1 a2 a3 a4).toArray, .int .i64 ((64 * 2 + r : Nat) : Int)] Tryz.func178 rfl rfl rfl (run_ok (st mo ?_))
  refine ⟨by decide, 2, by rw [td64 hr]; exact wz 2, st mo ⟨2, rfl, by decide, st mo ⟨.int .u64 a2, rfl, st mo ⟨by decide, r, tm64 hr, st mo ⟨by omega, _, fdN a2 r hr, st mo ⟨_, andN (u_div h r), st mo rfl⟩⟩⟩⟩⟩⟩
set_option maxRecDepth 20000 in
theorem c_bit3 (a0 a1 a2 a3 a4 r : Nat) (h : a3 < 2 ^ 64) (hr : r < 64) (w : World) : Calls Tryz.prog 178 #[.agg (wn a0 a1 a2 a3 a4).toArray, .int .i64 ((64 * 3 + r : Nat) : Int)] w fun e W => e = .returned (.int .u64 ((a3 / 2 ^ r % 2 : Nat) : Int)) ∧ Mb w W := by
  refine fn_pure [.agg (wn a0 a1 a2 a3 a4).toArray, .int .i64 ((64 * 3 + r : Nat) : Int)] Tryz.func178 rfl rfl rfl (run_ok (st mo ?_))
  refine ⟨by decide, 3, by rw [td64 hr]; exact wz 3, st mo ⟨3, rfl, by decide, st mo ⟨.int .u64 a3, rfl, st mo ⟨by decide, r, tm64 hr, st mo ⟨by omega, _, fdN a3 r hr, st mo ⟨_, andN (u_div h r), st mo rfl⟩⟩⟩⟩⟩⟩
set_option maxRecDepth 20000 in
theorem c_bit4 (a0 a1 a2 a3 a4 r : Nat) (h : a4 < 2 ^ 64) (hr : r < 64) (w : World) : Calls Tryz.prog 178 #[.agg (wn a0 a1 a2 a3 a4).toArray, .int .i64 ((64 * 4 + r : Nat) : Int)] w fun e W => e = .returned (.int .u64 ((a4 / 2 ^ r % 2 : Nat) : Int)) ∧ Mb w W := by
  refine fn_pure [.agg (wn a0 a1 a2 a3 a4).toArray, .int .i64 ((64 * 4 + r : Nat) : Int)] Tryz.func178 rfl rfl rfl (run_ok (st mo ?_))
  refine ⟨by decide, 4, by rw [td64 hr]; exact wz 4, st mo ⟨4, rfl, by decide, st mo ⟨.int .u64 a4, rfl, st mo ⟨by decide, r, tm64 hr, st mo ⟨by omega, _, fdN a4 r hr, st mo ⟨_, andN (u_div h r), st mo rfl⟩⟩⟩⟩⟩⟩
def k1 (a0 b0 : Nat) : Nat := caN a0 b0 0 64
def k2 (a0 a1 b0 b1 : Nat) : Nat := caN a1 b1 (k1 a0 b0) 64
def k3 (a0 a1 a2 b0 b1 b2 : Nat) : Nat := caN a2 b2 (k2 a0 a1 b0 b1) 64
def k4 (a0 a1 a2 a3 b0 b1 b2 b3 : Nat) : Nat := caN a3 b3 (k3 a0 a1 a2 b0 b1 b2) 64
theorem ad_N {A B c : Nat} (hA : A < 2 ^ 64) (hB : B < 2 ^ 64) : ((ouN A B c 64 : Nat) : Int) = ad A B c ∧ ((caN A B c 64 : Nat) : Int) = cy A B c := by
  unfold ouN caN pN ad cy M64
  rw [Nat.mod_eq_of_lt hA, Nat.mod_eq_of_lt hB]
  omega
/-- The limb so far. -/
def oN (A B c j i : Nat) : Nat := ouN A B c (min (i - 64 * j) 64)
theorem oN_at {A B c j i r : Nat} (h : i = 64 * j + r) (hr : r ≤ 64) : oN A B c j i = ouN A B c r := by unfold oN; rw [show min (i - 64 * j) 64 = r by omega]
theorem oN_end {A B c j i : Nat} (h : 64 * j + 64 ≤ i) : oN A B c j i = ouN A B c 64 := by unfold oN; rw [show min (i - 64 * j) 64 = 64 by omega]
theorem oN_off {A B c j i q r : Nat} (h : i = 64 * q + r) (hr : r < 64) (n : ¬ j = q) : oN A B c j (i + 1) = oN A B c j i := by unfold oN; rw [show min (i + 1 - 64 * j) 64 = min (i - 64 * j) 64 by omega]
theorem oN_0 (A B c j : Nat) : oN A B c j 0 = 0 := by unfold oN ouN; rw [show min (0 - 64 * j) 64 = 0 by omega]; omega
def gN (l : List Nat) (q : Nat) : Nat := l.getD q 0
def carN (A B K : List Nat) (i : Nat) : Nat := caN (gN A (i / 64)) (gN B (i / 64)) (gN K (i / 64)) (i % 64)
theorem carN_at {A B K : List Nat} {i q r : Nat} (h : i = 64 * q + r) (hr : r < 64) : carN A B K i = caN (gN A q) (gN B q) (gN K q) r := by unfold carN; rw [show i / 64 = q by omega, show i % 64 = r by omega]
theorem carN_next {A B K : List Nat} {i q r : Nat} (h : i = 64 * q + r) (hr : r < 64) (hk : gN K (q + 1) = caN (gN A q) (gN B q) (gN K q) 64) : carN A B K (i + 1) = caN (gN A q) (gN B q) (gN K q) (r + 1) := by
  by_cases e : r = 63
  · subst e
    rw [carN_at (q := q + 1) (r := 0) (by omega) (by omega), ← hk]
    unfold caN pN; simp; omega
  · rw [carN_at (q := q) (r := r + 1) (by omega) (by omega)]
theorem addN {x y : Nat} (h : x + y < 2 ^ 64) : IntKind.u64.wrap ((x : Int) + (y : Int)) = ((x + y : Nat) : Int) := by rw [IntKind.wrap_u64]; omega
theorem m2N {x : Nat} : (x : Int).tmod 2 = ((x % 2 : Nat) : Int) := by rw [Int.tmod_eq_emod_of_nonneg (by omega)]; omega
theorem d2N {x : Nat} (h : x < 2 ^ 64) : IntKind.u64.wrap ((x : Int).tdiv 2) = ((x / 2 : Nat) : Int) := by rw [Int.tdiv_eq_ediv_of_nonneg (by omega), IntKind.wrap_u64]; omega
set_option maxRecDepth 20000 in
theorem c_addN (a0 a1 a2 a3 a4 b0 b1 b2 b3 b4 : Nat) (ha0 : a0 < 2 ^ 64) (ha1 : a1 < 2 ^ 64) (ha2 : a2 < 2 ^ 64) (ha3 : a3 < 2 ^ 64) (ha4 : a4 < 2 ^ 64) (hb0 : b0 < 2 ^ 64) (hb1 : b1 < 2 ^ 64) (hb2 : b2 < 2 ^ 64) (hb3 : b3 < 2 ^ 64) (hb4 : b4 < 2 ^ 64) (w : World) : Calls Tryz.prog 145 #[.agg (wn a0 a1 a2 a3 a4).toArray, .agg (wn b0 b1 b2 b3 b4).toArray] w fun r W => r = .returned (.agg (wd ((oN a0 b0 0 0 320 : Nat) : Int) ((oN a1 b1 (k1 a0 b0) 1 320 : Nat) : Int) ((oN a2 b2 (k2 a0 a1 b0 b1) 2 320 : Nat) : Int) ((oN a3 b3 (k3 a0 a1 a2 b0 b1 b2) 3 320 : Nat) : Int) ((oN a4 b4 (k4 a0 a1 a2 a3 b0 b1 b2 b3) 4 320 : Nat) : Int)).toArray) ∧ Mb w W := by
  have c0 : (0 : Nat) ≤ 1 := by decide
  have c1 : (k1 a0 b0) ≤ 1 := caN_le 64 c0
  have c2 : (k2 a0 a1 b0 b1) ≤ 1 := caN_le 64 c1
  have c3 : (k3 a0 a1 a2 b0 b1 b2) ≤ 1 := caN_le 64 c2
  have c4 : (k4 a0 a1 a2 a3 b0 b1 b2 b3) ≤ 1 := caN_le 64 c3
  refine fn_pure [.agg (wn a0 a1 a2 a3 a4).toArray, .agg (wn b0 b1 b2 b3 b4).toArray] Tryz.func145 rfl rfl rfl (run_ok (st mo ?_))
  refine S.w_loop (fun i : Nat => ⟨⟨Tryz.f145.ntmps, [(2, .pointer (some ⟨0, 0, none⟩)), (3, .pointer (some ⟨1, 0, none⟩)), (4, .pointer (some ⟨2, 0, none⟩)), (5, .pointer (some ⟨3, 0, none⟩)), (6, .int .u64 ((carN [a0, a1, a2, a3, a4] [b0, b1, b2, b3, b4] [0, (k1 a0 b0), (k2 a0 a1 b0 b1), (k3 a0 a1 a2 b0 b1 b2), (k4 a0 a1 a2 a3 b0 b1 b2 b3), caN a4 b4 (k4 a0 a1 a2 a3 b0 b1 b2 b3) 64] i : Nat) : Int)), (7, .int .i64 (i : Int))]⟩, [(0, some ((wn a0 a1 a2 a3 a4).map rel1)), (1, some ((wn b0 b1 b2 b3 b4).map rel1)), (2, some ((wd 0 0 0 0 0).map rel1)), (3, some ((wd ((oN a0 b0 0 0 i : Nat) : Int) ((oN a1 b1 (k1 a0 b0) 1 i : Nat) : Int) ((oN a2 b2 (k2 a0 a1 b0 b1) 2 i : Nat) : Int) ((oN a3 b3 (k3 a0 a1 a2 b0 b1 b2) 3 i : Nat) : Int) ((oN a4 b4 (k4 a0 a1 a2 a3 b0 b1 b2 b3) 4 i : Nat) : Int)).map rel1))], 4, w⟩) (fun i => i ≤ 320) (fun i => 320 - i) 0 (by omega) [0, 1, 2, 3] ⟨rfl, ⟨fp, fp, fp, fp, fe (by show (0 : Int) = ((carN _ _ _ 0 : Nat) : Int); rw [carN_at (q := 0) (r := 0) (by omega) (by omega)]; unfold caN pN; simp [gN, Nat.mod_one]), fv, trivial⟩, ⟨flr rfl, flr rfl, flr rfl, by rw [oN_0, oN_0, oN_0, oN_0, oN_0]; exact flr rfl, trivial⟩, xf, rfl, rfl⟩ ?_
  intro i hi
  refine st mo ⟨fun hlt => st mo ?_, fun hge => st mo (st mo ?_)⟩
  · obtain ⟨q, r, hq, hr⟩ : ∃ q r, i = 64 * q + r ∧ r < 64 := ⟨i / 64, i % 64, by omega, by omega⟩
    have q5 : q < 5 := by omega
    rcases q with _ | _ | _ | _ | _ | q
    · obtain rfl : i = 64 * 0 + r := hq
      obtain ⟨x, hx⟩ : ∃ x, a0 / 2 ^ r % 2 = x := ⟨_, rfl⟩
      obtain ⟨y, hy⟩ : ∃ y, b0 / 2 ^ r % 2 = y := ⟨_, rfl⟩
      obtain ⟨c, hc⟩ : ∃ c, caN a0 b0 0 r = c := ⟨_, rfl⟩
      have bx : x < 2 := by rw [← hx]; exact Nat.mod_lt _ (by decide)
      have bY : y < 2 := by rw [← hy]; exact Nat.mod_lt _ (by decide)
      have bc : c ≤ 1 := by rw [← hc]; exact caN_le r c0
      have ec : carN [a0, a1, a2, a3, a4] [b0, b1, b2, b3, b4] [0, (k1 a0 b0), (k2 a0 a1 b0 b1), (k3 a0 a1 a2 b0 b1 b2), (k4 a0 a1 a2 a3 b0 b1 b2 b3), caN a4 b4 (k4 a0 a1 a2 a3 b0 b1 b2 b3) 64] (64 * 0 + r) = c := by rw [carN_at (q := 0) (r := r) rfl hr, ← hc]; rfl
      have eo : oN a0 b0 0 0 (64 * 0 + r) = ouN a0 b0 0 r := oN_at rfl (by omega)
      have eo' : oN a0 b0 0 0 (64 * 0 + r + 1) = ouN a0 b0 0 r + (x + y + c) % 2 * 2 ^ r := by rw [oN_at (r := r + 1) (by omega) (by omega), ouN_succ, hx, hy, hc]
      have ec' : carN [a0, a1, a2, a3, a4] [b0, b1, b2, b3, b4] [0, (k1 a0 b0), (k2 a0 a1 b0 b1), (k3 a0 a1 a2 b0 b1 b2), (k4 a0 a1 a2 a3 b0 b1 b2 b3), caN a4 b4 (k4 a0 a1 a2 a3 b0 b1 b2 b3) 64] (64 * 0 + r + 1) = (x + y + c) / 2 := by
        rw [carN_next (q := 0) (r := r) rfl hr rfl, ← hx, ← hy, ← hc]; exact caN_succ _ _ _ _
      refine ⟨_, fun nn => r_call (t := .int .u64 (x : Int)) rfl rfl Tryz.func178 (fun W M E => hx ▸ c_bit0 a0 a1 a2 a3 a4 r ha0 hr W), st mo ?_⟩
      refine ⟨_, fun nn => r_call (t := .int .u64 (y : Int)) rfl rfl Tryz.func178 (fun W M E => hy ▸ c_bit0 b0 b1 b2 b3 b4 r hb0 hr W), st mo ?_⟩
      refine ⟨_, addN (by omega), st mo ⟨((x + y + c : Nat) : Int), by rw [ec]; exact addN (by omega), st mo ⟨dk, st mo ?_⟩⟩⟩
      refine ⟨by decide, 0, by rw [td64 hr]; exact wz 0, st mo ⟨0, rfl, by decide, st mo ⟨.int .u64 ((oN a0 b0 0 0 (64 * 0 + r) : Nat) : Int), rfl, st mo ?_⟩⟩⟩
      refine ⟨by decide, (((x + y + c) % 2 : Nat) : Int), m2N, st mo ⟨by decide, r, tm64 hr, st mo ⟨by omega, _, slN hr (by omega), st mo ⟨((ouN a0 b0 0 r + (x + y + c) % 2 * 2 ^ r : Nat) : Int), by rw [eo]; exact orN (ouN_lt _ _ _ _) (by omega) hr, st mo ?_⟩⟩⟩⟩
      refine ⟨0, rfl, by decide, st mo ⟨Nat.le_of_ble_eq_true rfl, (wd ((ouN a0 b0 0 r + (x + y + c) % 2 * 2 ^ r : Nat) : Int) ((oN a1 b1 (k1 a0 b0) 1 (64 * 0 + r) : Nat) : Int) ((oN a2 b2 (k2 a0 a1 b0 b1) 2 (64 * 0 + r) : Nat) : Int) ((oN a3 b3 (k3 a0 a1 a2 b0 b1 b2) 3 (64 * 0 + r) : Nat) : Int) ((oN a4 b4 (k4 a0 a1 a2 a3 b0 b1 b2 b3) 4 (64 * 0 + r) : Nat) : Int)).map rel1, rfl, st mo ⟨dk, st mo ?_⟩⟩⟩
      refine ⟨by decide, (((x + y + c) / 2 : Nat) : Int), d2N (by omega), st mo ⟨((64 * 0 + r + 1 : Nat) : Int), wz _ (by omega), st mo ?_⟩⟩
      refine ⟨64 * 0 + r + 1, by dsimp; omega, by dsimp; omega, [0, 1, 2, 3], rfl, ⟨fp, fp, fp, fp, fe (by rw [ec']), fv, trivial⟩, ⟨flr rfl, flr rfl, flr rfl, by rw [oN_off (j := 1) (q := 0) (r := r) rfl hr (by decide), oN_off (j := 2) (q := 0) (r := r) rfl hr (by decide), oN_off (j := 3) (q := 0) (r := r) rfl hr (by decide), oN_off (j := 4) (q := 0) (r := r) rfl hr (by decide), eo']; exact flr rfl, trivial⟩, xf, rfl, rfl⟩
    · obtain rfl : i = 64 * 1 + r := hq
      obtain ⟨x, hx⟩ : ∃ x, a1 / 2 ^ r % 2 = x := ⟨_, rfl⟩
      obtain ⟨y, hy⟩ : ∃ y, b1 / 2 ^ r % 2 = y := ⟨_, rfl⟩
      obtain ⟨c, hc⟩ : ∃ c, caN a1 b1 (k1 a0 b0) r = c := ⟨_, rfl⟩
      have bx : x < 2 := by rw [← hx]; exact Nat.mod_lt _ (by decide)
      have bY : y < 2 := by rw [← hy]; exact Nat.mod_lt _ (by decide)
      have bc : c ≤ 1 := by rw [← hc]; exact caN_le r c1
      have ec : carN [a0, a1, a2, a3, a4] [b0, b1, b2, b3, b4] [0, (k1 a0 b0), (k2 a0 a1 b0 b1), (k3 a0 a1 a2 b0 b1 b2), (k4 a0 a1 a2 a3 b0 b1 b2 b3), caN a4 b4 (k4 a0 a1 a2 a3 b0 b1 b2 b3) 64] (64 * 1 + r) = c := by rw [carN_at (q := 1) (r := r) rfl hr, ← hc]; rfl
      have eo : oN a1 b1 (k1 a0 b0) 1 (64 * 1 + r) = ouN a1 b1 (k1 a0 b0) r := oN_at rfl (by omega)
      have eo' : oN a1 b1 (k1 a0 b0) 1 (64 * 1 + r + 1) = ouN a1 b1 (k1 a0 b0) r + (x + y + c) % 2 * 2 ^ r := by rw [oN_at (r := r + 1) (by omega) (by omega), ouN_succ, hx, hy, hc]
      have ec' : carN [a0, a1, a2, a3, a4] [b0, b1, b2, b3, b4] [0, (k1 a0 b0), (k2 a0 a1 b0 b1), (k3 a0 a1 a2 b0 b1 b2), (k4 a0 a1 a2 a3 b0 b1 b2 b3), caN a4 b4 (k4 a0 a1 a2 a3 b0 b1 b2 b3) 64] (64 * 1 + r + 1) = (x + y + c) / 2 := by
        rw [carN_next (q := 1) (r := r) rfl hr rfl, ← hx, ← hy, ← hc]; exact caN_succ _ _ _ _
      refine ⟨_, fun nn => r_call (t := .int .u64 (x : Int)) rfl rfl Tryz.func178 (fun W M E => hx ▸ c_bit1 a0 a1 a2 a3 a4 r ha1 hr W), st mo ?_⟩
      refine ⟨_, fun nn => r_call (t := .int .u64 (y : Int)) rfl rfl Tryz.func178 (fun W M E => hy ▸ c_bit1 b0 b1 b2 b3 b4 r hb1 hr W), st mo ?_⟩
      refine ⟨_, addN (by omega), st mo ⟨((x + y + c : Nat) : Int), by rw [ec]; exact addN (by omega), st mo ⟨dk, st mo ?_⟩⟩⟩
      refine ⟨by decide, 1, by rw [td64 hr]; exact wz 1, st mo ⟨1, rfl, by decide, st mo ⟨.int .u64 ((oN a1 b1 (k1 a0 b0) 1 (64 * 1 + r) : Nat) : Int), rfl, st mo ?_⟩⟩⟩
      refine ⟨by decide, (((x + y + c) % 2 : Nat) : Int), m2N, st mo ⟨by decide, r, tm64 hr, st mo ⟨by omega, _, slN hr (by omega), st mo ⟨((ouN a1 b1 (k1 a0 b0) r + (x + y + c) % 2 * 2 ^ r : Nat) : Int), by rw [eo]; exact orN (ouN_lt _ _ _ _) (by omega) hr, st mo ?_⟩⟩⟩⟩
      refine ⟨1, rfl, by decide, st mo ⟨Nat.le_of_ble_eq_true rfl, (wd ((oN a0 b0 0 0 (64 * 1 + r) : Nat) : Int) ((ouN a1 b1 (k1 a0 b0) r + (x + y + c) % 2 * 2 ^ r : Nat) : Int) ((oN a2 b2 (k2 a0 a1 b0 b1) 2 (64 * 1 + r) : Nat) : Int) ((oN a3 b3 (k3 a0 a1 a2 b0 b1 b2) 3 (64 * 1 + r) : Nat) : Int) ((oN a4 b4 (k4 a0 a1 a2 a3 b0 b1 b2 b3) 4 (64 * 1 + r) : Nat) : Int)).map rel1, rfl, st mo ⟨dk, st mo ?_⟩⟩⟩
      refine ⟨by decide, (((x + y + c) / 2 : Nat) : Int), d2N (by omega), st mo ⟨((64 * 1 + r + 1 : Nat) : Int), wz _ (by omega), st mo ?_⟩⟩
      refine ⟨64 * 1 + r + 1, by dsimp; omega, by dsimp; omega, [0, 1, 2, 3], rfl, ⟨fp, fp, fp, fp, fe (by rw [ec']), fv, trivial⟩, ⟨flr rfl, flr rfl, flr rfl, by rw [oN_off (j := 0) (q := 1) (r := r) rfl hr (by decide), oN_off (j := 2) (q := 1) (r := r) rfl hr (by decide), oN_off (j := 3) (q := 1) (r := r) rfl hr (by decide), oN_off (j := 4) (q := 1) (r := r) rfl hr (by decide), eo']; exact flr rfl, trivial⟩, xf, rfl, rfl⟩
    · obtain rfl : i = 64 * 2 + r := hq
      obtain ⟨x, hx⟩ : ∃ x, a2 / 2 ^ r % 2 = x := ⟨_, rfl⟩
      obtain ⟨y, hy⟩ : ∃ y, b2 / 2 ^ r % 2 = y := ⟨_, rfl⟩
      obtain ⟨c, hc⟩ : ∃ c, caN a2 b2 (k2 a0 a1 b0 b1) r = c := ⟨_, rfl⟩
      have bx : x < 2 := by rw [← hx]; exact Nat.mod_lt _ (by decide)
      have bY : y < 2 := by rw [← hy]; exact Nat.mod_lt _ (by decide)
      have bc : c ≤ 1 := by rw [← hc]; exact caN_le r c2
      have ec : carN [a0, a1, a2, a3, a4] [b0, b1, b2, b3, b4] [0, (k1 a0 b0), (k2 a0 a1 b0 b1), (k3 a0 a1 a2 b0 b1 b2), (k4 a0 a1 a2 a3 b0 b1 b2 b3), caN a4 b4 (k4 a0 a1 a2 a3 b0 b1 b2 b3) 64] (64 * 2 + r) = c := by rw [carN_at (q := 2) (r := r) rfl hr, ← hc]; rfl
      have eo : oN a2 b2 (k2 a0 a1 b0 b1) 2 (64 * 2 + r) = ouN a2 b2 (k2 a0 a1 b0 b1) r := oN_at rfl (by omega)
      have eo' : oN a2 b2 (k2 a0 a1 b0 b1) 2 (64 * 2 + r + 1) = ouN a2 b2 (k2 a0 a1 b0 b1) r + (x + y + c) % 2 * 2 ^ r := by rw [oN_at (r := r + 1) (by omega) (by omega), ouN_succ, hx, hy, hc]
      have ec' : carN [a0, a1, a2, a3, a4] [b0, b1, b2, b3, b4] [0, (k1 a0 b0), (k2 a0 a1 b0 b1), (k3 a0 a1 a2 b0 b1 b2), (k4 a0 a1 a2 a3 b0 b1 b2 b3), caN a4 b4 (k4 a0 a1 a2 a3 b0 b1 b2 b3) 64] (64 * 2 + r + 1) = (x + y + c) / 2 := by
        rw [carN_next (q := 2) (r := r) rfl hr rfl, ← hx, ← hy, ← hc]; exact caN_succ _ _ _ _
      refine ⟨_, fun nn => r_call (t := .int .u64 (x : Int)) rfl rfl Tryz.func178 (fun W M E => hx ▸ c_bit2 a0 a1 a2 a3 a4 r ha2 hr W), st mo ?_⟩
      refine ⟨_, fun nn => r_call (t := .int .u64 (y : Int)) rfl rfl Tryz.func178 (fun W M E => hy ▸ c_bit2 b0 b1 b2 b3 b4 r hb2 hr W), st mo ?_⟩
      refine ⟨_, addN (by omega), st mo ⟨((x + y + c : Nat) : Int), by rw [ec]; exact addN (by omega), st mo ⟨dk, st mo ?_⟩⟩⟩
      refine ⟨by decide, 2, by rw [td64 hr]; exact wz 2, st mo ⟨2, rfl, by decide, st mo ⟨.int .u64 ((oN a2 b2 (k2 a0 a1 b0 b1) 2 (64 * 2 + r) : Nat) : Int), rfl, st mo ?_⟩⟩⟩
      refine ⟨by decide, (((x + y + c) % 2 : Nat) : Int), m2N, st mo ⟨by decide, r, tm64 hr, st mo ⟨by omega, _, slN hr (by omega), st mo ⟨((ouN a2 b2 (k2 a0 a1 b0 b1) r + (x + y + c) % 2 * 2 ^ r : Nat) : Int), by rw [eo]; exact orN (ouN_lt _ _ _ _) (by omega) hr, st mo ?_⟩⟩⟩⟩
      refine ⟨2, rfl, by decide, st mo ⟨Nat.le_of_ble_eq_true rfl, (wd ((oN a0 b0 0 0 (64 * 2 + r) : Nat) : Int) ((oN a1 b1 (k1 a0 b0) 1 (64 * 2 + r) : Nat) : Int) ((ouN a2 b2 (k2 a0 a1 b0 b1) r + (x + y + c) % 2 * 2 ^ r : Nat) : Int) ((oN a3 b3 (k3 a0 a1 a2 b0 b1 b2) 3 (64 * 2 + r) : Nat) : Int) ((oN a4 b4 (k4 a0 a1 a2 a3 b0 b1 b2 b3) 4 (64 * 2 + r) : Nat) : Int)).map rel1, rfl, st mo ⟨dk, st mo ?_⟩⟩⟩
      refine ⟨by decide, (((x + y + c) / 2 : Nat) : Int), d2N (by omega), st mo ⟨((64 * 2 + r + 1 : Nat) : Int), wz _ (by omega), st mo ?_⟩⟩
      refine ⟨64 * 2 + r + 1, by dsimp; omega, by dsimp; omega, [0, 1, 2, 3], rfl, ⟨fp, fp, fp, fp, fe (by rw [ec']), fv, trivial⟩, ⟨flr rfl, flr rfl, flr rfl, by rw [oN_off (j := 0) (q := 2) (r := r) rfl hr (by decide), oN_off (j := 1) (q := 2) (r := r) rfl hr (by decide), oN_off (j := 3) (q := 2) (r := r) rfl hr (by decide), oN_off (j := 4) (q := 2) (r := r) rfl hr (by decide), eo']; exact flr rfl, trivial⟩, xf, rfl, rfl⟩
    · obtain rfl : i = 64 * 3 + r := hq
      obtain ⟨x, hx⟩ : ∃ x, a3 / 2 ^ r % 2 = x := ⟨_, rfl⟩
      obtain ⟨y, hy⟩ : ∃ y, b3 / 2 ^ r % 2 = y := ⟨_, rfl⟩
      obtain ⟨c, hc⟩ : ∃ c, caN a3 b3 (k3 a0 a1 a2 b0 b1 b2) r = c := ⟨_, rfl⟩
      have bx : x < 2 := by rw [← hx]; exact Nat.mod_lt _ (by decide)
      have bY : y < 2 := by rw [← hy]; exact Nat.mod_lt _ (by decide)
      have bc : c ≤ 1 := by rw [← hc]; exact caN_le r c3
      have ec : carN [a0, a1, a2, a3, a4] [b0, b1, b2, b3, b4] [0, (k1 a0 b0), (k2 a0 a1 b0 b1), (k3 a0 a1 a2 b0 b1 b2), (k4 a0 a1 a2 a3 b0 b1 b2 b3), caN a4 b4 (k4 a0 a1 a2 a3 b0 b1 b2 b3) 64] (64 * 3 + r) = c := by rw [carN_at (q := 3) (r := r) rfl hr, ← hc]; rfl
      have eo : oN a3 b3 (k3 a0 a1 a2 b0 b1 b2) 3 (64 * 3 + r) = ouN a3 b3 (k3 a0 a1 a2 b0 b1 b2) r := oN_at rfl (by omega)
      have eo' : oN a3 b3 (k3 a0 a1 a2 b0 b1 b2) 3 (64 * 3 + r + 1) = ouN a3 b3 (k3 a0 a1 a2 b0 b1 b2) r + (x + y + c) % 2 * 2 ^ r := by rw [oN_at (r := r + 1) (by omega) (by omega), ouN_succ, hx, hy, hc]
      have ec' : carN [a0, a1, a2, a3, a4] [b0, b1, b2, b3, b4] [0, (k1 a0 b0), (k2 a0 a1 b0 b1), (k3 a0 a1 a2 b0 b1 b2), (k4 a0 a1 a2 a3 b0 b1 b2 b3), caN a4 b4 (k4 a0 a1 a2 a3 b0 b1 b2 b3) 64] (64 * 3 + r + 1) = (x + y + c) / 2 := by
        rw [carN_next (q := 3) (r := r) rfl hr rfl, ← hx, ← hy, ← hc]; exact caN_succ _ _ _ _
      refine ⟨_, fun nn => r_call (t := .int .u64 (x : Int)) rfl rfl Tryz.func178 (fun W M E => hx ▸ c_bit3 a0 a1 a2 a3 a4 r ha3 hr W), st mo ?_⟩
      refine ⟨_, fun nn => r_call (t := .int .u64 (y : Int)) rfl rfl Tryz.func178 (fun W M E => hy ▸ c_bit3 b0 b1 b2 b3 b4 r hb3 hr W), st mo ?_⟩
      refine ⟨_, addN (by omega), st mo ⟨((x + y + c : Nat) : Int), by rw [ec]; exact addN (by omega), st mo ⟨dk, st mo ?_⟩⟩⟩
      refine ⟨by decide, 3, by rw [td64 hr]; exact wz 3, st mo ⟨3, rfl, by decide, st mo ⟨.int .u64 ((oN a3 b3 (k3 a0 a1 a2 b0 b1 b2) 3 (64 * 3 + r) : Nat) : Int), rfl, st mo ?_⟩⟩⟩
      refine ⟨by decide, (((x + y + c) % 2 : Nat) : Int), m2N, st mo ⟨by decide, r, tm64 hr, st mo ⟨by omega, _, slN hr (by omega), st mo ⟨((ouN a3 b3 (k3 a0 a1 a2 b0 b1 b2) r + (x + y + c) % 2 * 2 ^ r : Nat) : Int), by rw [eo]; exact orN (ouN_lt _ _ _ _) (by omega) hr, st mo ?_⟩⟩⟩⟩
      refine ⟨3, rfl, by decide, st mo ⟨Nat.le_of_ble_eq_true rfl, (wd ((oN a0 b0 0 0 (64 * 3 + r) : Nat) : Int) ((oN a1 b1 (k1 a0 b0) 1 (64 * 3 + r) : Nat) : Int) ((oN a2 b2 (k2 a0 a1 b0 b1) 2 (64 * 3 + r) : Nat) : Int) ((ouN a3 b3 (k3 a0 a1 a2 b0 b1 b2) r + (x + y + c) % 2 * 2 ^ r : Nat) : Int) ((oN a4 b4 (k4 a0 a1 a2 a3 b0 b1 b2 b3) 4 (64 * 3 + r) : Nat) : Int)).map rel1, rfl, st mo ⟨dk, st mo ?_⟩⟩⟩
      refine ⟨by decide, (((x + y + c) / 2 : Nat) : Int), d2N (by omega), st mo ⟨((64 * 3 + r + 1 : Nat) : Int), wz _ (by omega), st mo ?_⟩⟩
      refine ⟨64 * 3 + r + 1, by dsimp; omega, by dsimp; omega, [0, 1, 2, 3], rfl, ⟨fp, fp, fp, fp, fe (by rw [ec']), fv, trivial⟩, ⟨flr rfl, flr rfl, flr rfl, by rw [oN_off (j := 0) (q := 3) (r := r) rfl hr (by decide), oN_off (j := 1) (q := 3) (r := r) rfl hr (by decide), oN_off (j := 2) (q := 3) (r := r) rfl hr (by decide), oN_off (j := 4) (q := 3) (r := r) rfl hr (by decide), eo']; exact flr rfl, trivial⟩, xf, rfl, rfl⟩
    · obtain rfl : i = 64 * 4 + r := hq
      obtain ⟨x, hx⟩ : ∃ x, a4 / 2 ^ r % 2 = x := ⟨_, rfl⟩
      obtain ⟨y, hy⟩ : ∃ y, b4 / 2 ^ r % 2 = y := ⟨_, rfl⟩
      obtain ⟨c, hc⟩ : ∃ c, caN a4 b4 (k4 a0 a1 a2 a3 b0 b1 b2 b3) r = c := ⟨_, rfl⟩
      have bx : x < 2 := by rw [← hx]; exact Nat.mod_lt _ (by decide)
      have bY : y < 2 := by rw [← hy]; exact Nat.mod_lt _ (by decide)
      have bc : c ≤ 1 := by rw [← hc]; exact caN_le r c4
      have ec : carN [a0, a1, a2, a3, a4] [b0, b1, b2, b3, b4] [0, (k1 a0 b0), (k2 a0 a1 b0 b1), (k3 a0 a1 a2 b0 b1 b2), (k4 a0 a1 a2 a3 b0 b1 b2 b3), caN a4 b4 (k4 a0 a1 a2 a3 b0 b1 b2 b3) 64] (64 * 4 + r) = c := by rw [carN_at (q := 4) (r := r) rfl hr, ← hc]; rfl
      have eo : oN a4 b4 (k4 a0 a1 a2 a3 b0 b1 b2 b3) 4 (64 * 4 + r) = ouN a4 b4 (k4 a0 a1 a2 a3 b0 b1 b2 b3) r := oN_at rfl (by omega)
      have eo' : oN a4 b4 (k4 a0 a1 a2 a3 b0 b1 b2 b3) 4 (64 * 4 + r + 1) = ouN a4 b4 (k4 a0 a1 a2 a3 b0 b1 b2 b3) r + (x + y + c) % 2 * 2 ^ r := by rw [oN_at (r := r + 1) (by omega) (by omega), ouN_succ, hx, hy, hc]
      have ec' : carN [a0, a1, a2, a3, a4] [b0, b1, b2, b3, b4] [0, (k1 a0 b0), (k2 a0 a1 b0 b1), (k3 a0 a1 a2 b0 b1 b2), (k4 a0 a1 a2 a3 b0 b1 b2 b3), caN a4 b4 (k4 a0 a1 a2 a3 b0 b1 b2 b3) 64] (64 * 4 + r + 1) = (x + y + c) / 2 := by
        rw [carN_next (q := 4) (r := r) rfl hr rfl, ← hx, ← hy, ← hc]; exact caN_succ _ _ _ _
      refine ⟨_, fun nn => r_call (t := .int .u64 (x : Int)) rfl rfl Tryz.func178 (fun W M E => hx ▸ c_bit4 a0 a1 a2 a3 a4 r ha4 hr W), st mo ?_⟩
      refine ⟨_, fun nn => r_call (t := .int .u64 (y : Int)) rfl rfl Tryz.func178 (fun W M E => hy ▸ c_bit4 b0 b1 b2 b3 b4 r hb4 hr W), st mo ?_⟩
      refine ⟨_, addN (by omega), st mo ⟨((x + y + c : Nat) : Int), by rw [ec]; exact addN (by omega), st mo ⟨dk, st mo ?_⟩⟩⟩
      refine ⟨by decide, 4, by rw [td64 hr]; exact wz 4, st mo ⟨4, rfl, by decide, st mo ⟨.int .u64 ((oN a4 b4 (k4 a0 a1 a2 a3 b0 b1 b2 b3) 4 (64 * 4 + r) : Nat) : Int), rfl, st mo ?_⟩⟩⟩
      refine ⟨by decide, (((x + y + c) % 2 : Nat) : Int), m2N, st mo ⟨by decide, r, tm64 hr, st mo ⟨by omega, _, slN hr (by omega), st mo ⟨((ouN a4 b4 (k4 a0 a1 a2 a3 b0 b1 b2 b3) r + (x + y + c) % 2 * 2 ^ r : Nat) : Int), by rw [eo]; exact orN (ouN_lt _ _ _ _) (by omega) hr, st mo ?_⟩⟩⟩⟩
      refine ⟨4, rfl, by decide, st mo ⟨Nat.le_of_ble_eq_true rfl, (wd ((oN a0 b0 0 0 (64 * 4 + r) : Nat) : Int) ((oN a1 b1 (k1 a0 b0) 1 (64 * 4 + r) : Nat) : Int) ((oN a2 b2 (k2 a0 a1 b0 b1) 2 (64 * 4 + r) : Nat) : Int) ((oN a3 b3 (k3 a0 a1 a2 b0 b1 b2) 3 (64 * 4 + r) : Nat) : Int) ((ouN a4 b4 (k4 a0 a1 a2 a3 b0 b1 b2 b3) r + (x + y + c) % 2 * 2 ^ r : Nat) : Int)).map rel1, rfl, st mo ⟨dk, st mo ?_⟩⟩⟩
      refine ⟨by decide, (((x + y + c) / 2 : Nat) : Int), d2N (by omega), st mo ⟨((64 * 4 + r + 1 : Nat) : Int), wz _ (by omega), st mo ?_⟩⟩
      refine ⟨64 * 4 + r + 1, by dsimp; omega, by dsimp; omega, [0, 1, 2, 3], rfl, ⟨fp, fp, fp, fp, fe (by rw [ec']), fv, trivial⟩, ⟨flr rfl, flr rfl, flr rfl, by rw [oN_off (j := 0) (q := 4) (r := r) rfl hr (by decide), oN_off (j := 1) (q := 4) (r := r) rfl hr (by decide), oN_off (j := 2) (q := 4) (r := r) rfl hr (by decide), oN_off (j := 3) (q := 4) (r := r) rfl hr (by decide), eo']; exact flr rfl, trivial⟩, xf, rfl, rfl⟩
    · omega
  · obtain rfl : i = 320 := by omega
    exact rfl
theorem c_addw (a0 a1 a2 a3 a4 b0 b1 b2 b3 b4 : Int) (w : World) (ha : 0 ≤ a0 ∧ a0 < M64) (ha1 : 0 ≤ a1 ∧ a1 < M64) (ha2 : 0 ≤ a2 ∧ a2 < M64) (ha3 : 0 ≤ a3 ∧ a3 < M64) (ha4 : 0 ≤ a4 ∧ a4 < M64) (hb : 0 ≤ b0 ∧ b0 < M64) (hb1 : 0 ≤ b1 ∧ b1 < M64) (hb2 : 0 ≤ b2 ∧ b2 < M64) (hb3 : 0 ≤ b3 ∧ b3 < M64) (hb4 : 0 ≤ b4 ∧ b4 < M64) :
    Calls Tryz.prog 145 #[.agg (wd a0 a1 a2 a3 a4).toArray, .agg (wd b0 b1 b2 b3 b4).toArray] w fun r W => r = .returned (.agg (wd (ad a0 b0 0) (ad a1 b1 (aw1 a0 b0)) (ad a2 b2 (aw2 a0 a1 b0 b1)) (ad a3 b3 (aw3 a0 a1 a2 b0 b1 b2)) (ad a4 b4 (aw4 a0 a1 a2 a3 b0 b1 b2 b3))).toArray) ∧ Mb w W := by
  obtain ⟨a0, rfl⟩ := Int.eq_ofNat_of_zero_le ha.1
  have ha : a0 < 2 ^ 64 := by have := ha.2; unfold M64 at this; omega
  obtain ⟨a1, rfl⟩ := Int.eq_ofNat_of_zero_le ha1.1
  have ha1 : a1 < 2 ^ 64 := by have := ha1.2; unfold M64 at this; omega
  obtain ⟨a2, rfl⟩ := Int.eq_ofNat_of_zero_le ha2.1
  have ha2 : a2 < 2 ^ 64 := by have := ha2.2; unfold M64 at this; omega
  obtain ⟨a3, rfl⟩ := Int.eq_ofNat_of_zero_le ha3.1
  have ha3 : a3 < 2 ^ 64 := by have := ha3.2; unfold M64 at this; omega
  obtain ⟨a4, rfl⟩ := Int.eq_ofNat_of_zero_le ha4.1
  have ha4 : a4 < 2 ^ 64 := by have := ha4.2; unfold M64 at this; omega
  obtain ⟨b0, rfl⟩ := Int.eq_ofNat_of_zero_le hb.1
  have hb : b0 < 2 ^ 64 := by have := hb.2; unfold M64 at this; omega
  obtain ⟨b1, rfl⟩ := Int.eq_ofNat_of_zero_le hb1.1
  have hb1 : b1 < 2 ^ 64 := by have := hb1.2; unfold M64 at this; omega
  obtain ⟨b2, rfl⟩ := Int.eq_ofNat_of_zero_le hb2.1
  have hb2 : b2 < 2 ^ 64 := by have := hb2.2; unfold M64 at this; omega
  obtain ⟨b3, rfl⟩ := Int.eq_ofNat_of_zero_le hb3.1
  have hb3 : b3 < 2 ^ 64 := by have := hb3.2; unfold M64 at this; omega
  obtain ⟨b4, rfl⟩ := Int.eq_ofNat_of_zero_le hb4.1
  have hb4 : b4 < 2 ^ 64 := by have := hb4.2; unfold M64 at this; omega
  have q := c_addN a0 a1 a2 a3 a4 b0 b1 b2 b3 b4 ha ha1 ha2 ha3 ha4 hb hb1 hb2 hb3 hb4 w
  rw [oN_end (j := 0) (by decide), oN_end (j := 1) (by decide), oN_end (j := 2) (by decide), oN_end (j := 3) (by decide), oN_end (j := 4) (by decide)] at q
  have e1 : ((k1 a0 b0 : Nat) : Int) = aw1 a0 b0 := (ad_N (c := 0) ha hb).2
  have e2 : ((k2 a0 a1 b0 b1 : Nat) : Int) = aw2 a0 a1 b0 b1 := by rw [aw2, ← e1]; exact (ad_N ha1 hb1).2
  have e3 : ((k3 a0 a1 a2 b0 b1 b2 : Nat) : Int) = aw3 a0 a1 a2 b0 b1 b2 := by rw [aw3, ← e2]; exact (ad_N ha2 hb2).2
  have e4 : ((k4 a0 a1 a2 a3 b0 b1 b2 b3 : Nat) : Int) = aw4 a0 a1 a2 a3 b0 b1 b2 b3 := by rw [aw4, ← e3]; exact (ad_N ha3 hb3).2
  rw [(ad_N ha hb).1, (ad_N ha1 hb1).1, (ad_N ha2 hb2).1, (ad_N ha3 hb3).1, (ad_N ha4 hb4).1, e1, e2, e3, e4] at q
  exact q
set_option maxRecDepth 20000 in
theorem c_minus (a0 a1 a2 a3 a4 : Int) (w : World) (ha0 : 0 ≤ a0 ∧ a0 < M64) (ha1 : 0 ≤ a1 ∧ a1 < M64) (ha2 : 0 ≤ a2 ∧ a2 < M64) (ha3 : 0 ≤ a3 ∧ a3 < M64) (ha4 : 0 ≤ a4 ∧ a4 < M64) :
    Calls Tryz.prog 100 #[.agg (wd a0 a1 a2 a3 a4).toArray] w fun r W => r = .returned (.agg (wd (m0 a0) (m1 a0 a1) (m2 a0 a1 a2) (m3 a0 a1 a2 a3) (m4 a0 a1 a2 a3 a4)).toArray) ∧ Mb w W := by
  refine fn_pure [.agg (wd a0 a1 a2 a3 a4).toArray] Tryz.func100 rfl rfl rfl (run_ok (st mo ?_))
  refine ⟨_, nt_x ha0, st mo ⟨_, nt_x ha1, st mo ⟨_, nt_x ha2, st mo ⟨_, nt_x ha3, st mo ⟨_, nt_x ha4, st mo ?_⟩⟩⟩⟩⟩
  have z : (0 : Int) ≤ 0 ∧ (0 : Int) < M64 := by decide
  refine ⟨_, fun nn => r_call (t := .agg (wd (m0 a0) (m1 a0 a1) (m2 a0 a1 a2) (m3 a0 a1 a2 a3) (m4 a0 a1 a2 a3 a4)).toArray) rfl rfl Tryz.func145 (fun W M E => c_addw (nt a0) (nt a1) (nt a2) (nt a3) (nt a4) 1 0 0 0 0 W (nt_b ha0) (nt_b ha1) (nt_b ha2) (nt_b ha3) (nt_b ha4) (by decide) z z z z), st mo ?_⟩
  rfl
theorem and63 (n : Nat) : n &&& 2 ^ 63 = if n / 2 ^ 63 % 2 = 1 then 2 ^ 63 else 0 := by
  apply Nat.eq_of_testBit_eq
  intro i
  rw [Nat.testBit_and, Nat.testBit_two_pow]
  by_cases h : 63 = i
  · subst h
    rw [Nat.testBit_eq_decide_div_mod_eq]
    split
    next q => rw [Nat.testBit_two_pow]; simp [q]
    next q => simp [q]
  · simp only [h, decide_false, Bool.and_false]
    split
    · rw [Nat.testBit_two_pow]; simp [h]
    · simp
theorem sb_0 {a : Int} (h : 0 ≤ a ∧ a < M64) : (sb a = 0 ↔ ¬ a / 9223372036854775808 = 1) := by
  obtain ⟨n, rfl⟩ := Int.eq_ofNat_of_zero_le h.1
  have hn : n < 2 ^ 64 := by have := h.2; unfold M64 at this; omega
  unfold sb
  show IntKind.u64.wrap (((BitVec.ofInt 64 (n : Int) &&& BitVec.ofInt 64 9223372036854775808).toNat : Nat) : Int) = 0 ↔ _
  rw [BitVec.toNat_and, BitVec.toNat_ofInt, IntKind.wrap_u64, show (BitVec.ofInt 64 9223372036854775808).toNat = 2 ^ 63 by decide, show ((n : Int) % ((2 ^ 64 : Nat) : Int)).toNat = n by omega, and63]
  split
  · omega
  · omega
set_option maxRecDepth 20000 in
theorem c_narrow (a0 a1 a2 a3 a4 s : Int) (w : World) (ha0 : 0 ≤ a0 ∧ a0 < M64) (ha1 : 0 ≤ a1 ∧ a1 < M64) (ha2 : 0 ≤ a2 ∧ a2 < M64) (ha3 : 0 ≤ a3 ∧ a3 < M64) (ha4 : 0 ≤ a4 ∧ a4 < M64) :
    Calls Tryz.prog 65 #[.agg (wd a0 a1 a2 a3 a4).toArray, .int .i64 s] w fun r W => r = .returned (nrD a0 a1 a2 a3 a4 s).v ∧ Mb w W := by
  refine fn_pure [.agg (wd a0 a1 a2 a3 a4).toArray, .int .i64 s] Tryz.func65 rfl rfl rfl (run_ok (st mo ?_))
  have hs := sb_0 ha4
  refine ⟨fun h => st mo ?_, fun h => st mo ⟨fun h2 => st mo ?_, fun h2 => st mo ?_⟩⟩
  · show _ = _; rw [nrD, if_pos (by omega)]; rfl
  · show _ = _; rw [nrD, if_pos (by omega)]; rfl
  refine ⟨by decide, a4 / 9223372036854775808, by rw [Int.fdiv_eq_ediv_of_nonneg _ (by decide)]; rfl, st mo ⟨fun q => st mo ?_, fun q => st mo ?_⟩⟩
  · have q := fun e => hs.1 e q
    refine ⟨_, fun nn => r_call (t := .agg (wd (m0 a0) (m1 a0 a1) (m2 a0 a1 a2) (m3 a0 a1 a2 a3) (m4 a0 a1 a2 a3 a4)).toArray) rfl rfl Tryz.func100 (fun W M E => c_minus a0 a1 a2 a3 a4 W ha0 ha1 ha2 ha3 ha4), st mo ⟨fun z => st mo ?_, fun z => st mo ?_⟩⟩
    · show _ = _; rw [nrD, if_neg (by omega), if_neg q, if_neg z]; rfl
    · have um : U4 (m0 a0) (m1 a0 a1) (m2 a0 a1 a2) (m3 a0 a1 a2 a3) := ⟨ad_b _ _ _, ad_b _ _ _, ad_b _ _ _, ad_b _ _ _⟩
      show _ = _; rw [nrD, if_neg (by omega), if_neg q, if_pos z]; simp only [DR.v, dc, l0_vl um, l1_vl um, l2_vl um, l3_vl um]; rfl
  · have q := hs.2 q
    refine ⟨fun z => st mo ?_, fun z => st mo ?_⟩
    · show _ = _; rw [nrD, if_neg (by omega), if_pos q, if_neg z]; rfl
    · have ua : U4 a0 a1 a2 a3 := ⟨ha0, ha1, ha2, ha3⟩
      show _ = _; rw [nrD, if_neg (by omega), if_pos q, if_pos z]; simp only [DR.v, dc, l0_vl ua, l1_vl ua, l2_vl ua, l3_vl ua]; rfl
set_option maxRecDepth 20000 in
theorem c_bad (e : Int) (w : World) : Calls Tryz.prog 64 #[.int .i64 e] w fun r W => r = .returned (vEr e).v ∧ Mb w W :=
  fn_pure [.int .i64 e] Tryz.func64 rfl rfl rfl (run_ok (st mo rfl))
set_option maxRecDepth 20000 in
theorem c_whole (n : Int) (hn : -9223372036854775808 ≤ n ∧ n < 9223372036854775808) (w : World) : Calls Tryz.prog 63 #[.int .i64 n] w fun r W => r = .returned (cntV n).v ∧ Mb w W := by
  have ha : 0 ≤ ab n ∧ ab n ≤ 9223372036854775808 := by unfold ab; split <;> omega
  refine fn_pure [.int .i64 n] Tryz.func63 rfl rfl rfl (run_ok (st mo ?_))
  refine ⟨n % 18446744073709551616, IntKind.wrap_u64 n, st mo ?_⟩
  refine ⟨_, fun nn => r_call (t := nv (n % 18446744073709551616)) rfl rfl Tryz.func99 (fun W M E => q_from (n % 18446744073709551616) (by omega) W), st mo ⟨fun h => st mo ?_, fun h => st mo ?_⟩⟩
  · refine ⟨n % 18446744073709551616, IntKind.wrap_u64 n, st mo ⟨ab n, by rw [IntKind.wrap_u64]; unfold ab; rw [if_pos h]; omega, st mo ?_⟩⟩
    refine ⟨_, fun nn => r_call (t := nv (ab n)) rfl rfl Tryz.func99 (fun W M E => q_from (ab n) (by omega) W), st mo ?_⟩
    show _ = _; rw [cntV, decide_eq_true h]; rfl
  · have e : n % 18446744073709551616 = ab n := by unfold ab; rw [if_neg (by omega)]; omega
    show _ = _; rw [cntV, decide_eq_false (by omega), e]; rfl
set_option maxRecDepth 20000 in
theorem c_value (op : Int) (m : SM) (hm : m.ok) (s : Int) (w : World) : Calls Tryz.prog 35 #[.int .i64 op, m.v, .int .i64 s] w fun r W => r = .returned (agV op m s).v ∧ Mb w W := by
  refine fn_pure [.int .i64 op, m.y, .int .i64 s] Tryz.func35 rfl rfl rfl (run_ok (st mo ?_))
  refine ⟨fun h => st mo ?_, fun h => st mo ?_⟩
  · refine ⟨_, fun nn => r_call (t := (cntV m.ro).y) rfl rfl Tryz.func63 (fun W M E => c_whole m.ro hm.ro W), st mo ?_⟩
    show _ = _; rw [agV, if_pos h]; rfl
  refine ⟨fun h1 => st mo ?_, fun h1 => st mo ?_⟩
  · refine ⟨_, fun nn => r_call (t := (cntV m.fi).y) rfl rfl Tryz.func63 (fun W M E => c_whole m.fi hm.fi W), st mo ?_⟩
    show _ = _; rw [agV, if_neg h, if_pos h1]; rfl
  refine ⟨fun a => st mo ⟨fun b => st mo ⟨fun c => st mo ?_, fun d => st mo ?_⟩, fun d => st mo ?_⟩, fun d => st mo ?_⟩
  · refine ⟨_, fun nn => r_call (t := (vEr 2).y) rfl rfl Tryz.func64 (fun W M E => c_bad 2 W), st mo ?_⟩
    show _ = _; rw [agV, if_neg h, if_neg h1, if_neg (by omega)]; rfl
  · refine ⟨fun z => st mo ?_, fun z => st mo ?_⟩
    · refine ⟨_, fun nn => r_call (t := (vEr m.er).y) rfl rfl Tryz.func64 (fun W M E => c_bad m.er W), st mo ?_⟩
      show _ = _; rw [agV, if_neg h, if_neg h1, if_pos (by omega), ofnV, if_neg z]; rfl
    · refine ⟨fun o => absurd o (by omega), fun _ => st mo ⟨fun q => st mo ?_, fun q => st mo ⟨fun o => absurd o (by omega), fun o => st mo ?_⟩⟩⟩
      · have q : m.so = false := by cases hs : m.so <;> simp [hs] at q ⊢
        refine ⟨_, fun nn => r_call (t := (vEr 4).y) rfl rfl Tryz.func64 (fun W M E => c_bad 4 W), st mo ?_⟩
        show _ = _; rw [agV, if_neg h, if_neg h1, if_pos (by omega), ofnV, if_pos z, if_neg (by omega), q]; rfl
      · have q : m.so = true := by cases hs : m.so <;> simp [hs] at q ⊢
        show _ = _; rw [agV, if_neg h, if_neg h1, if_pos (by omega), ofnV, if_pos z, if_neg (by omega), q, if_pos rfl, if_neg (by omega)]; rfl
  · refine ⟨fun z => st mo ?_, fun z => st mo ?_⟩
    · refine ⟨_, fun nn => r_call (t := (vEr m.er).y) rfl rfl Tryz.func64 (fun W M E => c_bad m.er W), st mo ?_⟩
      show _ = _; rw [agV, if_neg h, if_neg h1, if_pos (by omega), ofnV, if_neg z]; rfl
    · refine ⟨fun o => absurd o (by omega), fun _ => st mo ⟨fun q => st mo ?_, fun q => st mo ⟨fun o => st mo ?_, fun o => absurd d o⟩⟩⟩
      · have q : m.so = false := by cases hs : m.so <;> simp [hs] at q ⊢
        refine ⟨_, fun nn => r_call (t := (vEr 4).y) rfl rfl Tryz.func64 (fun W M E => c_bad 4 W), st mo ?_⟩
        show _ = _; rw [agV, if_neg h, if_neg h1, if_pos (by omega), ofnV, if_pos z, if_neg (by omega), q]; rfl
      · have q : m.so = true := by cases hs : m.so <;> simp [hs] at q ⊢
        show _ = _; rw [agV, if_neg h, if_neg h1, if_pos (by omega), ofnV, if_pos z, if_neg (by omega), q, if_pos rfl, if_pos d]; rfl
  · refine ⟨fun z => st mo ?_, fun z => st mo ?_⟩
    · refine ⟨_, fun nn => r_call (t := (vEr m.er).y) rfl rfl Tryz.func64 (fun W M E => c_bad m.er W), st mo ?_⟩
      show _ = _; rw [agV, if_neg h, if_neg h1, if_pos (by omega), ofnV, if_neg z]; rfl
    · refine ⟨fun _ => st mo ?_, fun o => absurd d o⟩
      refine ⟨_, fun nn => r_call (t := (nrV m s).y) rfl rfl Tryz.func65 (fun W M E => c_narrow m.t0 m.t1 m.t2 m.t3 m.t4 s W hm.t0 hm.t1 hm.t2 hm.t3 hm.t4), st mo ⟨fun h => st mo ?_, fun h => st mo ?_⟩⟩
      · refine ⟨_, fun nn => r_call (t := (vEr 1).y) rfl rfl Tryz.func64 (fun W M E => c_bad 1 W), st mo ?_⟩
        show _ = _; rw [agV, if_neg (by omega), if_neg h1, if_pos (by omega), ofnV, if_pos z, if_pos d, totV, if_neg h]; rfl
      · show _ = _; rw [agV, if_neg (by omega), if_neg h1, if_pos (by omega), ofnV, if_pos z, if_pos d, totV, if_pos h]; rfl
def arN (x : Ex) : Int := match whN x with
  | some n => (n : Int)
  | none => -1
section
variable {x : Ex}
theorem arN_0 (h : x.k = 1 ∨ x.k = 2 ∨ x.k = 10) : arN x = 0 := by unfold arN whN; rw [if_pos h]; rfl
theorem arN_1 (h : x.k = 3 ∨ x.k = 4 ∨ x.k = 7 ∨ x.k = 8 ∨ x.k = 9) : arN x = 1 := by unfold arN whN; rw [if_neg (by omega), if_pos h]; rfl
theorem arN_2 (h : x.k = 5) : arN x = 2 := by unfold arN whN; rw [if_neg (by omega), if_neg (by omega), if_pos h]; rfl
theorem arN_3 (h : x.k = 6) : arN x = 3 := by unfold arN whN; rw [if_neg (by omega), if_neg (by omega), if_neg (by omega), if_pos h]; rfl
theorem arN_n (h : x.k < 1 ∨ 10 < x.k) : arN x = -1 := by unfold arN whN; rw [if_neg (by omega), if_neg (by omega), if_neg (by omega), if_neg (by omega)]
theorem arN_w : whl x = decide (arN x = (x.a.length : Int)) := by
  unfold whl arN
  cases whN x with
  | none => simp
  | some n => simp; omega
end
set_option maxRecDepth 20000 in
theorem c_args (x : Ex) (w : World) : Calls Tryz.prog 31 #[.agg x.c.toArray] w fun r W => r = .returned (.int .i64 (arN x)) ∧ Mb w W := by
  refine fn_pure [.agg (x.c.map rel1).toArray] Tryz.func31 rfl rfl rfl (run_ok (st mo ?_))
  repeat' (first | (refine ⟨fun h => ?_, fun h => ?_⟩ <;> first | (exfalso; omega) | refine st mo ?_) | fail "")
  all_goals first
    | (show _ = _; rw [arN_0 (by omega)])
    | (show _ = _; rw [arN_1 (by omega)])
    | (show _ = _; rw [arN_2 (by omega)])
    | (show _ = _; rw [arN_3 (by omega)])
    | (show _ = _; rw [arN_n (by omega)])
set_option maxRecDepth 20000 in
theorem c_bad7 (e : Int) (w : World) : Calls Tryz.prog 32 #[.int .i64 e] w fun r W => r = .returned (vBad e).v ∧ Mb w W :=
  fn_pure [.int .i64 e] Tryz.func32 rfl rfl rfl (run_ok (st mo ⟨_, fun nn => r_call (t := (vBad e).y) rfl rfl Tryz.func62 (fun W M E => q_bad e W), st mo rfl⟩))
set_option maxRecDepth 20000 in
theorem c_may (x : VL) (hx : x.ok) (w : World) : Calls Tryz.prog 33 #[x.v] w fun r W => r = .returned (mayV x).v ∧ Mb w W := by
  refine fn_pure [x.y] Tryz.func33 rfl rfl rfl (run_ok (st mo ?_))
  refine ⟨_, fun nn => r_call (t := .int .i64 (ckI x)) rfl rfl Tryz.func27 (fun W M E => q_check x hx W), st mo ⟨fun q => st mo ?_, fun q => st mo ?_⟩⟩
  · refine ⟨_, fun nn => r_call (t := (vBad 2).y) rfl rfl Tryz.func32 (fun W M E => c_bad7 2 W), st mo ?_⟩
    show _ = _; rw [mayV, ckI_1 q]; rfl
  · show _ = _; rw [mayV, ckI_0 q]; rfl
theorem c_may' {x : Ex} (h : x.u4) (W : World) : Calls Tryz.prog 33 #[.agg #[.int .i64 x.vk, .bool x.ng, .int .u64 x.l0, .int .u64 x.l1, .int .u64 x.l2, .int .u64 x.l3, .int .i64 x.vs, .bool x.fl, .string x.tx, .int .i64 x.er]] W fun r W' => r = .returned (mayV x.val).v ∧ Mb W W' := by
  have := c_may x.val h.ok W
  rw [show x.val.v = .agg #[.int .i64 x.vk, .bool x.ng, .int .u64 x.l0, .int .u64 x.l1, .int .u64 x.l2, .int .u64 x.l3, .int .i64 x.vs, .bool x.fl, .string x.tx, .int .i64 x.er] by rw [VL.v, h.cells]] at this
  exact this
theorem c_fitted {x : VL} (h : x.fit) (w : World) : Calls Tryz.prog 33 #[x.v] w fun r W => r = .returned x.v ∧ Mb w W := by have q := c_may x h.1 w; rw [may_1 h.2] at q; exact q
set_option maxRecDepth 20000 in
theorem c_key (x : Ex) (w : World) : Calls Tryz.prog 34 #[.agg x.c.toArray] w fun r W => r = .returned (es53 (colE x)) ∧ Mb w W := by
  refine fn_pure [.agg (x.c.map rel1).toArray] Tryz.func34 rfl rfl rfl (run_ok (st mo ?_))
  refine ⟨fun h => st mo ?_, fun h => st mo ?_⟩
  · show _ = _; rw [colE, if_pos h]; rfl
  · show _ = _; rw [colE, if_neg h]; rfl
theorem find_none {α : Type} {p : α → Bool} {l : List α} (h : ∀ j < l.length, ∀ t, l[j]? = some t → p t = false) : l.find? p = none := by
  rw [List.find?_eq_none]
  intro t ht
  obtain ⟨j, hj⟩ := List.getElem?_of_mem ht
  simp [h j (lt_of_get hj) t hj]
theorem find_at {α : Type} {p : α → Bool} : ∀ {l : List α} {i : Nat} {t : α}, (∀ j < i, ∀ u, l[j]? = some u → p u = false) → l[i]? = some t → p t = true → l.find? p = some t
  | [], _, _, _, h, _ => by simp at h
  | u :: r, 0, t, _, h, hp => by simp at h; subst h; rw [List.find?_cons, hp]
  | u :: r, i + 1, t, hn, h, hp => by
    rw [List.find?_cons, hn 0 (by omega) u rfl]
    exact find_at (i := i) (fun j hj v hv => hn (j + 1) (by omega) v (by simpa using hv)) (by simpa using h) hp
theorem frm_some {e : Ev} {s : ByteArray} {d : Dn} {t : Tb} (h : tabE e s = some t) : frmE e s d = if (atD t.st d).e = 0 then vNu (atD t.st d).b (atD t.st d).n (atD t.st d).s else if (atD t.st d).e = 141 then vBad 5 else if (atD t.st d).e = 7 then vBad 1 else vBad 2 := by unfold frmE; rw [h]
set_option maxRecDepth 20000 in
theorem c_table (e : Ev) (s : ByteArray) (v : VL) (hv : v.fit) (w : World) (he : EvL w e) : Calls Tryz.prog 42 #[.string s, v.v, .slice e.tp e.tb.length e.cp] w fun r W => r = .returned (brkE e s v).v ∧ Mb w W := by
  have hln := he.ln
  refine fn_pure [.string s, v.y, raw (.slice e.tp e.tb.length e.cp)] Tryz.func42 rfl rfl rfl (run_ok (st mo ?_))
  refine ⟨_, fun nn => r_call (t := v.y) rfl rfl Tryz.func33 (fun W M E => c_fitted hv W), st mo ?_⟩
  refine ⟨fun h4 => st mo ?_, fun h4 => st mo ⟨fun h0 => st mo ?_, fun h0 => st mo ⟨fun h1 => st mo ?_, fun h1 => st mo ?_⟩⟩⟩
  · show _ = _; rw [brkE, if_pos h4]; rfl
  · refine ⟨_, fun nn => r_call (t := (vBad 3).y) rfl rfl Tryz.func32 (fun W M E => c_bad7 3 W), st mo ?_⟩
    show _ = _; rw [brkE, if_neg h4, if_pos h0]; rfl
  · rw [show brkE e s v = frmE e s ⟨v.b, v.n, v.s⟩ by rw [brkE, if_neg h4, if_neg h0, if_pos h1]]
    refine S.w_loop (fun i : Nat => ⟨⟨Tryz.f42.ntmps, [(0, .string s), (2, raw (.slice e.tp e.tb.length e.cp)), (4, .pointer (some ⟨0, 0, none⟩)), (6, .pointer (some ⟨1, 0, none⟩)), (7, .int .i64 (i : Int))]⟩, [(0, some (v.cells.map rel1)), (1, some (vBl.cells.map rel1))], 2, w⟩) (fun i => i ≤ e.tb.length ∧ ∀ j < i, ∀ t, e.tb[j]? = some t → decide (t.nm = s) = false) (fun i => e.tb.length - i) 0 ⟨by omega, fun j hj => absurd hj (Nat.not_lt_zero j)⟩ [0, 1] ⟨rfl, ⟨fv, fv, fp, fp, fv, trivial⟩, ⟨flr rfl, flr rfl, trivial⟩, xf, rfl, rfl⟩ ?_
    intro i hi
    refine st mo (st mo ⟨fun hlt => st mo ?_, fun hge => st mo (st mo ?_)⟩)
    · have hil : i < e.tb.length := by omega
      obtain ⟨t, ht, hT, b, o, h5, h6⟩ := he.at hil
      have hnm : Lies w b (o + i * 2) [.string t.nm] := Lies.part (l1 := []) (l3 := [.slice t.pa t.st.length t.cap]) h6
      refine ⟨b, o, i, h5, rfl, hil, st mo ⟨.string t.nm, hnm 0 _ rfl, st mo ⟨fun q => st mo ?_, fun q => st mo ?_⟩⟩⟩
      · have hf : tabE e s = some t := by unfold tabE; exact find_at hi.2 ht (decide_eq_true q)
        refine ⟨b, o, i, h5, rfl, hil, st mo ⟨t.cells, rfl, h6, st mo ?_⟩⟩
        refine ⟨_, fun nn => r_call (t := (atD t.st ⟨v.b, v.n, v.s⟩).y) rfl rfl Tryz.func76 (fun W M E => c_at t ⟨v.b, v.n, v.s⟩ hv.1 W (hT.mono E)), st mo ⟨dk, st mo ?_⟩⟩
        refine ⟨fun z => st mo ?_, fun z => st mo ⟨fun z1 => st mo ?_, fun z1 => st mo ⟨fun z2 => st mo ?_, fun z2 => st mo ?_⟩⟩⟩
        · show _ = _; rw [frm_some hf, if_pos z]; rfl
        · refine ⟨_, fun nn => r_call (t := (vBad 5).y) rfl rfl Tryz.func32 (fun W M E => c_bad7 5 W), st mo ?_⟩
          show _ = _; rw [frm_some hf, if_neg z, if_pos z1]; rfl
        · refine ⟨_, fun nn => r_call (t := (vBad 1).y) rfl rfl Tryz.func32 (fun W M E => c_bad7 1 W), st mo ?_⟩
          show _ = _; rw [frm_some hf, if_neg z, if_neg z1, if_pos z2]; rfl
        · refine ⟨_, fun nn => r_call (t := (vBad 2).y) rfl rfl Tryz.func32 (fun W M E => c_bad7 2 W), st mo ?_⟩
          show _ = _; rw [frm_some hf, if_neg z, if_neg z1, if_neg z2]; rfl
      · refine ⟨_, wz (i + 1) rfl, st mo ?_⟩
        refine ⟨i + 1, ⟨hil, fun j hj u hu => ?_⟩, by dsimp; omega, [0, 1], rfl, ⟨fv, fv, fp, fp, fv, trivial⟩, ⟨flr rfl, flr rfl, trivial⟩, xf, rfl, rfl⟩
        rcases Nat.lt_or_ge j i with g | g
        · exact hi.2 j g u hu
        · obtain rfl : j = i := by omega
          rw [ht] at hu; cases hu; exact decide_eq_false q
    · refine ⟨_, fun nn => r_call (t := (vBad 2).y) rfl rfl Tryz.func32 (fun W M E => c_bad7 2 W), st mo ?_⟩
      have : tabE e s = none := by unfold tabE; exact find_none fun j hj t ht => hi.2 j (by omega) t ht
      show _ = _; rw [frmE, this]; rfl
  · refine ⟨_, fun nn => r_call (t := (vBad 2).y) rfl rfl Tryz.func32 (fun W M E => c_bad7 2 W), st mo ?_⟩
    show _ = _; rw [brkE, if_neg h4, if_neg h0, if_neg h1]; rfl
abbrev agQ (a : Nat → VL) : Nat → List Value
  | 0 => []
  | 1 => (a 0).cells
  | 2 => (a 0).cells ++ (a 1).cells
  | _ => (a 0).cells ++ (a 1).cells ++ (a 2).cells
abbrev agS : Nat → Value
  | 0 => .slice none 0 0
  | i + 1 => .slice (some ⟨3, 0, none⟩) (i + 1) 10
abbrev agH (x : Ex) (e : Ev) (a : Nat → VL) : Nat → HT
  | 0 => [(0, some (x.c.map rel1)), (1, some (e.cells.map rel1)), (2, some (vBl.cells.map rel1))]
  | i + 1 => [(0, some (x.c.map rel1)), (1, some (e.cells.map rel1)), (2, some (vBl.cells.map rel1)), (3, some ((agQ a (i + 1)).map rel1))]
abbrev agN : Nat → Nat
  | 0 => 3
  | _ + 1 => 4
theorem who {x : Ex} (h : whl x = true) : (x.a.length = 0 ∧ (x.k = 1 ∨ x.k = 2 ∨ x.k = 10)) ∨ (x.a.length = 1 ∧ (x.k = 3 ∨ x.k = 4 ∨ x.k = 7 ∨ x.k = 8 ∨ x.k = 9)) ∨ (x.a.length = 2 ∧ x.k = 5) ∨ (x.a.length = 3 ∧ x.k = 6) := by
  have h := of_decide_eq_true h
  unfold whN at h
  repeat (first | (injection h; omega) | cases h | split at h)
section
variable {e : Ev} {x : Ex} {a : Nat → VL}
theorem nd1 (h : x.k = 1) : nodE e x a = mayV x.val := by unfold nodE; simp [h]
theorem nd2 (h : x.k = 2) : nodE e x a = mayV ((lkB e.N x.nm).getD vBl) := by unfold nodE; simp [h]
theorem nd3 (h : x.k = 3) : nodE e x a = negV (a 0) := by unfold nodE; simp [h]
theorem nd4 (h : x.k = 4) : nodE e x a = notV (a 0) := by unfold nodE; simp [h]
theorem nd5 (h : x.k = 5) : nodE e x a = opV x.op (a 0) (a 1) := by unfold nodE; simp [h]
theorem nd6 (h : x.k = 6) : nodE e x a = ifV (a 0) (a 1) (a 2) := by unfold nodE; simp [h]
theorem nd7 (h : x.k = 7) : nodE e x a = rndV (a 0) x.s x.pl := by unfold nodE; simp [h]
theorem nd8 (h : x.k = 8) : nodE e x a = brkE e x.nm (a 0) := by unfold nodE; simp [h]
theorem nd9 (h : x.k = 9) : nodE e x a = blkV (a 0) := by unfold nodE; simp [h]
theorem nd10 (h : x.k = 10) : nodE e x a = aggE e x := by unfold nodE; simp [h]
end
abbrev EvD (e : Ev) (x : Ex) (v : VL) (d : Nat) : Prop := ∀ w, LT w d x → EvL w e → Calls Tryz.prog 13 #[.agg x.c.toArray, e.v] w fun r W => r = .returned v.v ∧ Mb w W
set_option maxRecDepth 20000 in
theorem c_no (e : Ev) (x : Ex) (h : whl x = false) (d : Nat) : EvD e x (vBad 2) d := fun w hL he => by
  rw [arN_w] at h
  have h := of_decide_eq_false h
  refine fn_pure [.agg (x.c.map rel1).toArray, e.y] Tryz.func13 rfl rfl rfl (run_ok (st mo ?_))
  refine ⟨_, fun nn => r_call (t := .int .i64 (arN x)) rfl rfl Tryz.func31 (fun W M E => c_args x W), st mo (st mo ⟨fun _ => st mo ⟨dk, st mo ?_⟩, fun q => absurd q h⟩)⟩
  refine ⟨_, fun nn => r_call (t := (vBad 2).y) rfl rfl Tryz.func32 (fun W M E => c_bad7 2 W), st mo ?_⟩
  rfl
set_option maxRecDepth 20000 in
theorem c_yes (e : Ev) (x : Ex) (hw : whl x = true) (hx : x.u4) (a : Nat → VL) (ha : ∀ i, (a i).fit) (d : Nat)
    (hs : ∀ i y, x.a[i]? = some y → EvD e y (a i) d) : EvD e x (nodE e x a) (d + 1) := fun w hL he => by
  have hl := who hw
  rw [arN_w] at hw
  have hw := of_decide_eq_true hw
  refine fn_pure [.agg (x.c.map rel1).toArray, e.y] Tryz.func13 rfl rfl rfl (run_ok (st mo ?_))
  refine ⟨_, fun nn => r_call (t := .int .i64 (arN x)) rfl rfl Tryz.func31 (fun W M E => c_args x W), st mo (st mo ⟨fun q => absurd hw q, fun _ => st mo ⟨dk, st mo ?_⟩⟩)⟩
  refine S.w_loop (fun i : Nat => ⟨⟨Tryz.f13.ntmps, [(2, q0 0), (3, q0 1), (4, q0 2), (5, agS i), (6, .int .i64 (i : Int))]⟩, agH x e a i, agN i, w⟩)
    (fun i => i ≤ x.a.length) (fun i => x.a.length - i) 0 (by omega) [0, 1, 2] ⟨rfl, ⟨fp, fp, fp, fv, fv, trivial⟩, ⟨flr rfl, flr rfl, flr rfl, trivial⟩, xf, rfl, rfl⟩ ?_
  intro i hi
  rcases i with _ | _ | _ | _ | i
  · refine st mo (st mo ⟨fun hlt => st mo ?_, fun hge => st mo (st mo ?_)⟩)
    · have hil : 0 < x.a.length := by omega
      obtain ⟨y, hy⟩ : ∃ y, x.a[0]? = some y := ⟨_, List.getElem?_eq_getElem hil⟩
      obtain ⟨⟨b, o, h4, h5⟩, h8⟩ := hL.at hy
      refine ⟨b, o, 0, h4, rfl, hil, st mo ⟨y.c, rfl, h5, st mo ?_⟩⟩
      refine ⟨_, fun nn => r_call (t := (a 0).y) rfl rfl Tryz.func13 (fun W M E => hs 0 y hy W (h8.mono E) (he.mb M E)), st mo ?_⟩
      refine ⟨1, (a 0).cells.map rel1, _, put_own rfl rfl rfl rfl rfl, by decide, by decide, st mo ⟨dk, st mo ?_⟩⟩
      refine ⟨_, wz 1 rfl, st mo ?_⟩
      exact ⟨1, hil, by dsimp; omega, [0, 1, 2, 4], rfl, ⟨fp, fp, fp, fs, fv, trivial⟩, ⟨flr rfl, flr rfl, flr rfl, flr rfl, trivial⟩, xf, rfl, rfl⟩
    · have l0 : x.a.length = 0 := by omega
      repeat' (first | (refine ⟨fun h => ?_, fun h => ?_⟩ <;> first | (exfalso; omega) | refine st mo ?_) | fail "")
      · refine ⟨_, fun nn => r_call (t := (mayV x.val).y) rfl rfl Tryz.func33 (fun W M E => c_may' hx W), st mo ?_⟩
        rw [nd1 ‹x.k = 1›]; rfl
      · refine ⟨_, fun nn => r_look (t := ((lkB e.N x.nm).getD vBl).y) rfl (fun W M => he.lkn M x.nm), st mo ?_⟩
        refine ⟨_, fun nn => r_call (t := (mayV ((lkB e.N x.nm).getD vBl)).y) rfl rfl Tryz.func33 (fun W M E => c_may _ (he.nv x.nm) W), st mo ?_⟩
        rw [nd2 ‹x.k = 2›]; rfl
      · refine ⟨_, fun nn => r_call (t := es53 (colE x)) rfl rfl Tryz.func34 (fun W M E => c_key x W), st mo ?_⟩
        refine ⟨_, fun nn => r_look (t := ((lkB e.C (colE x)).getD cl0).y) rfl (fun W M => he.lkc M (colE x)), st mo ⟨dk, st mo ?_⟩⟩
        refine ⟨_, fun nn => r_call (t := (agV x.op ((lkB e.C (colE x)).getD cl0).m ((lkB e.C (colE x)).getD cl0).s).y) rfl rfl Tryz.func35 (fun W M E => c_value x.op _ (he.cv (colE x)) _ W), st mo ?_⟩
        refine ⟨_, fun nn => r_call (t := (aggE e x).y) rfl rfl Tryz.func33 (fun W M E => c_may _ (ag_ok (he.cv (colE x))) W), st mo ?_⟩
        rw [nd10 ‹x.k = 10›]; rfl
  · refine st mo (st mo ⟨fun hlt => st mo ?_, fun hge => st mo (st mo ?_)⟩)
    · have hil : 1 < x.a.length := by omega
      obtain ⟨y, hy⟩ : ∃ y, x.a[1]? = some y := ⟨_, List.getElem?_eq_getElem hil⟩
      obtain ⟨⟨b, o, h4, h5⟩, h8⟩ := hL.at hy
      refine ⟨b, o, 1, h4, rfl, hil, st mo ⟨y.c, rfl, h5, st mo ?_⟩⟩
      refine ⟨_, fun nn => r_call (t := (a 1).y) rfl rfl Tryz.func13 (fun W M E => hs 1 y hy W (h8.mono E) (he.mb M E)), st mo ?_⟩
      refine ⟨rfl, 1, (a 1).cells.map rel1, _, put_own rfl rfl rfl rfl rfl, by decide, _, rfl, st mo ⟨dk, st mo ?_⟩⟩
      refine ⟨_, wz 2 rfl, st mo ?_⟩
      exact ⟨2, hil, by dsimp; omega, [0, 1, 2, 5], rfl, ⟨fp, fp, fp, fs, fv, trivial⟩, ⟨flr rfl, flr rfl, flr rfl, flr rfl, trivial⟩, xf, rfl, rfl⟩
    · have l1 : x.a.length = 1 := by omega
      repeat' (first | (refine ⟨fun h => ?_, fun h => ?_⟩ <;> first | (exfalso; omega) | refine st mo ?_) | fail "")
      · refine ⟨_, fun nn => r_call (t := (negV (a 0)).y) rfl rfl Tryz.func36 (fun W M E => q_neg (a 0) (ha 0).1 W), st mo ?_⟩
        rw [nd3 ‹x.k = 3›]; rfl
      · refine ⟨_, fun nn => r_call (t := (notV (a 0)).y) rfl rfl Tryz.func37 (fun W M E => q_not (a 0) (ha 0).1 W), st mo ?_⟩
        rw [nd4 ‹x.k = 4›]; rfl
      · refine ⟨_, fun nn => r_call (t := (blkV (a 0)).y) rfl rfl Tryz.func38 (fun W M E => q_blank (a 0) (ha 0).1 W), st mo ?_⟩
        rw [nd9 ‹x.k = 9›]; rfl
      · refine ⟨_, fun nn => r_call (t := (rndV (a 0) x.s x.pl).y) rfl rfl Tryz.func39 (fun W M E => q_rnd (a 0) (ha 0).1 x.s x.pl W), st mo ⟨dk, st mo ?_⟩⟩
        rw [nd7 ‹x.k = 7›]; rfl
      · refine ⟨_, fun nn => r_call (t := (brkE e x.nm (a 0)).y) rfl rfl Tryz.func42 (fun W M E => c_table e x.nm (a 0) (ha 0) W (he.mb M E)), st mo ⟨dk, st mo ?_⟩⟩
        rw [nd8 (by omega)]; rfl
  · refine st mo (st mo ⟨fun hlt => st mo ?_, fun hge => st mo (st mo ?_)⟩)
    · have hil : 2 < x.a.length := by omega
      obtain ⟨y, hy⟩ : ∃ y, x.a[2]? = some y := ⟨_, List.getElem?_eq_getElem hil⟩
      obtain ⟨⟨b, o, h4, h5⟩, h8⟩ := hL.at hy
      refine ⟨b, o, 2, h4, rfl, hil, st mo ⟨y.c, rfl, h5, st mo ?_⟩⟩
      refine ⟨_, fun nn => r_call (t := (a 2).y) rfl rfl Tryz.func13 (fun W M E => hs 2 y hy W (h8.mono E) (he.mb M E)), st mo ?_⟩
      refine ⟨rfl, 1, (a 2).cells.map rel1, _, put_own rfl rfl rfl rfl rfl, by decide, _, rfl, st mo ⟨dk, st mo ?_⟩⟩
      refine ⟨_, wz 3 rfl, st mo ?_⟩
      exact ⟨3, hil, by dsimp; omega, [0, 1, 2, 5], rfl, ⟨fp, fp, fp, fs, fv, trivial⟩, ⟨flr rfl, flr rfl, flr rfl, flr rfl, trivial⟩, xf, rfl, rfl⟩
    · have l2 : x.a.length = 2 := by omega
      repeat' (first | (refine ⟨fun h => ?_, fun h => ?_⟩ <;> first | (exfalso; omega) | refine st mo ?_) | fail "")
      refine ⟨_, fun nn => r_call (t := (opV x.op (a 0) (a 1)).y) rfl rfl Tryz.func40 (fun W M E => q_op x.op (a 0) (a 1) (ha 0).1 (ha 1).1 W), st mo ⟨dk, st mo ?_⟩⟩
      rw [nd5 ‹x.k = 5›]; rfl
  · refine st mo (st mo ⟨fun hlt => absurd hlt (by omega), fun hge => st mo (st mo ?_)⟩)
    have l3 : x.a.length = 3 := by omega
    repeat' (first | (refine ⟨fun h => ?_, fun h => ?_⟩ <;> first | (exfalso; omega) | refine st mo ?_) | fail "")
    refine ⟨_, fun nn => r_call (t := (ifV (a 0) (a 1) (a 2)).y) rfl rfl Tryz.func41 (fun W M E => q_if (a 0) (a 1) (a 2) (ha 0).1 (ha 1).1 (ha 2).1 W), st mo ⟨dk, st mo ?_⟩⟩
    rw [nd6 ‹x.k = 6›]; rfl
  · omega
theorem c_eval (e : Ev) : ∀ (d : Nat) (x : Ex), XU d x → EvD e x (evE e d x) d
  | 0, x, hu => fun w hL he => by
    cases hw : whl x with
    | false => rw [show evE e 0 x = vBad 2 by unfold evE; rw [hw]; rfl]; exact c_no e x hw 0 w hL he
    | true =>
      rw [show evE e 0 x = nodE e x (fun _ => vBl) by unfold evE; rw [hw]; rfl]
      exact c_yes e x hw hu.u (fun _ => vBl) (fun _ => vBl_fit) 0 (fun i y hy => by rw [show x.a = [] from hL] at hy; cases hy) w hL.up he
  | d + 1, x, hu => fun w hL he => by
    cases hw : whl x with
    | false => rw [show evE e (d + 1) x = vBad 2 by unfold evE; rw [hw]; rfl]; exact c_no e x hw (d + 1) w hL he
    | true =>
      rw [show evE e (d + 1) x = nodE e x (fun j => ((x.a[j]?).map (evE e d)).getD vBl) by rw [evE, hw]; rfl]
      exact c_yes e x hw hu.u _ (fun i => by
        cases q : x.a[i]? with
        | none => exact vBl_fit
        | some y => exact fit_ev he (hu.2 y (List.mem_of_getElem? q))) d (fun i y hy => by rw [hy]; exact c_eval e d y (hu.2 y (List.mem_of_getElem? hy))) w hL he
abbrev DoC (tp : Option Addr) (cp : Nat) (tb : List Tb) (d : Nat) (x : Ex) : Prop := ∀ X, EvL X (tbV tp cp tb) → LT X d x → CtrX Tryz.prog X 26 [xY x, raw (.slice tp tb.length cp)] [] 0 0 (fun y => xY y) (fun _ => []) 0 (FY (tbV tp cp tb) d x)
theorem EvL.tm {X W : World} {tp : Option Addr} {cp : Nat} {tb : List Tb} (h : EvL X (tbV tp cp tb)) (E : ∀ a u, X.cell? a = some u → W.cell? a = some u) : EvL W (tbV tp cp tb) :=
  ⟨Or.inl ⟨rfl, rfl⟩, Or.inl ⟨rfl, rfl⟩, fun p hp => (by cases hp), fun p hp => (by cases hp), fun i t ht => by obtain ⟨b, o, h1, h2⟩ := h.sl i t ht; exact ⟨b, o, h1, fun j u hj => E _ _ (h2 j u hj)⟩, fun t ht => (h.tl t ht).mono E, h.ln⟩
/-- The part ahead. -/
def leC (c : Code) : Code := match c with
  | .seq a _ => a
  | c => c
/-- A flag that is known by cases. -/
abbrev lt (b : Bool) : Value := match b with
  | true => litT
  | false => litF
/-- A row of which the last cell is told apart. -/
def xr (x : Ex) (v : Value) : List Value := [.int .i64 x.k, .int .i64 x.op, .string x.nm, .string x.sc, .int .i64 x.vk, .bool x.ng, .int .u64 x.l0, .int .u64 x.l1, .int .u64 x.l2, .int .u64 x.l3, .int .i64 x.vs, .bool x.fl, .string x.tx, .int .i64 x.er, .int .i64 x.s, .int .i64 x.pl, v]
theorem FX.fy {e : Ev} {d : Nat} {x : Ex} {y : Ex × Bool} {S : Nat → Prop} {W : World} (h : FX e d x y S W) : FY e d x y.1 S W := h
theorem whl_b {x : Ex} {y : YA} (h : y.1.length = x.a.length) : whl (bX x y) = whl x := by unfold whl whN bX; dsimp only; rw [h]
theorem fy_cst {e : Ev} {d : Nat} {x : Ex} {y : YA} {S : Nat → Prop} {X : World} (he : EvL X e) (hd : Dp (d + 1) x) (hu : XU (d + 1) x) (hy : FA e d x y S X) (hf : fxE (bX x y) = true) : FY e (d + 1) x (cstX (evE e (d + 1) (bX x y))) S X := by
  cases hc : chE (bX x y) with
  | false => exact (hy.cst hc hf false).fy
  | true =>
    refine ⟨cst_ln _ _ _ _, cst_xu _ _, ?_⟩
    show ek (d + 1) (cstX _) = fnE e (d + 1) (kd (fdE e d) x)
    unfold fnE
    rw [← hy.ch, hc, cst_ek, hy.ev]
    simp only [if_true]
    exact (both_t e he hd hu (by rw [← hy.ch]; exact hc) (by rw [← hy.fx]; exact hf)).symm
theorem whl_three {x : Ex} {ys : List Ex} {u : Option Addr × Nat × Bool} (hw : whl (bX x (ys, u)) = true) (h6 : x.k = 6) : ∃ c q r, ys = [c, q, r] := by
  have h := of_decide_eq_true hw
  unfold whN bX at h
  dsimp only at h
  rw [if_neg (by omega), if_neg (by omega), if_neg (by omega), if_pos h6] at h
  injection h with h
  match hy : ys, h with
  | [c, q, r], _ => exact ⟨c, q, r, rfl⟩
set_option maxRecDepth 20000 in
theorem q_pick {w : World} {l : Nat → Nat × Nat} {X' X2 : World} {e : Ev} {d : Nat} {x : Ex} (hlen : x.a.length ≤ 1000000000) (hx : x.u4) {ys : List Ex} {p : Option Addr} {cl : Nat} {mk : Bool} (hw' : whl (bX x (ys, p, cl, mk)) = true) (hf : fxE (bX x (ys, p, cl, mk)) = false) (hy : FA e d x (ys, p, cl, mk) (Ho X') X2) (hX2 : Xf X2 X') :
    Rn Tryz.prog ⟨w, 0, l⟩ (retX Tryz.prog Tryz.f26 X' 0 (fun y => xY y) (fun _ => []) 0 (FY e (d + 1) x)) (cf ⟨⟨110, [(2, q0 0), (4, q0 1), (5, q0 2)]⟩, [(0, some (x.c.map rel1)), (1, some zX), (2, some (xr x (raw (.slice p ys.length cl))))], 3, X2⟩ [co (leC (leC (sndC (sndC (sndC (sndC (sndC (sndC (sndC (Tryz.f26.body.getD .skip)))))))))), co (sndC (leC (sndC (sndC (sndC (sndC (sndC (sndC (sndC (Tryz.f26.body.getD .skip)))))))))), co (sndC (sndC (sndC (sndC (sndC (sndC (sndC (sndC (Tryz.f26.body.getD .skip)))))))))]) := by
  have hN := hy.ln hlen
  refine st mo ⟨fun h6 => st mo ?_, fun h6 => st mo ?_⟩
  · obtain ⟨c, q, r, rfl⟩ := whl_three hw' h6
    obtain ⟨⟨b, o, _, h4, h5⟩, _⟩ := hN.2 0 c rfl
    obtain ⟨⟨b1, o1, _, g4, g5⟩, _⟩ := hN.2 1 q rfl
    obtain ⟨⟨b2, o2, _, k4, k5⟩, _⟩ := hN.2 2 r rfl
    have hce : chE (bX x ([c, q, r], p, cl, mk)) = (isC c && decide (c.vk = 2)) := by
      unfold chE; rw [decide_eq_true (show (bX x ([c, q, r], p, cl, mk)).k = 6 from h6), hw']; rfl
    have it : chE (bX x ([c, q, r], p, cl, mk)) = false → FY e (d + 1) x (bX x ([c, q, r], p, cl, mk)) (Ho X') X2 := fun hc => (hy.it hlen hx hc hf mk).fy
    refine ⟨b, o, 0, h4, rfl, by simp, st mo ⟨.int .i64 c.k, h5 0 _ rfl, st mo ⟨fun hk => st mo ?_, fun hk => st mo ?_⟩⟩⟩
    · refine ⟨b, o, 0, h4, rfl, by simp, st mo ⟨.slice c.p c.a.length c.cl, h5 16 _ rfl, st mo (st mo ⟨fun hz => st mo ?_, fun hz => st mo ?_⟩)⟩⟩
      · refine ⟨b, o, 0, h4, rfl, by simp, st mo ⟨.int .i64 c.vk, h5 4 _ rfl, st mo ⟨fun h2 => st mo ?_, fun h2 => st mo ?_⟩⟩⟩
        · have hch : chE (bX x ([c, q, r], p, cl, mk)) = true := by rw [hce, isC, emp_len, decide_eq_true hk, decide_eq_true hz, decide_eq_true h2]; rfl
          have hpk := hy.pick hch rfl mk
          refine ⟨b, o, 0, h4, rfl, by simp, st mo ⟨.bool c.fl, h5 11 _ rfl, st mo ⟨fun hf => st mo ?_, fun hf => st mo ?_⟩⟩⟩
          · rw [hf, if_pos rfl] at hpk
            refine ⟨b1, o1, 1, g4, rfl, by simp, st mo ⟨q.c, rfl, g5, st mo ?_⟩⟩
            exact ⟨hX2, q, [], hpk.fy, fv, trivial, rfl, rfl⟩
          · rw [hf, if_neg (by decide)] at hpk
            refine ⟨b2, o2, 2, k4, rfl, by simp, st mo ⟨r.c, rfl, k5, st mo ?_⟩⟩
            exact ⟨hX2, r, [], hpk.fy, fv, trivial, rfl, rfl⟩
        · have hc : chE (bX x ([c, q, r], p, cl, mk)) = false := by rw [hce, decide_eq_false h2, Bool.and_false]
          exact ⟨hX2, bX x ([c, q, r], p, cl, mk), [], it hc, fv, trivial, rfl, rfl⟩
      · have hc : chE (bX x ([c, q, r], p, cl, mk)) = false := by rw [hce, isC, emp_len, decide_eq_false hz, Bool.and_false, Bool.false_and]
        exact ⟨hX2, bX x ([c, q, r], p, cl, mk), [], it hc, fv, trivial, rfl, rfl⟩
    · have hc : chE (bX x ([c, q, r], p, cl, mk)) = false := by rw [hce, isC, decide_eq_false hk, Bool.false_and, Bool.false_and]
      exact ⟨hX2, bX x ([c, q, r], p, cl, mk), [], it hc, fv, trivial, rfl, rfl⟩
  · have hc : chE (bX x (ys, p, cl, mk)) = false := by unfold chE; rw [decide_eq_false (show ¬ (bX x (ys, p, cl, mk)).k = 6 from h6), Bool.false_and, Bool.false_and]
    exact ⟨hX2, bX x (ys, p, cl, mk), [], (hy.it hlen hx hc hf mk).fy, fv, trivial, rfl, rfl⟩
set_option maxRecDepth 20000 in
theorem q_rest {w : World} {l : Nat → Nat × Nat} {X' X2 : World} {tp : Option Addr} {cp : Nat} {tb : List Tb} {d : Nat} {x : Ex} (hdp : Dp (d + 1) x) (hu : XU (d + 1) x) (hlen : x.a.length ≤ 1000000000) (y : YA) (hy : FA (tbV tp cp tb) d x y (Ho X') X2) (hX2 : Xf X2 X') (he : EvL X2 (tbV tp cp tb)) :
    Rn Tryz.prog ⟨w, 0, l⟩ (retX Tryz.prog Tryz.f26 X' 0 (fun y => xY y) (fun _ => []) 0 (FY (tbV tp cp tb) (d + 1) x)) (cf ⟨⟨110, [(1, raw (.slice tp tb.length cp)), (2, q0 0), (4, q0 1), (5, q0 2), (6, lt (y.1.all isC))]⟩, [(0, some (x.c.map rel1)), (1, some zX), (2, some (xr x (raw (.slice y.2.1 y.1.length y.2.2.1))))], 3, X2⟩ [co (sndC (sndC (sndC (sndC (sndC (Tryz.f26.body.getD .skip))))))]) := by
  obtain ⟨ys, p, cl, mk⟩ := y
  have hl2 := hy.len
  have hN := hy.ln hlen
  have hT := hN.lt
  have hx := hu.1
  cases hall : ys.all isC with
  | true =>
    refine st mo ⟨_, fun nn => r_call (t := .int .i64 (arN x)) rfl rfl Tryz.func31 (fun W M E => c_args x W), st mo (st mo ⟨fun hne => st mo ⟨dk, st mo ?_⟩, fun hq => st mo ⟨dk, st mo ?_⟩⟩)⟩
    · have hw : whl x = false := by rw [arN_w]; exact decide_eq_false hne
      have hw' : whl (bX x (ys, p, cl, mk)) = false := by rw [whl_b hl2]; exact hw
      have hc : chE (bX x (ys, p, cl, mk)) = false := by unfold chE; rw [hw', Bool.and_false, Bool.false_and]
      have hf : fxE (bX x (ys, p, cl, mk)) = false := by unfold fxE; rw [hw', Bool.false_and, Bool.false_and, Bool.false_and]
      exact ⟨hX2, bX x (ys, p, cl, mk), [], (hy.it hlen hx hc hf mk).fy, fv, trivial, rfl, rfl⟩
    · have hw : whl x = true := by rw [arN_w]; exact decide_eq_true hq
      have hw' : whl (bX x (ys, p, cl, mk)) = true := by rw [whl_b hl2]; exact hw
      have rest : fxE (bX x (ys, p, cl, mk)) = false → Rn Tryz.prog ⟨w, 0, l⟩ (retX Tryz.prog Tryz.f26 X' 0 (fun y => xY y) (fun _ => []) 0 (FY (tbV tp cp tb) (d + 1) x)) (cf ⟨⟨110, [(2, q0 0), (4, q0 1), (5, q0 2)]⟩, [(0, some (x.c.map rel1)), (1, some zX), (2, some (xr x (raw (.slice p ys.length cl))))], 3, X2⟩ [co (leC (leC (sndC (sndC (sndC (sndC (sndC (sndC (sndC (Tryz.f26.body.getD .skip)))))))))), co (sndC (leC (sndC (sndC (sndC (sndC (sndC (sndC (sndC (Tryz.f26.body.getD .skip)))))))))), co (sndC (sndC (sndC (sndC (sndC (sndC (sndC (sndC (Tryz.f26.body.getD .skip)))))))))]) := fun hf => q_pick hlen hx hw' hf hy hX2
      refine ⟨fun h2 => st mo ⟨fun h10 => st mo ?_, fun h10 => su 14 mo ?_⟩, fun h2 => su 14 mo ?_⟩
      · have hf : fxE (bX x (ys, p, cl, mk)) = true := by
          unfold fxE; rw [hw', show (bX x (ys, p, cl, mk)).a.all isC = true from hall, decide_eq_false (show ¬ (bX x (ys, p, cl, mk)).k = 2 from h2), decide_eq_false (show ¬ (bX x (ys, p, cl, mk)).k = 10 from h10)]; rfl
        refine ⟨_, fun nn => r_call (t := (evE (tbV tp cp tb) (d + 1) (bX x (ys, p, cl, mk))).y) rfl rfl Tryz.func13 (fun W M E => c_eval (tbV tp cp tb) (d + 1) (bX x (ys, p, cl, mk)) (hy.xu hx) W (hT.mono E) (he.tm E)), st mo ?_⟩
        exact ⟨hX2, cstX (evE (tbV tp cp tb) (d + 1) (bX x (ys, p, cl, mk))), [], fy_cst he hdp hu hy hf, fvd, trivial, rfl, rfl⟩
      · show Rn _ _ _ _
        refine rn_fit ⟨⟨110, [(2, q0 0), (4, q0 1), (5, q0 2)]⟩, [(0, some (x.c.map rel1)), (1, some zX), (2, some (xr x (raw (.slice p ys.length cl))))], 3, X2⟩ [0, 1, 2] ⟨rfl, ⟨fp, fp, fp, trivial⟩, ⟨fl rfl rfl, fl rfl rfl, fl rfl rfl, trivial⟩, xf, rfl, rfl⟩ (rest ?_)
        unfold fxE; rw [decide_eq_true (show (bX x (ys, p, cl, mk)).k = 10 from h10), Bool.not_true, Bool.and_false, Bool.false_and]
      · show Rn _ _ _ _
        refine rn_fit ⟨⟨110, [(2, q0 0), (4, q0 1), (5, q0 2)]⟩, [(0, some (x.c.map rel1)), (1, some zX), (2, some (xr x (raw (.slice p ys.length cl))))], 3, X2⟩ [0, 1, 2] ⟨rfl, ⟨fp, fp, fp, trivial⟩, ⟨fl rfl rfl, fl rfl rfl, fl rfl rfl, trivial⟩, xf, rfl, rfl⟩ (rest ?_)
        unfold fxE; rw [decide_eq_true (show (bX x (ys, p, cl, mk)).k = 2 from h2), Bool.not_true, Bool.and_false, Bool.false_and, Bool.false_and]
  | false =>
    refine st mo ⟨_, fun nn => r_call (t := .int .i64 (arN x)) rfl rfl Tryz.func31 (fun W M E => c_args x W), st mo (st mo ⟨fun hne => st mo ⟨dk, st mo ?_⟩, fun hq => st mo ⟨dk, su 14 mo ?_⟩⟩)⟩
    · have hw : whl x = false := by rw [arN_w]; exact decide_eq_false hne
      have hw' : whl (bX x (ys, p, cl, mk)) = false := by rw [whl_b hl2]; exact hw
      have hc : chE (bX x (ys, p, cl, mk)) = false := by unfold chE; rw [hw', Bool.and_false, Bool.false_and]
      have hf : fxE (bX x (ys, p, cl, mk)) = false := by unfold fxE; rw [hw', Bool.false_and, Bool.false_and, Bool.false_and]
      exact ⟨hX2, bX x (ys, p, cl, mk), [], (hy.it hlen hx hc hf mk).fy, fv, trivial, rfl, rfl⟩
    · have hw : whl x = true := by rw [arN_w]; exact decide_eq_true hq
      have hw' : whl (bX x (ys, p, cl, mk)) = true := by rw [whl_b hl2]; exact hw
      have rest : fxE (bX x (ys, p, cl, mk)) = false → Rn Tryz.prog ⟨w, 0, l⟩ (retX Tryz.prog Tryz.f26 X' 0 (fun y => xY y) (fun _ => []) 0 (FY (tbV tp cp tb) (d + 1) x)) (cf ⟨⟨110, [(2, q0 0), (4, q0 1), (5, q0 2)]⟩, [(0, some (x.c.map rel1)), (1, some zX), (2, some (xr x (raw (.slice p ys.length cl))))], 3, X2⟩ [co (leC (leC (sndC (sndC (sndC (sndC (sndC (sndC (sndC (Tryz.f26.body.getD .skip)))))))))), co (sndC (leC (sndC (sndC (sndC (sndC (sndC (sndC (sndC (Tryz.f26.body.getD .skip)))))))))), co (sndC (sndC (sndC (sndC (sndC (sndC (sndC (sndC (Tryz.f26.body.getD .skip)))))))))]) := fun hf => q_pick hlen hx hw' hf hy hX2
      show Rn _ _ _ _
      refine rn_fit ⟨⟨110, [(2, q0 0), (4, q0 1), (5, q0 2)]⟩, [(0, some (x.c.map rel1)), (1, some zX), (2, some (xr x (raw (.slice p ys.length cl))))], 3, X2⟩ [0, 1, 2] ⟨rfl, ⟨fp, fp, fp, trivial⟩, ⟨fl rfl rfl, fl rfl rfl, fl rfl rfl, trivial⟩, xf, rfl, rfl⟩ (rest ?_)
      unfold fxE; rw [show (bX x (ys, p, cl, mk)).a.all isC = false from hall, Bool.and_false]
def qaF (tb : Value) (i : Nat) (c : Bool) : FT := ⟨110, [(1, tb), (2, q0 0), (4, q0 1), (5, q0 2), (6, lt c), (7, .int .i64 (i : Int))]⟩
def qaH (x : Ex) (v : Value) : HT := [(0, some (x.c.map rel1)), (1, some zX), (2, some (xr x v))]
def qaS (tb : Value) (x : Ex) (a : JA) : St := match a with
  | (0, _, ys, X) => ⟨qaF tb 0 (ys.all isC), qaH x (.slice none 0 0), 3, X⟩
  | (i + 1, _, ys, X) => ⟨qaF tb (i + 1) (ys.all isC), (3 + 4096, none) :: (3, some ((cX ys).map rel1)) :: qaH x (.slice (some ⟨3, 0, none⟩) (i + 1) 17), 4, X⟩
theorem all_snoc {ys : List Ex} {z : Ex} {b c : Bool} (h : ys.all isC = b) (hz : isC z = c) : (ys ++ [z]).all isC = (b && c) := by
  rw [List.all_append, h]; simp [hz]
theorem isC_kn {z : Ex} (h : ¬ z.k = 1) : isC z = false := by unfold isC; rw [decide_eq_false h]; rfl
theorem isC_ln {z : Ex} (h : ¬ (z.a.length : Int) = 0) : isC z = false := by unfold isC; rw [emp_len, decide_eq_false h, Bool.and_false]
theorem isC_y {z : Ex} (hk : z.k = 1) (h : (z.a.length : Int) = 0) : isC z = true := by unfold isC; rw [emp_len, decide_eq_true h, decide_eq_true hk]; rfl
theorem xr_fit {σ : List Nat} {x : Ex} {i j len : Nat} (h : σ[j]? = some i := by rfl) : fitL σ (xr x (.slice (some ⟨i, 0, none⟩) len 17)) (xr x (.slice (some ⟨j, 0, none⟩) len 17)) :=
  fitL_cons fv (fitL_cons fv (fitL_cons fv (fitL_cons fv (fitL_cons fv (fitL_cons fv (fitL_cons fv (fitL_cons fv (fitL_cons fv (fitL_cons fv (fitL_cons fv (fitL_cons fv (fitL_cons fv (fitL_cons fv (fitL_cons fv (fitL_cons fv (fitL_cons (fs h) rfl))))))))))))))))
theorem xr_fitd {σ : List Nat} {x : Ex} : fitL σ (xr x (.slice none 0 0)) (xr x (raw (.slice none 0 0))) :=
  fitL_cons fv (fitL_cons fv (fitL_cons fv (fitL_cons fv (fitL_cons fv (fitL_cons fv (fitL_cons fv (fitL_cons fv (fitL_cons fv (fitL_cons fv (fitL_cons fv (fitL_cons fv (fitL_cons fv (fitL_cons fv (fitL_cons fv (fitL_cons fv (fitL_cons fvd rfl))))))))))))))))
theorem lt_as {σ : List Nat} {b c : Bool} (h : c = b) : S.fitV σ (lt b) (lt c) := by subst h; cases c <;> exact fv
theorem lt_fit {σ : List Nat} {b : Bool} : S.fitV σ (lt b) (lt b) := by cases b <;> exact fv
set_option maxHeartbeats 1000000 in
set_option maxRecDepth 20000 in
theorem q_node {tp : Option Addr} {cp : Nat} {tb : List Tb} {d : Nat} {x : Ex} (hdp : Dp (d + 1) x) (hu : XU (d + 1) x) (hlen : x.a.length ≤ 1000000000) (ih : ∀ y ∈ x.a, DoC tp cp tb d y) : DoC tp cp tb (d + 1) x := fun X he hL => by
  refine fn_x (loc_FY _ (d + 1) x) _ Tryz.func26 rfl rfl rfl rfl (fun w l X' hX => run_ok (st mo ?_))
  refine S.w_loop (qaS (raw (.slice tp tb.length cp)) x) (JaP (tbV tp cp tb) d x X') (fun a => x.a.length - a.1) (0, false, [], X') ⟨Nat.zero_le _, xf, rfl, fun z hz => (by cases hz), rfl⟩ [0, 1, 2] ⟨rfl, ⟨fv, fp, fp, fp, fv, fv, trivial⟩, ⟨fl rfl rfl, fl rfl rfl, fl rfl rfl, trivial⟩, xf, rfl, rfl⟩ ?_
  rintro ⟨i, mk, ys, X1⟩ hp
  have hX1 : Xf X1 X := S.Xf.tr hp.xf hX
  have he1 := he.xf hX1
  have hL1 := hL.mono (xce hX1)
  have hln := hp.len
  have hle := hp.le
  rcases i with _ | i
  · refine st mo (st mo ⟨fun hlt => su 7 mo ?_, fun hge => st mo ?_⟩)
    · have hil : 0 < x.a.length := by omega
      obtain ⟨y, hy⟩ : ∃ y, x.a[0]? = some y := ⟨_, List.getElem?_eq_getElem hil⟩
      obtain ⟨⟨b, o, h4, h5⟩, h8⟩ := hL1.at hy
      refine rxi 6 (st mo ⟨b, o, 0, h4, rfl, hil, st mo ⟨y.c, rfl, h5, st mo ⟨Ex, _, _, _, r_cx (tc := fun z => xY z) (loc_FY _ d y) [] (fun _ => []) [] rfl rfl (ih y (List.mem_of_getElem? hy) X1 he1 h8) (fitL_cons fv (fitL_cons fv rfl)) trivial (fun z => uv) (fun z => trivial) (fun z => rfl), fun z X2 hX2 hz => ?_⟩⟩⟩)
      have hst := hp.step hy hX2 (z := (z, mk)) hz
      have hys : ys = [] := List.eq_nil_of_length_eq_zero hln
      subst hys
      refine ⟨(⟨110, [(1, raw (.slice tp tb.length cp)), (2, q0 0), (4, q0 1), (5, q0 2), (6, litT), (7, .int .i64 (0 : Int)), (24, xY z)]⟩, qaH x (.slice none 0 0), 3), [0, 1, 2], ⟨rfl, ⟨fv, fp, fp, fp, fv, fv, fv, trivial⟩, ⟨fl rfl rfl, fl rfl rfl, fl rfl rfl, trivial⟩, xf, rfl, rfl⟩, rfl, st mo ?_⟩
      refine ⟨fun hk => st mo (st mo ⟨fun hz => st mo ?_, fun hz => st mo ?_⟩), fun hk => st mo ?_⟩
      · refine ⟨1, z.c.map rel1, _, put_own rfl rfl rfl rfl rfl, by omega, by omega, st mo ⟨_, wz 1 rfl, st mo ?_⟩⟩
        exact ⟨(1, mk, [z], X2), hst, by dsimp; omega, [0, 1, 2, 5], rfl, ⟨fv, fp, fp, fp, lt_as (b := true) (all_snoc (ys := []) rfl (isC_y hk hz)), fv, trivial⟩, ⟨trivial, flr (by simp), fl rfl rfl, fl rfl rfl, xr_fit, trivial⟩, xf, rfl, rfl⟩
      · refine ⟨1, z.c.map rel1, _, put_own rfl rfl rfl rfl rfl, by omega, by omega, st mo ⟨_, wz 1 rfl, st mo ?_⟩⟩
        exact ⟨(1, mk, [z], X2), hst, by dsimp; omega, [0, 1, 2, 5], rfl, ⟨fv, fp, fp, fp, lt_as (b := false) (all_snoc (ys := []) rfl (isC_ln hz)), fv, trivial⟩, ⟨trivial, flr (by simp), fl rfl rfl, fl rfl rfl, xr_fit, trivial⟩, xf, rfl, rfl⟩
      · refine ⟨1, z.c.map rel1, _, put_own rfl rfl rfl rfl rfl, by omega, by omega, st mo ⟨_, wz 1 rfl, st mo ?_⟩⟩
        exact ⟨(1, mk, [z], X2), hst, by dsimp; omega, [0, 1, 2, 5], rfl, ⟨fv, fp, fp, fp, lt_as (b := false) (all_snoc (ys := []) rfl (isC_kn hk)), fv, trivial⟩, ⟨trivial, flr (by simp), fl rfl rfl, fl rfl rfl, xr_fit, trivial⟩, xf, rfl, rfl⟩
    · have h0 : x.a = [] := List.eq_nil_of_length_eq_zero (by omega)
      have hys : ys = [] := List.eq_nil_of_length_eq_zero hln
      subst hys
      show Rn _ _ _ _
      refine rn_fit _ [0, 1, 2] ?_ (q_rest (w := w) (l := l) (X' := X') hdp hu hlen ([], none, 0, mk) (X2 := X1) ⟨fun i z hz => (by cases hz), by simp [h0]⟩ hp.xf he1)
      exact ⟨rfl, ⟨fv, fp, fp, fp, fv, trivial⟩, ⟨fl rfl rfl, fl rfl rfl, xr_fitd, trivial⟩, xf, rfl, rfl⟩
  · refine st mo (st mo ⟨fun hlt => su 7 mo ?_, fun hge => st mo ?_⟩)
    · have hil : i + 1 < x.a.length := by omega
      obtain ⟨y, hy⟩ : ∃ y, x.a[i + 1]? = some y := ⟨_, List.getElem?_eq_getElem hil⟩
      obtain ⟨⟨b, o, h4, h5⟩, h8⟩ := hL1.at hy
      refine rxi 6 (st mo ⟨b, o, i + 1, h4, rfl, hil, st mo ⟨y.c, rfl, h5, st mo ⟨Ex, _, _, _, r_cx (tc := fun z => xY z) (loc_FY _ d y) [] (fun _ => []) [] rfl rfl (ih y (List.mem_of_getElem? hy) X1 he1 h8) (fitL_cons fv (fitL_cons fv rfl)) trivial (fun z => uv) (fun z => trivial) (fun z => rfl), fun z X2 hX2 hz => ?_⟩⟩⟩)
      have hst := hp.step hy hX2 (z := (z, mk)) hz
      cases hall : ys.all isC with
      | true =>
        refine ⟨(⟨110, [(1, raw (.slice tp tb.length cp)), (2, q0 0), (4, q0 1), (5, q0 2), (6, litT), (7, .int .i64 ((i + 1 : Nat) : Int)), (24, xY z)]⟩, (3 + 4096, none) :: (3, some ((cX ys).map rel1)) :: qaH x (.slice (some ⟨3, 0, none⟩) (i + 1) 17), 4), [0, 1, 2, 3], ⟨rfl, ⟨fv, fp, fp, fp, fv, fv, fv, trivial⟩, ⟨trivial, flr rfl, fl rfl rfl, fl rfl rfl, xr_fit, trivial⟩, xf, rfl, rfl⟩, rfl, st mo ?_⟩
        refine ⟨fun hk => st mo (st mo ⟨fun hz => st mo ?_, fun hz => st mo ?_⟩), fun hk => st mo ?_⟩
        · refine ⟨((List.length_map _).trans (cX_len ys)).trans (by rw [show ys.length = i + 1 from hln]; rfl), 1, z.c.map rel1, _, put_own rfl rfl rfl rfl rfl, by omega, _, rfl, st mo ⟨_, wz (i + 2) rfl, st mo ?_⟩⟩
          exact ⟨(i + 1 + 1, mk, ys ++ [z], X2), hst, by dsimp; omega, [0, 1, 2, 6], rfl, ⟨fv, fp, fp, fp, lt_as (b := true) (all_snoc hall (isC_y hk hz)), fv, trivial⟩, ⟨trivial, flr (by simp), fl rfl rfl, fl rfl rfl, xr_fit, trivial⟩, xf, rfl, rfl⟩
        · refine ⟨((List.length_map _).trans (cX_len ys)).trans (by rw [show ys.length = i + 1 from hln]; rfl), 1, z.c.map rel1, _, put_own rfl rfl rfl rfl rfl, by omega, _, rfl, st mo ⟨_, wz (i + 2) rfl, st mo ?_⟩⟩
          exact ⟨(i + 1 + 1, mk, ys ++ [z], X2), hst, by dsimp; omega, [0, 1, 2, 6], rfl, ⟨fv, fp, fp, fp, lt_as (b := false) (all_snoc hall (isC_ln hz)), fv, trivial⟩, ⟨trivial, flr (by simp), fl rfl rfl, fl rfl rfl, xr_fit, trivial⟩, xf, rfl, rfl⟩
        · refine ⟨((List.length_map _).trans (cX_len ys)).trans (by rw [show ys.length = i + 1 from hln]; rfl), 1, z.c.map rel1, _, put_own rfl rfl rfl rfl rfl, by omega, _, rfl, st mo ⟨_, wz (i + 2) rfl, st mo ?_⟩⟩
          exact ⟨(i + 1 + 1, mk, ys ++ [z], X2), hst, by dsimp; omega, [0, 1, 2, 6], rfl, ⟨fv, fp, fp, fp, lt_as (b := false) (all_snoc hall (isC_kn hk)), fv, trivial⟩, ⟨trivial, flr (by simp), fl rfl rfl, fl rfl rfl, xr_fit, trivial⟩, xf, rfl, rfl⟩
      | false =>
        refine ⟨(⟨110, [(1, raw (.slice tp tb.length cp)), (2, q0 0), (4, q0 1), (5, q0 2), (6, litF), (7, .int .i64 ((i + 1 : Nat) : Int)), (24, xY z)]⟩, (3 + 4096, none) :: (3, some ((cX ys).map rel1)) :: qaH x (.slice (some ⟨3, 0, none⟩) (i + 1) 17), 4), [0, 1, 2, 3], ⟨rfl, ⟨fv, fp, fp, fp, fv, fv, fv, trivial⟩, ⟨trivial, flr rfl, fl rfl rfl, fl rfl rfl, xr_fit, trivial⟩, xf, rfl, rfl⟩, rfl, st mo ?_⟩
        refine ⟨((List.length_map _).trans (cX_len ys)).trans (by rw [show ys.length = i + 1 from hln]; rfl), 1, z.c.map rel1, _, put_own rfl rfl rfl rfl rfl, by omega, _, rfl, st mo ⟨_, wz (i + 2) rfl, st mo ?_⟩⟩
        exact ⟨(i + 1 + 1, mk, ys ++ [z], X2), hst, by dsimp; omega, [0, 1, 2, 6], rfl, ⟨fv, fp, fp, fp, lt_as (b := false) ((all_snoc hall (c := isC z) rfl).trans (Bool.false_and _)), fv, trivial⟩, ⟨trivial, flr (by simp), fl rfl rfl, fl rfl rfl, xr_fit, trivial⟩, xf, rfl, rfl⟩
    · have hie : i + 1 = x.a.length := by omega
      show Rn _ _ _ _
      refine told_h 2 16 3 (i + 1) 17 ((cX ys).map rel1) _ [0, 1, 2] (fun b cap => (⟨110, [(1, raw (.slice tp tb.length cp)), (2, q0 0), (4, q0 1), (5, q0 2), (6, lt (ys.all isC))]⟩, qaH x (raw (.slice (some ⟨b, 0, none⟩) (i + 1) cap)), 3)) rfl rfl rfl (pur_cX ys) rfl rfl (fun b cap => ⟨rfl, ⟨fv, fp, fp, fp, lt_fit, trivial⟩, ⟨fl rfl rfl, fl rfl rfl, fl rfl rfl, trivial⟩, xf, rfl, rfl⟩) (fun b cap X2 hcap hX2 hb hl => ?_)
      rw [den_rel] at hl
      have q := q_rest (w := w) (l := l) (X' := X') hdp hu hlen (ys, some ⟨b, 0, none⟩, cap, mk) (X2 := X2) ⟨fun j z hz => ⟨⟨b, 0, hb.xf hp.xf, rfl, fun q u hu => ?_⟩, (hp.ok z (List.mem_of_getElem? hz)).1.xf hX2, (hp.ok z (List.mem_of_getElem? hz)).2⟩, ?_⟩ (S.Xf.tr hX2 hp.xf) (he1.xf hX2)
      · rw [show (ys, some (⟨b, 0, none⟩ : Addr), cap, mk).1.length = i + 1 from hln] at q
        exact q
      · have := hl _ u (cX_at ys j z hz q u hu)
        rw [Nat.zero_add] at this ⊢; exact this
      · rw [hp.m]; show ((x.a.take (i + 1)).map (fdE _ d)) = _; rw [hie, List.take_length]
theorem q_fold (tp : Option Addr) (cp : Nat) (tb : List Tb) : ∀ (d : Nat) (x : Ex), Dp d x → XU d x → nds d x ≤ 1000000000 → DoC tp cp tb d x
  | 0, x, hd, hu, _ => fun X he hL => by
    have hx : x.a = [] := hL
    exact (q_node (d := 0) (fun y hy => by rw [hx] at hy; cases hy) ⟨hu, fun y hy => by rw [hx] at hy; cases hy⟩ (by rw [hx]; decide) (fun y hy => by rw [hx] at hy; cases hy) X he hL.up).to fun y S W g => FX.low (y := (y, false)) hx g
  | d + 1, x, hd, hu, hb => q_node hd hu (nds_kid hb).1 fun y hy => q_fold tp cp tb d y (hd y hy) (hu.2 y hy) ((nds_kid hb).2 y hy)
theorem kd_inv {f g : Ex → Ex} {x y : Ex} (h : kd f x = kd g y) : (∃ p cl a, y = { x with p := p, cl := cl, a := a }) ∧ x.a.map f = y.a.map g := by
  obtain ⟨k, op, nm, sc, vk, ng, l0, l1, l2, l3, vs, fl, tx, er, s, pl, p, cl, a⟩ := x
  obtain ⟨k', op', nm', sc', vk', ng', l0', l1', l2', l3', vs', fl', tx', er', s', pl', p', cl', a'⟩ := y
  unfold kd at h
  simp only [Ex.mk.injEq] at h
  obtain ⟨rfl, rfl, rfl, rfl, rfl, rfl, rfl, rfl, rfl, rfl, rfl, rfl, rfl, rfl, rfl, rfl, _, _, ha⟩ := h
  exact ⟨⟨p', cl', a', rfl⟩, ha⟩
theorem svv_n (p : VL) : (!svv p p) = false := by rw [svv_self]; rfl
set_option maxRecDepth 20000 in
theorem same_1 {d : Nat} (x : Ex) (hx : x.u4) (p : Option Addr) (cl : Nat) (a : List Ex) (hla : a.length = x.a.length) (w : World) (hL : LT w (d + 1) x) (hM : LT w (d + 1) { x with p := p, cl := cl, a := a })
    (ih : ∀ (i : Nat) (u v : Ex), x.a[i]? = some u → a[i]? = some v → ∀ W, LT W d u → LT W d v → Calls Tryz.prog 24 #[.agg u.c.toArray, .agg v.c.toArray] W fun r W' => r = .returned (.bool true) ∧ Mb W W') :
    Calls Tryz.prog 24 #[.agg x.c.toArray, .agg ({ x with p := p, cl := cl, a := a } : Ex).c.toArray] w fun r W => r = .returned (.bool true) ∧ Mb w W := by
  refine fn_pure [.agg (x.c.map rel1).toArray, .agg ((({ x with p := p, cl := cl, a := a } : Ex).c).map rel1).toArray] Tryz.func24 rfl rfl rfl (run_ok (st mo ?_))
  have hv : x.val.v = .agg #[.int .i64 x.vk, .bool x.ng, .int .u64 x.l0, .int .u64 x.l1, .int .u64 x.l2, .int .u64 x.l3, .int .i64 x.vs, .bool x.fl, .string x.tx, .int .i64 x.er] := by rw [VL.v, hx.cells]
  refine ⟨fun h => absurd rfl h, fun _ => st mo ⟨fun h => absurd rfl h, fun _ => st mo ⟨fun h => absurd rfl h, fun _ => st mo ⟨fun h => absurd rfl h, fun _ => st mo ?_⟩⟩⟩⟩
  refine ⟨_, r_neV x.val x.val (hy := by rw [hv]; rfl) (hz := by rw [hv]; rfl), fun h => absurd (h.symm.trans (svv_n _)) (by decide), fun _ => st mo ?_⟩
  refine ⟨fun h => absurd rfl h, fun _ => st mo ⟨fun h => absurd rfl h, fun _ => st mo (st mo (st mo ⟨fun h => absurd (by show (x.a.length : Int) = (a.length : Int); rw [hla]) h, fun _ => st mo ?_⟩))⟩⟩
  refine S.w_loop (fun i : Nat => ⟨⟨Tryz.f24.ntmps, [(2, q0 0), (3, q0 1), (5, .int .i64 (i : Int))]⟩, [(0, some (x.c.map rel1)), (1, some ((({ x with p := p, cl := cl, a := a } : Ex).c).map rel1))], 2, w⟩) (fun i => i ≤ x.a.length) (fun i => x.a.length - i) 0 (Nat.zero_le _) [0, 1] ⟨rfl, ⟨fp, fp, fv, trivial⟩, ⟨fl rfl rfl, fl rfl rfl, trivial⟩, xf, rfl, rfl⟩ ?_
  intro i hi
  refine st mo (st mo ⟨fun hlt => st mo ?_, fun hge => st mo (st mo ?_)⟩)
  · have hil : i < x.a.length := by omega
    obtain ⟨u, hu⟩ : ∃ u, x.a[i]? = some u := ⟨_, List.getElem?_eq_getElem hil⟩
    obtain ⟨v, hv'⟩ : ∃ v, a[i]? = some v := ⟨_, List.getElem?_eq_getElem (by omega)⟩
    obtain ⟨⟨b, o, h4, h5⟩, h8⟩ := hL.at hu
    obtain ⟨⟨b1, o1, g4, g5⟩, g8⟩ := hM.at hv'
    have hln := hL.1
    refine ⟨b, o, i, h4, rfl, hil, st mo ⟨u.c, rfl, h5, st mo ⟨b1, o1, i, g4, rfl, by omega, st mo ⟨v.c, rfl, g5, st mo ?_⟩⟩⟩⟩
    refine ⟨_, fun nn => r_call (t := litT) rfl rfl Tryz.func24 (fun W M E => ih i u v hu hv' W (h8.mono E) (g8.mono E)), st mo ⟨dk, st mo ⟨_, wz (i + 1) rfl, st mo ?_⟩⟩⟩
    exact ⟨i + 1, hil, by dsimp; omega, [0, 1], rfl, ⟨fp, fp, fv, trivial⟩, ⟨fl rfl rfl, fl rfl rfl, trivial⟩, xf, rfl, rfl⟩
  · rfl
theorem same_t : ∀ (d : Nat) (x y : Ex) (w : World), XU d x → LT w d x → LT w d y → ek d x = ek d y → Calls Tryz.prog 24 #[.agg x.c.toArray, .agg y.c.toArray] w fun r W => r = .returned (.bool true) ∧ Mb w W
  | 0, x, y, w, hu, hL, hM, h => by
    obtain ⟨⟨p, cl, a, rfl⟩, ha⟩ := kd_inv h
    have hx : x.a = [] := hL
    have ha0 : a = [] := hM
    exact same_1 (d := 0) x hu p cl a (by rw [hx, ha0]) w hL.up hM.up (fun i u v hu _ => by rw [hx] at hu; cases hu)
  | d + 1, x, y, w, hu, hL, hM, h => by
    obtain ⟨⟨p, cl, a, rfl⟩, ha⟩ := kd_inv h
    have ha : x.a.map (ek d) = a.map (ek d) := ha
    refine same_1 x hu.1 p cl a (by have := congrArg List.length ha; simpa using this.symm) w hL hM (fun i u v hu' hv' W l1 l2 => same_t d u v W (hu.2 u (List.mem_of_getElem? hu')) l1 l2 ?_)
    have h1 : (x.a.map (ek d))[i]? = some (ek d u) := by rw [List.getElem?_map, hu']; rfl
    rw [ha, List.getElem?_map, hv'] at h1
    exact (Option.some.inj h1).symm
end Go.Proofs.YtfmfeipeeedfpaaGreat
namespace Go.Proofs.YtfmfeipeeedfpaaGreat
namespace S
open Go.RowKit (Below)
theorem Mb.tr {a b c : World} (h : Mb a b) (g : Mb b c) : Mb a c := ⟨h.toBelow.trans ⟨g.os, g.tape, g.output, g.size, fun i hi => g.block i (Nat.lt_of_lt_of_le hi h.size)⟩, Nat.le_trans h.dr g.dr⟩
section
variable {P : Program} {w0 : B0} {X : World} {f : FT} {h : HT} {n : Nat} {ops : Array Oper}
theorem Am.mb {k : K} {W W' : World} (g : Am w0 X k W) (m : Mb W W') : Am w0 X k W' :=
  ⟨g.old.trans ⟨m.os, m.tape, m.output, m.size, fun i hi => m.block i (Nat.lt_of_lt_of_le hi g.old.size)⟩, g.own, fun b o h1 h2 => by
    have h3 := g.see b o h1 h2
    rw [m.block b (Array.getElem?_eq_some_iff.1 h3).1]; exact h3, g.out, Nat.le_trans g.sz m.size, g.kp, Nat.le_trans g.dr m.dr⟩
/-- What is known at any moment. -/
structure Qn (w0 : B0) (X : World) (f : FT) (h : HT) (n : Nat) (ops : Array Oper) (k : K) (W : World) (a : Act) : Prop where
  am : Am w0 X k W
  hr : HR k h W (ones n)
  nn : ∀ i, n ≤ i → hget h i = none
  nk : ∀ i, n ≤ i → k i = none
  fr : ∀ t, (∀ (j : Nat) o, ops[j]? = some o → o.dst ≠ some t) → VX k (fget f t) (a.tmps.getD t undef)
/-- What is known of the operations that one waits for. -/
def Qd (ops : Array Oper) (p : Nat → K → World → Value → Prop) (o : Oper) (k : K) (W : World) (a : Act) : Prop := ∀ e ∈ o.after, Region.binds .any e = true → ∀ oj t, ops[e.on]? = some oj → oj.dst = some t → p e.on k W (a.tmps.getD t undef)
def Qs (P : Program) (w0 : B0) (X : World) (f : FT) (h : HT) (n : Nat) (ops : Array Oper) (p : Nat → K → World → Value → Prop) (i : Nat) : Prop := ∀ o, ops[i]? = some o → ∀ (k : K) (W : World) (a : Act) (K' : Act → World → Prop) (Q : Exit → Act → World → Prop), Qn w0 X f h n ops k W a → Qd ops p o k W a →
  (∀ u W', Mb W W' → p i k W' u → K' (a.put o.dst u) W') → if Region.wanted o (yielded ops a.tmps) = true then o.wp P a W K' Q else K' (a.put o.dst undef) W
def dOf (ops : Array Oper) (o : Oper) (j t : Nat) : Bool := o.after.toList.any (fun e => Nat.beq e.on j && Region.binds .any e) && (match ops[j]? with
  | some oj => match oj.dst with
    | some t' => Nat.beq t' t
    | none => false
  | none => false)
theorem Qd.at {p : Nat → K → World → Value → Prop} {o : Oper} {k : K} {W : World} {a : Act} (q : Qd ops p o k W a) (j t : Nat) (hd : dOf ops o j t = true := by rfl) : p j k W (a.tmps.getD t undef) := by
  unfold dOf at hd
  rw [Bool.and_eq_true] at hd
  obtain ⟨h1, h2⟩ := hd
  obtain ⟨e, he, h3⟩ := List.any_eq_true.1 h1
  rw [Bool.and_eq_true, Nat.beq_eq] at h3
  obtain ⟨rfl, hb⟩ := h3
  split at h2
  · rename_i oj hoj
    split at h2
    · rename_i t' ht'
      rw [Nat.beq_eq] at h2
      subst h2
      exact q e (by simpa using he) hb oj t' hoj ht'
    · cases h2
  · cases h2
theorem Qs.sym {p : Nat → K → World → Value → Prop} {i : Nat} (o : Oper) (fr : FT) (v : Value) (r : Nat) (ho : ops[i]? = some o) (hw : ∀ k W a, Qn w0 X f h n ops k W a → Qd ops p o k W a → Region.wanted o (yielded ops a.tmps) = true)
    (hfr : ∀ k W a, Qn w0 X f h n ops k W a → Qd ops p o k W a → ∀ y ∈ o.op.operands.toList, VX k (evo fr y) (a.eval y)) (hOa : (∀ i, n ≤ i → hget h i = none) → Oa (Am w0 X) P o fr h n ⟨v, h, n, r, 0⟩) (hp : ∀ k W u, VX k v u → p i k W u) : Qs P w0 X f h n ops p i := by
  intro o' ho' k W a K' Q qn qd hK
  rw [ho] at ho'; cases ho'
  rw [if_pos (hw k W a qn qd)]
  refine (hOa qn.nn).ok k W a K' Q qn.am (hfr k W a qn qd) (qn.hr.all qn.nn _) (fun i h1 h2 => absurd h2 (Nat.not_lt_of_le h1)) fun u W' k' sd hv => ?_
  have hk : k' = k := funext fun i => sd.dom i (Nat.lt_or_ge i n)
  subst hk
  exact hK u W' ⟨⟨sd.os, sd.tape.1, sd.output, sd.size, fun b hb => sd.frm b hb fun j z hj => absurd hj tb_zero⟩, sd.tape.2⟩ (hp _ _ _ hv)
theorem Qs.call {p : Nat → K → World → Value → Prop} {i : Nat} (o : Oper) (g : FuncId) {fn : Func} {xs : Array Operand} {ts : Array TypeId} (ho : ops[i]? = some o) (hop : o.op = .call { callee := .value (.func g), args := xs, argTypes := ts }) (hf : P.funcs[g]? = some fn) (hw : ∀ k W a, Qn w0 X f h n ops k W a → Qd ops p o k W a → Region.wanted o (yielded ops a.tmps) = true)
    (hc : ∀ k W a, Qn w0 X f h n ops k W a → Qd ops p o k W a → Calls P g (xs.toList.map a.eval).toArray W fun e W' => ∃ u, e = .returned u ∧ Mb W W' ∧ p i k W' u) (hb : callB fn = true := by rfl) : Qs P w0 X f h n ops p i := by
  intro o' ho' k W a K' Q qn qd hK
  rw [ho] at ho'; cases ho'
  rw [if_pos (hw k W a qn qd)]
  unfold Oper.wp
  rw [run_call hop hf hb, Oper.upon_enter]
  refine (hc k W a qn qd).mono ?_
  rintro e W' ⟨u, rfl, hm, hu⟩
  exact hK u W' hm hu
theorem want_n {o : Oper} {a : Act} (hg : o.guard = none) : Region.wanted o (yielded ops a.tmps) = true := by unfold Region.wanted; rw [hg]
theorem Act.put_same {a : Act} {t : Nat} {u : Value} (h : t < a.tmps.size) : (a.put (some t) u).tmps.getD t undef = u := by
  simp [Act.put, Array.getD_eq_getD_getElem?, h]
/-- The slots of a region's operations: each its own, and within the frame. -/
def dsts (ops : Array Oper) (m : Nat) : Bool := ops.toList.all (fun o => match o.dst with
  | some t => Nat.blt t m
  | none => true) && (List.range ops.size).all fun i => (List.range ops.size).all fun j => Nat.beq i j || (match ops[i]?, ops[j]? with
    | some oi, some oj => match oi.dst, oj.dst with
      | some s, some t => !Nat.beq s t
      | _, _ => true
    | _, _ => true)
theorem dsts_lt {m : Nat} (hd : dsts ops m = true) {i : Nat} {o : Oper} (ho : ops[i]? = some o) {t : Nat} (ht : o.dst = some t) : t < m := by
  unfold dsts at hd
  rw [Bool.and_eq_true] at hd
  have := List.all_eq_true.1 hd.1 o (by have := List.mem_of_getElem? (l := ops.toList) (i := i) (by simpa using ho); exact this)
  rw [ht] at this
  rw [Nat.blt_eq] at this
  exact this
theorem dsts_ne {m : Nat} (hd : dsts ops m = true) {i j : Nat} {oi oj : Oper} (hi : ops[i]? = some oi) (hj : ops[j]? = some oj) {t : Nat} (h1 : oi.dst = some t) (h2 : oj.dst = some t) : i = j := by
  unfold dsts at hd
  rw [Bool.and_eq_true] at hd
  have li := (Array.getElem?_eq_some_iff.1 hi).1
  have lj := (Array.getElem?_eq_some_iff.1 hj).1
  have := List.all_eq_true.1 (List.all_eq_true.1 hd.2 i (by simpa using li)) j (by simpa using lj)
  rw [hi, hj] at this
  simp only [h1, h2, Nat.beq_refl, Bool.not_true, Bool.or_false, Nat.beq_eq] at this
  exact this
/-- The region. -/
theorem rq {C : Exit → St → Prop} (hmo : P.follows .mixedOrders = true) {id r0 w1 : Nat} {l0 : List (Nat × Nat)} {op0 : Array Oper} {stk : List It} (p : Nat → K → World → Value → Prop) (hp : ∀ i k W W' u, Mb W W' → p i k W u → p i k W' u) (hs : ∀ i, i < ops.size → Qs P w0 X f h n ops p i) (f' : FT) (hm : f'.m = f.m)
    (hfin : ∀ k W a, Qn w0 X f h n ops k W a → (∀ (i : Nat) o t, ops[i]? = some o → o.dst = some t → p i k W (a.tmps.getD t undef)) → ∀ t, VX k (fget f' t) (a.tmps.getD t undef)) (hr : Rn P w0 C (cf ⟨f', h, n, X⟩ stk)) (hd : dsts ops f.m = true := by kernel_rfl) (he : edgesBack ops = true := by kernel_rfl) :
    Rn P w0 C ⟨op0, [], false, ⟨f, h, n, r0, w1, l0⟩, X, co (.region id ops true) :: stk⟩ := by
  intro nn
  refine ⟨_, rfl, fun h => (by cases h), ?_⟩
  show WC P w0 (.region id ops true) ⟨f, h, n, X⟩ (RnE P w0 C stk)
  intro Q k W a R hK
  refine wp_region_any hmo ?_
  refine wpAny_inv (fun listed a' W' => listed.size = ops.size ∧ Qn w0 X f h n ops k W' a' ∧ a'.tmps.size = f.m ∧ a'.defers = [] ∧ ∀ (i : Nat) o t, ops[i]? = some o → listed.getD i false = true → o.dst = some t → p i k W' (a'.tmps.getD t undef)) he ?_ ?_ _ _ _ _ ?_ ⟨by simp, ⟨?_, ?_, R.nn, R.nk, fun t _ => R.fr.get t⟩, R.fr.m.symm, R.fr.df, fun i o t _ hl => ?_⟩
  · rintro listed a' W' i o ⟨hsz, qn, hts, hdf, hpp⟩ ho hu hall
    refine wpOp_step ho fun K hKK => ?_
    have hin : i < ops.size := (Array.getElem?_eq_some_iff.1 ho).1
    have fin : ∀ u W2, Mb W' W2 → (∀ t, o.dst = some t → p i k W2 u) → K (a'.put o.dst u) W2 := fun u W2 m hu2 => hKK _ _ (by
      have key : ∀ t, o.dst ≠ some t → (a'.put o.dst u).tmps.getD t undef = a'.tmps.getD t undef := fun t ht => put_other ht
      refine ⟨by simpa using hsz, ⟨qn.am.mb m, hr_mb qn.hr m, qn.nn, qn.nk, fun t ht => ?_⟩, ?_, ?_, fun j oj t hj hl ht => ?_⟩
      · rw [key t (ht i o ho)]; exact qn.fr t ht
      · cases h1 : o.dst <;> simp [Act.put, hts]
      · cases h1 : o.dst <;> simp [Act.put, hdf]
      · by_cases hij : j = i
        · subst hij
          rw [ho] at hj; cases hj
          have hlt := dsts_lt hd ho ht
          have h2 := hu2 t ht
          rw [ht, Act.put_same (by rw [hts]; exact hlt)]; exact h2
        · rw [key t (fun h1 => hij (dsts_ne hd hj ho ht h1))]
          refine hp j k W' W2 _ m (hpp j oj t hj ?_ ht)
          have hne : i ≠ j := fun e => hij e.symm
          simpa [Array.getD_eq_getD_getElem?, Array.getElem?_setIfInBounds_ne hne] using hl)
    exact hs i hin o ho k W' a' K Q qn (fun e he2 hb oj t hoj ht => hpp e.on oj t hoj (hall e he2 hb) ht) fun u W2 m hu2 => fin u W2 m fun _ _ => hu2
  · rintro listed a' W' ⟨hsz, qn, hts, hdf, hpp⟩ hall
    have hfr := hfin k W' a' qn fun i o t ho ht => hpp i o t ho (by
      have hin : i < ops.size := (Array.getElem?_eq_some_iff.1 ho).1
      have := hall i hin
      have h2 : i < listed.size := by omega
      simpa [h2] using this) ht
    have R2 : Rl w0 ⟨f', h, n, X⟩ k W' a' := ⟨⟨by rw [hm, hts], hfr, hdf⟩, qn.hr, qn.nn, qn.nk, qn.am⟩
    exact hK .normal _ k W' a' R2 (cf_sem R2.nn hr)
  · simp
  · exact R.am.drew
  · exact hr_mb R.hr ⟨⟨rfl, rfl, rfl, Nat.le_refl _, fun _ _ => rfl⟩, Nat.le_succ _⟩
  · exfalso
    rcases Nat.lt_or_ge i ops.size with h | h <;> simp [h] at hl
end
/-! A call that comes to something in new memory, plainly. -/
theorem CtrX.plain {Y : Type} {P : Program} {W : World} {f : FuncId} {vs : List Value} {t : Y → Value} {F : Y → (Nat → Prop) → World → Prop} (H : ∀ X : World, (∀ b : Nat, X.heap[b]? = W.heap[b]?) → CtrX P X f vs [] 0 0 t (fun _ => []) 0 F) (hp : vs.all pur2 = true) (ht : ∀ y, pur2 (t y) = true) :
    Calls P f (vs.map den2).toArray W fun e W' => ∃ y X2, e = .returned (den2 (t y)) ∧ Mb W W' ∧ (∀ b : Nat, X2.heap[b]? = W'.heap[b]?) ∧ ∃ S, F y S X2 := by
  obtain ⟨X, hXs, hXo, _, hXn⟩ := ex_mask W (fun _ => False)
  have hk0 : ∀ W : World, Ky (fun _ => none) [] 0 W := fun W => ⟨⟨fun i hi => absurd (tb_ones.1 hi) (Nat.not_lt_zero _), fun i j hi => absurd (tb_ones.1 hi) (Nat.not_lt_zero _)⟩, fun i _ => by unfold hget; cases Nat.blt i 4096 <;> rfl, fun _ _ => rfl⟩
  have hv : LR (VX fun _ => none) vs (vs.map den2) := LR.mk (p := pur2) (d := den2) (fun _ h => pur2_vx h) hp
  refine (H X (fun b => hXo b id) W (fun _ => none) _ (hk0 W) ⟨fun b o h1 _ => by rw [← hXo b id]; exact h1, fun i b z h => (by cases h), by rw [hXs]; exact Nat.le_refl _⟩ hv).mono ?_
  rintro e W' ⟨y, u, k', rfl, hu, af, hF⟩
  have hkn : k' = fun _ => none := funext fun i => af.ky.nk i (Nat.zero_le _)
  obtain ⟨X2, hXs2, hXo2, _, hXn2⟩ := ex_mask W' (fun _ => False)
  refine ⟨y, X2, by rw [pur2_eq hu (ht y)], ⟨⟨af.os, af.tape.1, af.output, af.size, fun b hb => af.frm b hb fun j z _ h => by cases h⟩, af.tape.2⟩, fun b => hXo2 b id, ?_⟩
  exact ⟨_, hF X2 fun b o _ h1 _ => ⟨by rw [hXo2 b id]; exact h1, hXn2 b o h1⟩⟩
end S
end Go.Proofs.YtfmfeipeeedfpaaGreat
namespace Go.Proofs.YtfmfeipeeedfpaaGreat
open S Go.RowKit
namespace S
section
variable {P : Program} {w0 : B0} {X : World} {f : FT} {h : HT} {n : Nat} {ops : Array Oper}
def nodB (ops : Array Oper) (t : Nat) : Bool := ops.toList.all fun o => match o.dst with
  | some s => !Nat.beq s t
  | none => true
theorem nodB_at {t : Nat} (hn : nodB ops t = true) (j : Nat) (o : Oper) (ho : ops[j]? = some o) : o.dst ≠ some t := fun e => by
  have := List.all_eq_true.1 hn o (List.mem_of_getElem? (l := ops.toList) (i := j) (by simpa using ho))
  rw [e] at this
  simp at this
/-- An operation whose operands the region leaves alone. -/
theorem Qs.base {p : Nat → K → World → Value → Prop} {i : Nat} (o : Oper) (v : Value) (r : Nat) (ho : ops[i]? = some o) (hw : ∀ k W a, Qn w0 X f h n ops k W a → Qd ops p o k W a → Region.wanted o (yielded ops a.tmps) = true) (hp : ∀ k W u, VX k v u → p i k W u)
    (hs : stepK w0 X P o f h n (fun x => x = ⟨v, h, n, r, 0⟩) (fun x => x = ⟨v, h, n, r, 0⟩))
    (hb : o.op.operands.toList.all (fun y => match y with
      | .tmp t => nodB ops t
      | .const _ => true
      | _ => false) = true := by rfl) : Qs P w0 X f h n ops p i :=
  Qs.sym o f v r ho hw (fun k W a qn _ y hy => by
    have := List.all_eq_true.1 hb y hy
    split at this
    · rename_i t; exact qn.fr t (nodB_at this)
    · exact cst_vx
    · cases this) (fun nn => by
    obtain ⟨x, h1, h2⟩ := stepK_ok nn hs
    have h2 : x = ⟨v, h, n, r, 0⟩ := h2.elim id id
    subst h2; exact h1) hp
def frl (k : K) (a : Act) : List (Nat × Value) → Prop
  | [] => True
  | x :: l => VX k x.2 (a.tmps.getD x.1 undef) ∧ frl k a l
theorem frl_get {k : K} {a : Act} : ∀ {l : List (Nat × Value)}, frl k a l → ∀ t, VX k (look l t) (a.tmps.getD t undef)
  | [], _, _ => unk_vx
  | x :: l, hl, t => by
    simp only [look]
    by_cases e : x.1 = t
    · rw [show Nat.beq x.1 t = true by rw [Nat.beq_eq]; exact e]; subst e; exact hl.1
    · rw [beq_f e]; exact frl_get hl.2 t
end
end S
theorem LT.dp {w : World} : ∀ {d : Nat} {x : Ex}, LT w d x → Dp d x
  | 0, _, h => h
  | d + 1, _, h => fun y hy => by obtain ⟨i, hi⟩ := List.getElem?_of_mem hy; exact (h.2 i y hi).2.dp
/-- A tree that lies there and is what this one folds to. -/
structure TR (e : Ev) (d : Nat) (x : Ex) (W : World) (y : Ex) : Prop where
  l : LT W d y
  u : XU d y
  e : ek d y = fdE e d x
theorem cell_eq {A B : World} (h : ∀ b : Nat, A.heap[b]? = B.heap[b]?) (a : Addr) (u : Value) (hc : A.cell? a = some u) : B.cell? a = some u := by
  unfold World.cell? at hc ⊢; rw [← h]; exact hc
theorem mb_cell {W W' : World} (m : Mb W W') (a : Addr) (u : Value) (hc : W.cell? a = some u) : W'.cell? a = some u := by
  unfold World.cell? at hc ⊢
  split at hc
  · rename_i c ty fz hx
    rw [m.block _ (Array.getElem?_eq_some_iff.1 hx).1, hx]; exact hc
  · cases hc
theorem TR.mb {e : Ev} {d : Nat} {x y : Ex} {W W' : World} (h : TR e d x W y) (m : Mb W W') : TR e d x W' y := ⟨h.l.mono (mb_cell m), h.u, h.e⟩
section
variable {d : Nat} {x : Ex} {tp : Option Addr} {cp : Nat} {tb : List Tb} {w : World}
theorem p_fold' (hu : XU d x) (hb : nds d x ≤ 1000000000) (hL : LT w d x) (he : EvL w (tbV tp cp tb)) : Calls Tryz.prog 25 #[.agg x.c.toArray, .slice tp tb.length cp] w fun r W => ∃ u, r = .returned u ∧ Mb w W ∧ ∃ y, u = .agg y.c.toArray ∧ TR (tbV tp cp tb) d x W y := by
  refine (CtrX.plain (vs := [xY x, raw (.slice tp tb.length cp)]) (fun X hX => p_fold hu hb X (hL.mono (cell_eq fun b => (hX b).symm)) (he.tm (cell_eq fun b => (hX b).symm))) rfl (fun y => rfl)).mono ?_
  rintro e W ⟨y, X2, rfl, m, hX2, S, hF⟩
  exact ⟨_, rfl, m, y, rfl, hF.1.lt.mono (cell_eq hX2), hF.2.1, hF.2.2⟩
theorem q_fold' (hu : XU d x) (hb : nds d x ≤ 1000000000) (hL : LT w d x) (he : EvL w (tbV tp cp tb)) : Calls Tryz.prog 26 #[.agg x.c.toArray, .slice tp tb.length cp] w fun r W => ∃ u, r = .returned u ∧ Mb w W ∧ ∃ y, u = .agg y.c.toArray ∧ TR (tbV tp cp tb) d x W y := by
  refine (CtrX.plain (vs := [xY x, raw (.slice tp tb.length cp)]) (fun X hX => q_fold tp cp tb d x hL.dp hu hb X (he.tm (cell_eq fun b => (hX b).symm)) (hL.mono (cell_eq fun b => (hX b).symm))) rfl (fun y => rfl)).mono ?_
  rintro e W ⟨y, X2, rfl, m, hX2, S, hF⟩
  exact ⟨_, rfl, m, y, rfl, hF.1.lt.mono (cell_eq hX2), hF.2.1, hF.2.2⟩
theorem same_u {e : Ev} {W : World} {y z : Ex} (hy : TR e d x W y) (hz : TR e d x W z) : Calls Tryz.prog 24 #[.agg y.c.toArray, .agg z.c.toArray] W fun r W' => ∃ u, r = .returned u ∧ Mb W W' ∧ u = .bool true :=
  (same_t d y z W hy.u hy.l hz.l (hy.e.trans hz.e.symm)).mono fun _ _ ⟨h1, h2⟩ => ⟨_, h1, h2, rfl⟩
end
/-- What the operations of the law's region come to. -/
def p6 (e : Ev) (d : Nat) (x : Ex) (i : Nat) (_ : K) (W : World) (u : Value) : Prop := match i with
  | 0 => u = .agg x.c.toArray
  | 1 => u = .slice e.tp e.tb.length e.cp
  | 2 => ∃ y, u = .agg y.c.toArray ∧ TR e d x W y
  | 3 => u = .agg x.c.toArray
  | 4 => u = .slice e.tp e.tb.length e.cp
  | 5 => ∃ y, u = .agg y.c.toArray ∧ TR e d x W y
  | _ => u = .bool true
theorem p6_mb (e : Ev) (d : Nat) (x : Ex) (i : Nat) (k : K) (W W' : World) (u : Value) (m : Mb W W') (h : p6 e d x i k W u) : p6 e d x i k W' u := by
  unfold p6 at h ⊢
  split at h
  all_goals first
    | exact h
    | (obtain ⟨y, h1, h2⟩ := h; exact ⟨y, h1, h2.mb m⟩)
set_option maxRecDepth 20000 in
theorem folds_n {d : Nat} {x : Ex} {tp : Option Addr} {cp : Nat} {tb : List Tb} (hu : XU d x) (w : World) (hL : LT w d x) (he : EvL w (tbV tp cp tb)) (hb : nds d x ≤ 1000000000) : Calls Tryz.prog 6 #[.agg x.c.toArray, .slice tp tb.length cp] w fun r W => r = .returned (.bool true) ∧ Mb w W := by
  refine fn_pure [.agg (x.c.map rel1).toArray, raw (.slice tp tb.length cp)] Tryz.func6 rfl rfl rfl (run_ok (st mo ?_))
  cases hf : decide (szX 60 x ≤ 2000) with
  | false =>
    refine ⟨_, fun nn => r_call (t := litF) rfl rfl Tryz.func10 (fun W M E => u_fits hf (hL.mono E)), st mo ?_⟩
    exact ⟨_, fun nn => r_call (t := litT) rfl rfl Tryz.func11 (fun W M E => u_live W), st mo rfl⟩
  | true =>
    refine ⟨_, fun nn => r_call (t := litT) rfl rfl Tryz.func10 (fun W M E => u_fits hf (hL.mono E)), su 3 mo ?_⟩
    refine ⟨_, fun nn => r_call (t := litT) rfl rfl Tryz.func11 (fun W M E => u_live W), su 3 mo ?_⟩
    show Rn _ _ _ _
    refine rq mo (p6 (tbV tp cp tb) d x) (p6_mb _ d x) ?_ ⟨20, [(4, .bool true)]⟩ rfl (fun k W a qn hpp => frl_get ⟨?_, trivial⟩) (st mo rfl)
    · intro i hi
      match i, hi with
      | 0, _ => exact Qs.base _ (xY x) (bit 0) rfl (fun _ _ _ _ _ => want_n rfl) (fun k W u hv => pur2_eq hv rfl) rfl
      | 1, _ => exact Qs.base _ (raw (.slice tp tb.length cp)) 0 rfl (fun _ _ _ _ _ => want_n rfl) (fun k W u hv => pur2_eq hv rfl) rfl
      | 2, _ =>
        refine Qs.call _ 25 rfl rfl Tryz.func25 (fun _ _ _ _ _ => want_n rfl) fun k W a qn qd => ?_
        have h0 : a.tmps.getD 13 undef = .agg x.c.toArray := qd.at 0 13
        have h1 : a.tmps.getD 14 undef = .slice tp tb.length cp := qd.at 1 14
        show Calls Tryz.prog 25 #[a.tmps.getD 13 undef, a.tmps.getD 14 undef] W _
        rw [h0, h1]
        exact p_fold' hu hb (hL.mono fun _ _ => qn.am.cell) (he.tm fun _ _ => qn.am.cell)
      | 3, _ => exact Qs.base _ (xY x) (bit 0) rfl (fun _ _ _ _ _ => want_n rfl) (fun k W u hv => pur2_eq hv rfl) rfl
      | 4, _ => exact Qs.base _ (raw (.slice tp tb.length cp)) 0 rfl (fun _ _ _ _ _ => want_n rfl) (fun k W u hv => pur2_eq hv rfl) rfl
      | 5, _ =>
        refine Qs.call _ 26 rfl rfl Tryz.func26 (fun _ _ _ _ _ => want_n rfl) fun k W a qn qd => ?_
        have h0 : a.tmps.getD 16 undef = .agg x.c.toArray := qd.at 3 16
        have h1 : a.tmps.getD 17 undef = .slice tp tb.length cp := qd.at 4 17
        show Calls Tryz.prog 26 #[a.tmps.getD 16 undef, a.tmps.getD 17 undef] W _
        rw [h0, h1]
        exact q_fold' hu hb (hL.mono fun _ _ => qn.am.cell) (he.tm fun _ _ => qn.am.cell)
      | 6, _ =>
        refine Qs.call _ 24 rfl rfl Tryz.func24 (fun _ _ _ _ _ => want_n rfl) fun k W a qn qd => ?_
        obtain ⟨y, h0, hy⟩ : ∃ y : Ex, a.tmps.getD 15 undef = .agg y.c.toArray ∧ TR (tbV tp cp tb) d x W y := qd.at 2 15
        obtain ⟨z, h1, hz⟩ : ∃ y : Ex, a.tmps.getD 18 undef = .agg y.c.toArray ∧ TR (tbV tp cp tb) d x W y := qd.at 5 18
        show Calls Tryz.prog 24 #[a.tmps.getD 15 undef, a.tmps.getD 18 undef] W _
        rw [h0, h1]
        exact same_u hy hz
      | 7, _ =>
        refine Qs.sym _ ⟨20, [(19, .bool true)]⟩ (.bool true) 0 rfl (fun _ _ _ _ _ => want_n rfl) (fun k W a qn qd y hy => ?_) (fun nn => ?_) (fun k W u hv => hv.bool_inv)
        · have h0 : a.tmps.getD 19 undef = .bool true := qd.at 6 19
          simp [Op.operands] at hy
          subst hy
          show VX k (.bool true) (a.tmps.getD 19 undef)
          rw [h0]; exact VX.of0 rfl
        · exact Oo.to (s_move (Or.inr rfl) rfl)
    · have h7 : a.tmps.getD 4 undef = .bool true := hpp 7 _ 4 rfl rfl
      rw [h7]; exact VX.of0 rfl
end Go.Proofs.YtfmfeipeeedfpaaGreat
