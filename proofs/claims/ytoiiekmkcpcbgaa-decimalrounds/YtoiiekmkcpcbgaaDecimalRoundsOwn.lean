/-
  For every decimal, every scale and every policy exciselaw02.DecimalRounds returns true, and its arguments read behind the call as they read before; no conditions.
-/
import Derived.Carry
import Derived.Test.YtoiiekmkcpcbgaaB6
/-
  exciselaw02.DecimalHalves answers true for every number.
-/
namespace Go.Proofs.Ytoiiekmkcpcbgaa
open Go.RowKit
theorem dz_ne {X Y S : Int} (hX : ab X < MM) (hY : ab Y < MM) (h : X ≠ Y) : (decide (X < 0) == decide (Y < 0) && (l0 (ab X) == l0 (ab Y) && (l1 (ab X) == l1 (ab Y) && (l2 (ab X) == l2 (ab Y) && (l3 (ab X) == l3 (ab Y) && S == S))))) = false := by
  cases hh : (decide (X < 0) == decide (Y < 0) && (l0 (ab X) == l0 (ab Y) && (l1 (ab X) == l1 (ab Y) && (l2 (ab X) == l2 (ab Y) && (l3 (ab X) == l3 (ab Y) && S == S))))) with
  | false => rfl
  | true =>
    exfalso
    simp at hh
    obtain ⟨a, b, c, d, e⟩ := hh
    have := nv_inj (ab_nn X) hX (ab_nn Y) hY ⟨b, c, d, e⟩
    have cx := ab_c X
    have cy := ab_c Y
    omega
/-- Where the two halves part, the number lies half-way. -/
theorem halves_mid {u p : Int} {b : Bool} (hb : b = decide (u < 0)) (k : Nat) (hp : p = 10 ^ k) (hne : ro b (ab u) k 1 ≠ ro b (ab u) k 2) : (sv b (ro b (ab u) k 1) + sv b (ro b (ab u) k 2)) * p = 2 * u := by
  have pk : (0 : Int) < p := by rw [hp]; exact Int.pow_pos (by decide)
  unfold ro at *
  rw [← hp] at *
  have hd := Int.mul_ediv_add_emod (ab u) p
  have hr0 := Int.emod_nonneg (ab u) (b := p) (by omega)
  generalize ab u / p = q at *
  generalize hr : ab u % p = r at *
  have h1 : aw b q r p 1 = true ∧ aw b q r p 2 = false ∨ aw b q r p 1 = false ∧ aw b q r p 2 = true := by
    cases e1 : aw b q r p 1 <;> cases e2 : aw b q r p 2 <;> simp [e1, e2] at hne ⊢
  have h2 : r + r = p ∧ aw b q r p 1 = true ∧ aw b q r p 2 = false := by
    unfold aw at h1 ⊢
    by_cases z : r = 0
    · simp [z] at h1
    · by_cases x : p ≤ r + r
      · by_cases y : p < r + r
        · simp [z, x, y] at h1
        · have e : r + r = p := by omega
          simp [z, e] at h1 ⊢
          exact h1
      · have y : ¬ p < r + r := by omega
        have e : ¬ r + r = p := by omega
        simp [z, x, y, e] at h1
  obtain ⟨e, a1, a2⟩ := h2
  rw [a1, a2]
  have cu := ab_c u
  have hq : (q + 1 + q) * p = 2 * ab u := by
    have : (q + 1 + q) * p = p * q + p * q + p := by rw [Int.add_mul, Int.add_mul, Int.one_mul, Int.mul_comm q p]; omega
    rw [this]; omega
  unfold sv
  simp only [if_true, Bool.false_eq_true, if_false, Int.add_zero]
  subst hb
  rcases cu with ⟨c1, c2⟩ | ⟨c1, c2⟩
  · rw [decide_eq_true c1]
    simp only [if_true]
    rw [show -(q + 1) + -q = -(q + 1 + q) by omega, Int.neg_mul, hq]; omega
  · rw [decide_eq_false (by omega)]
    simp only [Bool.false_eq_true, if_false]
    rw [hq]; omega
theorem halves_n (b : Bool) (n s S : Int) (w : World) (hn0 : 0 ≤ n) (hn : n < MM) :
    Calls Try.prog 13 #[dc b n s, .int .i64 S] w fun e w' => e = .returned (.bool true) ∧ Mo w w' := by
  by_cases h : ck b n s = 0
  · cases hS : sc S with
    | false => exact halves_e1 _ _ _ _ _ _ _ _ _ _ _ _ _ _ _ _ _ _ S 21 21 w (fun w => rescale_e2 b n s S 1 w hn0 hn h hS) (fun w => rescale_e2 b n s S 2 w hn0 hn h hS) rfl
    | true =>
      obtain ⟨hs, u, rfl, rfl⟩ := dz_of hn0 h
      have r1 := fun w => rescale_z u s S 1 w hn hs hS (by decide) (by decide)
      have r2 := fun w => rescale_z u s S 2 w hn hs hS (by decide) (by decide)
      by_cases h1 : ab (rsV u s S 1) < MM
      · rw [fz_yes h1] at r1
        by_cases h2 : ab (rsV u s S 2) < MM
        · rw [fz_yes h2] at r2
          by_cases hne : rsV u s S 1 = rsV u s S 2
          · rw [← hne] at r2
            exact halves_same _ _ _ _ _ _ _ _ _ _ _ _ S w r1 r2
          · obtain ⟨s0, s1⟩ := sc_iff.1 hs
            obtain ⟨S0, S1⟩ := sc_iff.1 hS
            have hlt : S < s := by
              rcases Int.lt_or_le S s with hh | hh
              · exact hh
              · exfalso; apply hne; unfold rsV; rw [if_neg (by omega), if_neg (by omega)]
            have hk : s - S = ((s - S).toNat : Int) := by omega
            have hmid := halves_mid (u := u) (p := pw (s - S)) rfl (s - S).toNat rfl (by
              intro e; apply hne; unfold rsV; rw [if_pos hlt, if_pos hlt, e])
            have e1 : rsV u s S 1 = sv (decide (u < 0)) (ro (decide (u < 0)) (ab u) (s - S).toNat 1) := by unfold rsV; rw [if_pos hlt]
            have e2 : rsV u s S 2 = sv (decide (u < 0)) (ro (decide (u < 0)) (ab u) (s - S).toNat 2) := by unfold rsV; rw [if_pos hlt]
            rw [← e1, ← e2] at hmid
            have d1 := fun w => sub_z u s (rsV u s S 2) S w hn h2 hs hS
            have d2 := fun w => sub_z (rsV u s S 1) S u s w h1 hn hS hs
            have m1 : max s S = s := by omega
            have m2 : max S s = s := by omega
            have ev : addV (rsV u s S 1) S (-u) s = addV u s (-(rsV u s S 2)) S := by
              unfold addV
              rw [m1, m2, Int.sub_self, pw_zero, Int.mul_one, Int.mul_one, Int.neg_mul]
              rw [Int.add_mul] at hmid
              omega
            rw [ev, m2] at d2
            rw [m1] at d1
            by_cases hr : ab (addV u s (-(rsV u s S 2)) S) < MM
            · rw [fz_yes hr] at d1 d2
              have k1 := fun w => cmp_z (addV u s (-(rsV u s S 2)) S) s (addV u s (-(rsV u s S 2)) S) s w hr hr hs hs
              rw [cm_self] at k1
              exact halves_ok _ _ _ _ _ _ _ _ _ _ _ _ _ _ _ _ _ _ _ _ _ _ _ _ _ _ _ _ _ _ S w r1 r2 (dz_ne h1 h2 hne) d1 d2 k1
            · rw [fz_no hr] at d1 d2
              exact halves_o1 _ _ _ _ _ _ _ _ _ _ _ _ _ _ _ _ _ _ _ _ _ _ _ _ _ _ _ _ _ _ S 7 w r1 r2 (dz_ne h1 h2 hne) d1 d2
        · rw [fz_no h2] at r2
          exact halves_e2 _ _ _ _ _ _ _ _ _ _ _ _ _ _ _ _ _ _ S 7 w r1 r2 rfl
      · rw [fz_no h1] at r1
        obtain ⟨b', p0, p1, p2, p3, p4, g, hM⟩ := isD_fz (rsV u s S 2) S
        rw [hM] at r2
        exact halves_e1 _ _ _ _ _ _ _ _ _ _ _ _ _ _ _ _ _ _ S 7 g w r1 r2 rfl
  · exact halves_e1 _ _ _ _ _ _ _ _ _ _ _ _ _ _ _ _ _ _ S 20 20 w (fun w => rescale_e1 b n s S 1 w hn0 hn h) (fun w => rescale_e1 b n s S 2 w hn0 hn h) rfl
end Go.Proofs.Ytoiiekmkcpcbgaa
/-
  DecimalRounds, out of what the functions answer.
-/
namespace Go.Proofs.Ytoiiekmkcpcbgaa
open Go.RowKit
theorem rounds_err (a_b : Bool) (a_0 a_1 a_2 a_3 a_s : Int) (x_b : Bool) (x_0 x_1 x_2 x_3 x_s : Int) (S p e : Int) (w : World) (h1 : ∀ w, Calls Try.prog 43 #[rd a_b a_0 a_1 a_2 a_3 a_s, .int .i64 S, .int .i64 p] w fun e' w' => e' = .returned (.tuple #[rd x_b x_0 x_1 x_2 x_3 x_s, .int .i64 e]) ∧ Mo w w') (he : (e == 0) = false) :
    Calls Try.prog 12 #[rd a_b a_0 a_1 a_2 a_3 a_s, .int .i64 S, .int .i64 p] w fun e' w' => e' = .returned (.bool true) ∧ Mo w w' := by
  refine w_enter 112 Try.func12 Try.ntmps12 rfl rfl ?_
  have M : Mo w w := Mo.refl _
  refine w_seq ?_
  refine w_reg ?_
  refine wl_box 40 (.tmp 0) (rd a_b a_0 a_1 a_2 a_3 a_s) ((rda a_b a_0 a_1 a_2 a_3 a_s)) rfl rfl (fun _ => by kernel_rfl) rfl ?_
  intro k1 w1 hk hz hq Q1
  have N_k1 : w.heap.size ≤ k1 := by have := M.size; omega
  replace M := M.trans hq
  clear hk hz hq
  refine wl_mv (.const (.bool false)) (.bool false) (fun _ => rfl) rfl rfl ?_
  refine w_nil ?_
  refine xn_then ?_
  refine w_seq ?_
  refine w_reg ?_
  refine wl_load 40 (.tmp 3) (pt k1 0) (rd a_b a_0 a_1 a_2 a_3 a_s) rfl rfl (run_row Q1 40 0 6 (rdl a_b a_0 a_1 a_2 a_3 a_s) rfl Try.underlying40 rfl sz40) rfl ?_
  refine wl_mv (.tmp 1) (.int .i64 S) (fun _ => rfl) rfl rfl ?_
  refine wl_mv (.tmp 2) (.int .i64 p) (fun _ => rfl) rfl rfl ?_
  refine wl_call 43 [(.tmp 16), (.tmp 17), (.tmp 18)] _ [rd a_b a_0 a_1 a_2 a_3 a_s, .int .i64 S, .int .i64 p] (.tuple #[rd x_b x_0 x_1 x_2 x_3 x_s, .int .i64 e]) rfl rfl (fun _ _ => by kernel_rfl) (h1 _) rfl ?_
  intro w2 hq
  replace Q1 := Q1.mo hq
  replace M := M.trans hq
  clear hq
  refine wl_mv (.tmp 19) (.tuple #[rd x_b x_0 x_1 x_2 x_3 x_s, .int .i64 e]) (fun _ => rfl) rfl rfl ?_
  refine wl_un (fun v => Instr.extract v 0) (.tmp 15) (.tuple #[rd x_b x_0 x_1 x_2 x_3 x_s, .int .i64 e]) (rd x_b x_0 x_1 x_2 x_3 x_s) (fun _ => rfl) rfl (by kernel_rfl) rfl ?_
  refine wl_un (fun v => Instr.extract v 1) (.tmp 15) (.tuple #[rd x_b x_0 x_1 x_2 x_3 x_s, .int .i64 e]) (.int .i64 e) (fun _ => rfl) rfl (by kernel_rfl) rfl ?_
  refine wl_alloc 40 #[.bool false, .int .u64 0, .int .u64 0, .int .u64 0, .int .u64 0, .int .i64 0] rfl (fun _ => by kernel_rfl) rfl ?_
  intro k2 w3 hk hz hq Q2
  have ne_k1_k2 : k1 ≠ k2 := by have := Q1.lt; omega
  have N_k2 : w.heap.size ≤ k2 := by have := M.size; omega
  replace Q1 := Q1.mo hq
  replace M := M.trans hq
  clear hk hz hq
  refine wl_st 40 (.tmp 7) (.tmp 20) k2 0 (rda x_b x_0 x_1 x_2 x_3 x_s) [.bool false, .int .u64 0, .int .u64 0, .int .u64 0, .int .u64 0, .int .i64 0] (rdl x_b x_0 x_1 x_2 x_3 x_s) Q2 rfl rfl rfl rfl rfl sz40 rfl rfl rfl ?_
  intro w4 hS Qn
  replace Q2 := Qn
  clear Qn
  replace Q1 := hS.other _ _ ne_k1_k2 Q1
  replace M := hS.mo _ N_k2 M
  clear hS
  refine wl_mv (.tmp 21) (.int .i64 e) (fun _ => rfl) rfl rfl ?_
  refine w_nil ?_
  refine xn_then ?_
  refine w_seq ?_
  refine w_seq ?_
  refine w_reg ?_
  refine wl_call 28 [] _ [] (.bool true) rfl rfl (fun _ _ => by kernel_rfl) (begun_n _) rfl ?_
  intro w5 hq
  replace Q1 := Q1.mo hq
  replace Q2 := Q2.mo hq
  replace M := M.trans hq
  clear hq
  refine wl_un (fun v => Op.unary .not v) (.tmp 22) (.bool true) (.bool false) (fun _ => rfl) rfl (by kernel_rfl) rfl ?_
  refine wl_mv (.tmp 23) (.bool false) (fun _ => rfl) rfl rfl ?_
  refine wl_mv (.tmp 8) (.int .i64 e) (fun _ => rfl) rfl rfl ?_
  refine wl_bin (fun x y => do eqGuard .neq 32 (.tmp 25) (.const (.int .i64 (0))) x y; binOp .neq 32 x y) (.tmp 25) (.const (.int .i64 (0))) (.int .i64 e) (.int .i64 (0)) (.bool true) (fun _ => rfl) rfl rfl (neq32_run he _ _ _) rfl ?_
  refine wl_pick (.tmp 24) (.const (.bool true)) (.tmp 26) false (.bool true) (fun _ => rfl) rfl rfl rfl ?_
  refine w_nil ?_
  refine xn_then ?_
  refine w_condT rfl ?_
  refine w_seq ?_
  refine w_reg ?_
  refine wl_call 28 [] _ [] (.bool true) rfl rfl (fun _ _ => by kernel_rfl) (begun_n _) rfl ?_
  intro w6 hq
  replace Q1 := Q1.mo hq
  replace Q2 := Q2.mo hq
  replace M := M.trans hq
  clear hq
  refine wl_mv (.tmp 28) (.bool true) (fun _ => rfl) rfl rfl ?_
  refine w_nil ?_
  refine xn_then ?_
  refine w_ret ?_
  refine xr_then ?_
  exact w_ret1 _ (.bool true) rfl rfl ⟨rfl, M⟩
theorem rounds_over (a_b : Bool) (a_0 a_1 a_2 a_3 a_s : Int) (d_b : Bool) (d_0 d_1 d_2 d_3 d_s : Int) (x_b : Bool) (x_0 x_1 x_2 x_3 : Int) (S : Int) (p : Int) (w : World) (h1 : ∀ w, Calls Try.prog 43 #[rd a_b a_0 a_1 a_2 a_3 a_s, .int .i64 S, .int .i64 p] w fun e' w' => e' = .returned (.tuple #[rd x_b x_0 x_1 x_2 x_3 S, .int .i64 (0)]) ∧ Mo w w') (h2 : ∀ w, Calls Try.prog 43 #[rd x_b x_0 x_1 x_2 x_3 S, .int .i64 S, .int .i64 p] w fun e' w' => e' = .returned (.tuple #[rd x_b x_0 x_1 x_2 x_3 S, .int .i64 (0)]) ∧ Mo w w') (h3 : ∀ w, Calls Try.prog 37 #[rd x_b x_0 x_1 x_2 x_3 S, rd a_b a_0 a_1 a_2 a_3 a_s] w fun e' w' => e' = .returned (.tuple #[rd d_b d_0 d_1 d_2 d_3 d_s, .int .i64 (7)]) ∧ Mo w w') :
    Calls Try.prog 12 #[rd a_b a_0 a_1 a_2 a_3 a_s, .int .i64 S, .int .i64 p] w fun e' w' => e' = .returned (.bool true) ∧ Mo w w' := by
  refine w_enter 112 Try.func12 Try.ntmps12 rfl rfl ?_
  have M : Mo w w := Mo.refl _
  refine w_seq ?_
  refine w_reg ?_
  refine wl_box 40 (.tmp 0) (rd a_b a_0 a_1 a_2 a_3 a_s) ((rda a_b a_0 a_1 a_2 a_3 a_s)) rfl rfl (fun _ => by kernel_rfl) rfl ?_
  intro k1 w1 hk hz hq Q1
  have N_k1 : w.heap.size ≤ k1 := by have := M.size; omega
  replace M := M.trans hq
  clear hk hz hq
  refine wl_mv (.const (.bool false)) (.bool false) (fun _ => rfl) rfl rfl ?_
  refine w_nil ?_
  refine xn_then ?_
  refine w_seq ?_
  refine w_reg ?_
  refine wl_load 40 (.tmp 3) (pt k1 0) (rd a_b a_0 a_1 a_2 a_3 a_s) rfl rfl (run_row Q1 40 0 6 (rdl a_b a_0 a_1 a_2 a_3 a_s) rfl Try.underlying40 rfl sz40) rfl ?_
  refine wl_mv (.tmp 1) (.int .i64 S) (fun _ => rfl) rfl rfl ?_
  refine wl_mv (.tmp 2) (.int .i64 p) (fun _ => rfl) rfl rfl ?_
  refine wl_call 43 [(.tmp 16), (.tmp 17), (.tmp 18)] _ [rd a_b a_0 a_1 a_2 a_3 a_s, .int .i64 S, .int .i64 p] (.tuple #[rd x_b x_0 x_1 x_2 x_3 S, .int .i64 (0)]) rfl rfl (fun _ _ => by kernel_rfl) (h1 _) rfl ?_
  intro w2 hq
  replace Q1 := Q1.mo hq
  replace M := M.trans hq
  clear hq
  refine wl_mv (.tmp 19) (.tuple #[rd x_b x_0 x_1 x_2 x_3 S, .int .i64 (0)]) (fun _ => rfl) rfl rfl ?_
  refine wl_un (fun v => Instr.extract v 0) (.tmp 15) (.tuple #[rd x_b x_0 x_1 x_2 x_3 S, .int .i64 (0)]) (rd x_b x_0 x_1 x_2 x_3 S) (fun _ => rfl) rfl (by kernel_rfl) rfl ?_
  refine wl_un (fun v => Instr.extract v 1) (.tmp 15) (.tuple #[rd x_b x_0 x_1 x_2 x_3 S, .int .i64 (0)]) (.int .i64 (0)) (fun _ => rfl) rfl (by kernel_rfl) rfl ?_
  refine wl_alloc 40 #[.bool false, .int .u64 0, .int .u64 0, .int .u64 0, .int .u64 0, .int .i64 0] rfl (fun _ => by kernel_rfl) rfl ?_
  intro k2 w3 hk hz hq Q2
  have ne_k1_k2 : k1 ≠ k2 := by have := Q1.lt; omega
  have N_k2 : w.heap.size ≤ k2 := by have := M.size; omega
  replace Q1 := Q1.mo hq
  replace M := M.trans hq
  clear hk hz hq
  refine wl_st 40 (.tmp 7) (.tmp 20) k2 0 (rda x_b x_0 x_1 x_2 x_3 S) [.bool false, .int .u64 0, .int .u64 0, .int .u64 0, .int .u64 0, .int .i64 0] (rdl x_b x_0 x_1 x_2 x_3 S) Q2 rfl rfl rfl rfl rfl sz40 rfl rfl rfl ?_
  intro w4 hS Qn
  replace Q2 := Qn
  clear Qn
  replace Q1 := hS.other _ _ ne_k1_k2 Q1
  replace M := hS.mo _ N_k2 M
  clear hS
  refine wl_mv (.tmp 21) (.int .i64 (0)) (fun _ => rfl) rfl rfl ?_
  refine w_nil ?_
  refine xn_then ?_
  refine w_seq ?_
  refine w_seq ?_
  refine w_reg ?_
  refine wl_call 28 [] _ [] (.bool true) rfl rfl (fun _ _ => by kernel_rfl) (begun_n _) rfl ?_
  intro w5 hq
  replace Q1 := Q1.mo hq
  replace Q2 := Q2.mo hq
  replace M := M.trans hq
  clear hq
  refine wl_un (fun v => Op.unary .not v) (.tmp 22) (.bool true) (.bool false) (fun _ => rfl) rfl (by kernel_rfl) rfl ?_
  refine wl_mv (.tmp 23) (.bool false) (fun _ => rfl) rfl rfl ?_
  refine wl_mv (.tmp 8) (.int .i64 (0)) (fun _ => rfl) rfl rfl ?_
  refine wl_bin (fun x y => do eqGuard .neq 32 (.tmp 25) (.const (.int .i64 (0))) x y; binOp .neq 32 x y) (.tmp 25) (.const (.int .i64 (0))) (.int .i64 (0)) (.int .i64 (0)) (.bool false) (fun _ => rfl) rfl rfl (by kernel_rfl) rfl ?_
  refine wl_pick (.tmp 24) (.const (.bool true)) (.tmp 26) false (.bool false) (fun _ => rfl) rfl rfl rfl ?_
  refine w_nil ?_
  refine xn_then ?_
  refine w_condF rfl ?_
  refine w_skip ?_
  refine xn_then ?_
  refine w_seq ?_
  refine w_reg ?_
  refine wl_load 40 (.tmp 7) (pt k2 0) (rd x_b x_0 x_1 x_2 x_3 S) rfl rfl (run_row Q2 40 0 6 (rdl x_b x_0 x_1 x_2 x_3 S) rfl Try.underlying40 rfl sz40) rfl ?_
  refine wl_mv (.tmp 1) (.int .i64 S) (fun _ => rfl) rfl rfl ?_
  refine wl_mv (.tmp 2) (.int .i64 p) (fun _ => rfl) rfl rfl ?_
  refine wl_call 43 [(.tmp 30), (.tmp 31), (.tmp 32)] _ [rd x_b x_0 x_1 x_2 x_3 S, .int .i64 S, .int .i64 p] (.tuple #[rd x_b x_0 x_1 x_2 x_3 S, .int .i64 (0)]) rfl rfl (fun _ _ => by kernel_rfl) (h2 _) rfl ?_
  intro w6 hq
  replace Q1 := Q1.mo hq
  replace Q2 := Q2.mo hq
  replace M := M.trans hq
  clear hq
  refine wl_mv (.tmp 33) (.tuple #[rd x_b x_0 x_1 x_2 x_3 S, .int .i64 (0)]) (fun _ => rfl) rfl rfl ?_
  refine wl_un (fun v => Instr.extract v 0) (.tmp 29) (.tuple #[rd x_b x_0 x_1 x_2 x_3 S, .int .i64 (0)]) (rd x_b x_0 x_1 x_2 x_3 S) (fun _ => rfl) rfl (by kernel_rfl) rfl ?_
  refine wl_un (fun v => Instr.extract v 1) (.tmp 29) (.tuple #[rd x_b x_0 x_1 x_2 x_3 S, .int .i64 (0)]) (.int .i64 (0)) (fun _ => rfl) rfl (by kernel_rfl) rfl ?_
  refine wl_alloc 40 #[.bool false, .int .u64 0, .int .u64 0, .int .u64 0, .int .u64 0, .int .i64 0] rfl (fun _ => by kernel_rfl) rfl ?_
  intro k3 w7 hk hz hq Q3
  have ne_k1_k3 : k1 ≠ k3 := by have := Q1.lt; omega
  have ne_k2_k3 : k2 ≠ k3 := by have := Q2.lt; omega
  have N_k3 : w.heap.size ≤ k3 := by have := M.size; omega
  replace Q1 := Q1.mo hq
  replace Q2 := Q2.mo hq
  replace M := M.trans hq
  clear hk hz hq
  refine wl_st 40 (.tmp 9) (.tmp 34) k3 0 (rda x_b x_0 x_1 x_2 x_3 S) [.bool false, .int .u64 0, .int .u64 0, .int .u64 0, .int .u64 0, .int .i64 0] (rdl x_b x_0 x_1 x_2 x_3 S) Q3 rfl rfl rfl rfl rfl sz40 rfl rfl rfl ?_
  intro w8 hS Qn
  replace Q3 := Qn
  clear Qn
  replace Q1 := hS.other _ _ ne_k1_k3 Q1
  replace Q2 := hS.other _ _ ne_k2_k3 Q2
  replace M := hS.mo _ N_k3 M
  clear hS
  refine wl_mv (.tmp 35) (.int .i64 (0)) (fun _ => rfl) rfl rfl ?_
  refine w_nil ?_
  refine xn_then ?_
  refine w_seq ?_
  refine w_seq ?_
  refine w_reg ?_
  refine wl_load 40 (.tmp 9) (pt k3 0) (rd x_b x_0 x_1 x_2 x_3 S) rfl rfl (run_row Q3 40 0 6 (rdl x_b x_0 x_1 x_2 x_3 S) rfl Try.underlying40 rfl sz40) rfl ?_
  refine wl_load 40 (.tmp 7) (pt k2 0) (rd x_b x_0 x_1 x_2 x_3 S) rfl rfl (run_row Q2 40 0 6 (rdl x_b x_0 x_1 x_2 x_3 S) rfl Try.underlying40 rfl sz40) rfl ?_
  refine wl_bin (fun x y => do eqGuard .neq 40 (.tmp 36) (.tmp 37) x y; binOp .neq 40 x y) (.tmp 36) (.tmp 37) (rd x_b x_0 x_1 x_2 x_3 S) (rd x_b x_0 x_1 x_2 x_3 S) (.bool false) (fun _ => rfl) rfl rfl (ned_run (self6 _ _ _ _ _ _) _ _ _) rfl ?_
  refine wl_mv (.tmp 38) (.bool false) (fun _ => rfl) rfl rfl ?_
  refine wl_mv (.tmp 10) (.int .i64 (0)) (fun _ => rfl) rfl rfl ?_
  refine wl_bin (fun x y => do eqGuard .neq 32 (.tmp 40) (.const (.int .i64 (0))) x y; binOp .neq 32 x y) (.tmp 40) (.const (.int .i64 (0))) (.int .i64 (0)) (.int .i64 (0)) (.bool false) (fun _ => rfl) rfl rfl (by kernel_rfl) rfl ?_
  refine wl_pick (.tmp 39) (.const (.bool true)) (.tmp 41) false (.bool false) (fun _ => rfl) rfl rfl rfl ?_
  refine wl_mv (.tmp 42) (.bool false) (fun _ => rfl) rfl rfl ?_
  refine wl_un (fun v => Instr.fieldAt 40 v 2) (.tmp 7) (pt k2 0) (pt k2 5) (fun _ => rfl) rfl (by kernel_rfl) rfl ?_
  refine wl_load 3 (.tmp 44) (pt k2 5) (.int .i64 S) rfl rfl (run_one Q2 3 5 rfl Try.underlying3 rfl) rfl ?_
  refine wl_mv (.tmp 1) (.int .i64 S) (fun _ => rfl) rfl rfl ?_
  refine wl_bin (fun x y => do eqGuard .neq 3 (.tmp 45) (.tmp 46) x y; binOp .neq 3 x y) (.tmp 45) (.tmp 46) (.int .i64 S) (.int .i64 S) (.bool false) (fun _ => rfl) rfl rfl (neq3_run (by simp) _ _ _) rfl ?_
  refine wl_pick (.tmp 43) (.const (.bool true)) (.tmp 47) false (.bool false) (fun _ => rfl) rfl rfl rfl ?_
  refine w_nil ?_
  refine xn_then ?_
  refine w_condF rfl ?_
  refine w_skip ?_
  refine xn_then ?_
  refine w_seq ?_
  refine w_reg ?_
  refine wl_load 40 (.tmp 7) (pt k2 0) (rd x_b x_0 x_1 x_2 x_3 S) rfl rfl (run_row Q2 40 0 6 (rdl x_b x_0 x_1 x_2 x_3 S) rfl Try.underlying40 rfl sz40) rfl ?_
  refine wl_load 40 (.tmp 3) (pt k1 0) (rd a_b a_0 a_1 a_2 a_3 a_s) rfl rfl (run_row Q1 40 0 6 (rdl a_b a_0 a_1 a_2 a_3 a_s) rfl Try.underlying40 rfl sz40) rfl ?_
  refine wl_call 37 [(.tmp 50), (.tmp 51)] _ [rd x_b x_0 x_1 x_2 x_3 S, rd a_b a_0 a_1 a_2 a_3 a_s] (.tuple #[rd d_b d_0 d_1 d_2 d_3 d_s, .int .i64 (7)]) rfl rfl (fun _ _ => by kernel_rfl) (h3 _) rfl ?_
  intro w9 hq
  replace Q1 := Q1.mo hq
  replace Q2 := Q2.mo hq
  replace Q3 := Q3.mo hq
  replace M := M.trans hq
  clear hq
  refine wl_mv (.tmp 52) (.tuple #[rd d_b d_0 d_1 d_2 d_3 d_s, .int .i64 (7)]) (fun _ => rfl) rfl rfl ?_
  refine wl_un (fun v => Instr.extract v 0) (.tmp 49) (.tuple #[rd d_b d_0 d_1 d_2 d_3 d_s, .int .i64 (7)]) (rd d_b d_0 d_1 d_2 d_3 d_s) (fun _ => rfl) rfl (by kernel_rfl) rfl ?_
  refine wl_un (fun v => Instr.extract v 1) (.tmp 49) (.tuple #[rd d_b d_0 d_1 d_2 d_3 d_s, .int .i64 (7)]) (.int .i64 (7)) (fun _ => rfl) rfl (by kernel_rfl) rfl ?_
  refine wl_alloc 40 #[.bool false, .int .u64 0, .int .u64 0, .int .u64 0, .int .u64 0, .int .i64 0] rfl (fun _ => by kernel_rfl) rfl ?_
  intro k4 w10 hk hz hq Q4
  have ne_k1_k4 : k1 ≠ k4 := by have := Q1.lt; omega
  have ne_k2_k4 : k2 ≠ k4 := by have := Q2.lt; omega
  have ne_k3_k4 : k3 ≠ k4 := by have := Q3.lt; omega
  have N_k4 : w.heap.size ≤ k4 := by have := M.size; omega
  replace Q1 := Q1.mo hq
  replace Q2 := Q2.mo hq
  replace Q3 := Q3.mo hq
  replace M := M.trans hq
  clear hk hz hq
  refine wl_st 40 (.tmp 11) (.tmp 53) k4 0 (rda d_b d_0 d_1 d_2 d_3 d_s) [.bool false, .int .u64 0, .int .u64 0, .int .u64 0, .int .u64 0, .int .i64 0] (rdl d_b d_0 d_1 d_2 d_3 d_s) Q4 rfl rfl rfl rfl rfl sz40 rfl rfl rfl ?_
  intro w11 hS Qn
  replace Q4 := Qn
  clear Qn
  replace Q1 := hS.other _ _ ne_k1_k4 Q1
  replace Q2 := hS.other _ _ ne_k2_k4 Q2
  replace Q3 := hS.other _ _ ne_k3_k4 Q3
  replace M := hS.mo _ N_k4 M
  clear hS
  refine wl_mv (.tmp 54) (.int .i64 (7)) (fun _ => rfl) rfl rfl ?_
  refine w_nil ?_
  refine xn_then ?_
  refine w_seq ?_
  refine w_seq ?_
  refine w_reg ?_
  refine wl_mv (.tmp 8) (.int .i64 (7)) (fun _ => rfl) rfl rfl ?_
  refine wl_bin (fun x y => do eqGuard .eql 32 (.tmp 55) (.const (.int .i64 (7))) x y; binOp .eql 32 x y) (.tmp 55) (.const (.int .i64 (7))) (.int .i64 (7)) (.int .i64 (7)) (.bool true) (fun _ => rfl) rfl rfl (by kernel_rfl) rfl ?_
  refine w_nil ?_
  refine xn_then ?_
  refine w_condT rfl ?_
  refine w_seq ?_
  refine w_reg ?_
  refine wl_mv (.const (.bool true)) (.bool true) (fun _ => rfl) rfl rfl ?_
  refine w_nil ?_
  refine xn_then ?_
  refine w_ret ?_
  refine xr_then ?_
  exact w_ret1 _ (.bool true) rfl rfl ⟨rfl, M⟩
theorem rounds_ge_p (a_b : Bool) (a_0 a_1 a_2 a_3 a_s : Int) (d_b : Bool) (d_0 d_1 d_2 d_3 d_s : Int) (q_b : Bool) (q_0 q_1 q_2 q_3 q_s : Int) (o_b : Bool) (o_0 o_1 o_2 o_3 o_s : Int) (x_b : Bool) (x_0 x_1 x_2 x_3 : Int) (S : Int) (p : Int) (w : World) (h1 : ∀ w, Calls Try.prog 43 #[rd a_b a_0 a_1 a_2 a_3 a_s, .int .i64 S, .int .i64 p] w fun e' w' => e' = .returned (.tuple #[rd x_b x_0 x_1 x_2 x_3 S, .int .i64 (0)]) ∧ Mo w w') (h2 : ∀ w, Calls Try.prog 43 #[rd x_b x_0 x_1 x_2 x_3 S, .int .i64 S, .int .i64 p] w fun e' w' => e' = .returned (.tuple #[rd x_b x_0 x_1 x_2 x_3 S, .int .i64 (0)]) ∧ Mo w w') (h3 : ∀ w, Calls Try.prog 37 #[rd x_b x_0 x_1 x_2 x_3 S, rd a_b a_0 a_1 a_2 a_3 a_s] w fun e' w' => e' = .returned (.tuple #[rd d_b d_0 d_1 d_2 d_3 d_s, .int .i64 (0)]) ∧ Mo w w') (h4 : ∀ w, Calls Try.prog 49 #[rd d_b d_0 d_1 d_2 d_3 d_s] w fun e' w' => e' = .returned (.tuple #[rd q_b q_0 q_1 q_2 q_3 q_s, .int .i64 (0)]) ∧ Mo w w') (h5 : ∀ w, Calls Try.prog 26 #[.int .i64 (1), .int .i64 S] w fun e' w' => e' = .returned (.tuple #[rd o_b o_0 o_1 o_2 o_3 o_s, .int .i64 (0)]) ∧ Mo w w') (h6 : ∀ w, Calls Try.prog 51 #[rd q_b q_0 q_1 q_2 q_3 q_s, rd o_b o_0 o_1 o_2 o_3 o_s] w fun e' w' => e' = .returned (.int .i64 (-1)) ∧ Mo w w') (hge : decide (S ≥ a_s) = true) (h7 : ∀ w, Calls Try.prog 31 #[rd q_b q_0 q_1 q_2 q_3 q_s] w fun e' w' => e' = .returned (.int .i64 (0)) ∧ Mo w w') (hp1 : (p == 1) = false) (hp2 : (p == 2) = false) :
    Calls Try.prog 12 #[rd a_b a_0 a_1 a_2 a_3 a_s, .int .i64 S, .int .i64 p] w fun e' w' => e' = .returned (.bool true) ∧ Mo w w' := by
  refine w_enter 112 Try.func12 Try.ntmps12 rfl rfl ?_
  have M : Mo w w := Mo.refl _
  refine w_seq ?_
  refine w_reg ?_
  refine wl_box 40 (.tmp 0) (rd a_b a_0 a_1 a_2 a_3 a_s) ((rda a_b a_0 a_1 a_2 a_3 a_s)) rfl rfl (fun _ => by kernel_rfl) rfl ?_
  intro k1 w1 hk hz hq Q1
  have N_k1 : w.heap.size ≤ k1 := by have := M.size; omega
  replace M := M.trans hq
  clear hk hz hq
  refine wl_mv (.const (.bool false)) (.bool false) (fun _ => rfl) rfl rfl ?_
  refine w_nil ?_
  refine xn_then ?_
  refine w_seq ?_
  refine w_reg ?_
  refine wl_load 40 (.tmp 3) (pt k1 0) (rd a_b a_0 a_1 a_2 a_3 a_s) rfl rfl (run_row Q1 40 0 6 (rdl a_b a_0 a_1 a_2 a_3 a_s) rfl Try.underlying40 rfl sz40) rfl ?_
  refine wl_mv (.tmp 1) (.int .i64 S) (fun _ => rfl) rfl rfl ?_
  refine wl_mv (.tmp 2) (.int .i64 p) (fun _ => rfl) rfl rfl ?_
  refine wl_call 43 [(.tmp 16), (.tmp 17), (.tmp 18)] _ [rd a_b a_0 a_1 a_2 a_3 a_s, .int .i64 S, .int .i64 p] (.tuple #[rd x_b x_0 x_1 x_2 x_3 S, .int .i64 (0)]) rfl rfl (fun _ _ => by kernel_rfl) (h1 _) rfl ?_
  intro w2 hq
  replace Q1 := Q1.mo hq
  replace M := M.trans hq
  clear hq
  refine wl_mv (.tmp 19) (.tuple #[rd x_b x_0 x_1 x_2 x_3 S, .int .i64 (0)]) (fun _ => rfl) rfl rfl ?_
  refine wl_un (fun v => Instr.extract v 0) (.tmp 15) (.tuple #[rd x_b x_0 x_1 x_2 x_3 S, .int .i64 (0)]) (rd x_b x_0 x_1 x_2 x_3 S) (fun _ => rfl) rfl (by kernel_rfl) rfl ?_
  refine wl_un (fun v => Instr.extract v 1) (.tmp 15) (.tuple #[rd x_b x_0 x_1 x_2 x_3 S, .int .i64 (0)]) (.int .i64 (0)) (fun _ => rfl) rfl (by kernel_rfl) rfl ?_
  refine wl_alloc 40 #[.bool false, .int .u64 0, .int .u64 0, .int .u64 0, .int .u64 0, .int .i64 0] rfl (fun _ => by kernel_rfl) rfl ?_
  intro k2 w3 hk hz hq Q2
  have ne_k1_k2 : k1 ≠ k2 := by have := Q1.lt; omega
  have N_k2 : w.heap.size ≤ k2 := by have := M.size; omega
  replace Q1 := Q1.mo hq
  replace M := M.trans hq
  clear hk hz hq
  refine wl_st 40 (.tmp 7) (.tmp 20) k2 0 (rda x_b x_0 x_1 x_2 x_3 S) [.bool false, .int .u64 0, .int .u64 0, .int .u64 0, .int .u64 0, .int .i64 0] (rdl x_b x_0 x_1 x_2 x_3 S) Q2 rfl rfl rfl rfl rfl sz40 rfl rfl rfl ?_
  intro w4 hS Qn
  replace Q2 := Qn
  clear Qn
  replace Q1 := hS.other _ _ ne_k1_k2 Q1
  replace M := hS.mo _ N_k2 M
  clear hS
  refine wl_mv (.tmp 21) (.int .i64 (0)) (fun _ => rfl) rfl rfl ?_
  refine w_nil ?_
  refine xn_then ?_
  refine w_seq ?_
  refine w_seq ?_
  refine w_reg ?_
  refine wl_call 28 [] _ [] (.bool true) rfl rfl (fun _ _ => by kernel_rfl) (begun_n _) rfl ?_
  intro w5 hq
  replace Q1 := Q1.mo hq
  replace Q2 := Q2.mo hq
  replace M := M.trans hq
  clear hq
  refine wl_un (fun v => Op.unary .not v) (.tmp 22) (.bool true) (.bool false) (fun _ => rfl) rfl (by kernel_rfl) rfl ?_
  refine wl_mv (.tmp 23) (.bool false) (fun _ => rfl) rfl rfl ?_
  refine wl_mv (.tmp 8) (.int .i64 (0)) (fun _ => rfl) rfl rfl ?_
  refine wl_bin (fun x y => do eqGuard .neq 32 (.tmp 25) (.const (.int .i64 (0))) x y; binOp .neq 32 x y) (.tmp 25) (.const (.int .i64 (0))) (.int .i64 (0)) (.int .i64 (0)) (.bool false) (fun _ => rfl) rfl rfl (by kernel_rfl) rfl ?_
  refine wl_pick (.tmp 24) (.const (.bool true)) (.tmp 26) false (.bool false) (fun _ => rfl) rfl rfl rfl ?_
  refine w_nil ?_
  refine xn_then ?_
  refine w_condF rfl ?_
  refine w_skip ?_
  refine xn_then ?_
  refine w_seq ?_
  refine w_reg ?_
  refine wl_load 40 (.tmp 7) (pt k2 0) (rd x_b x_0 x_1 x_2 x_3 S) rfl rfl (run_row Q2 40 0 6 (rdl x_b x_0 x_1 x_2 x_3 S) rfl Try.underlying40 rfl sz40) rfl ?_
  refine wl_mv (.tmp 1) (.int .i64 S) (fun _ => rfl) rfl rfl ?_
  refine wl_mv (.tmp 2) (.int .i64 p) (fun _ => rfl) rfl rfl ?_
  refine wl_call 43 [(.tmp 30), (.tmp 31), (.tmp 32)] _ [rd x_b x_0 x_1 x_2 x_3 S, .int .i64 S, .int .i64 p] (.tuple #[rd x_b x_0 x_1 x_2 x_3 S, .int .i64 (0)]) rfl rfl (fun _ _ => by kernel_rfl) (h2 _) rfl ?_
  intro w6 hq
  replace Q1 := Q1.mo hq
  replace Q2 := Q2.mo hq
  replace M := M.trans hq
  clear hq
  refine wl_mv (.tmp 33) (.tuple #[rd x_b x_0 x_1 x_2 x_3 S, .int .i64 (0)]) (fun _ => rfl) rfl rfl ?_
  refine wl_un (fun v => Instr.extract v 0) (.tmp 29) (.tuple #[rd x_b x_0 x_1 x_2 x_3 S, .int .i64 (0)]) (rd x_b x_0 x_1 x_2 x_3 S) (fun _ => rfl) rfl (by kernel_rfl) rfl ?_
  refine wl_un (fun v => Instr.extract v 1) (.tmp 29) (.tuple #[rd x_b x_0 x_1 x_2 x_3 S, .int .i64 (0)]) (.int .i64 (0)) (fun _ => rfl) rfl (by kernel_rfl) rfl ?_
  refine wl_alloc 40 #[.bool false, .int .u64 0, .int .u64 0, .int .u64 0, .int .u64 0, .int .i64 0] rfl (fun _ => by kernel_rfl) rfl ?_
  intro k3 w7 hk hz hq Q3
  have ne_k1_k3 : k1 ≠ k3 := by have := Q1.lt; omega
  have ne_k2_k3 : k2 ≠ k3 := by have := Q2.lt; omega
  have N_k3 : w.heap.size ≤ k3 := by have := M.size; omega
  replace Q1 := Q1.mo hq
  replace Q2 := Q2.mo hq
  replace M := M.trans hq
  clear hk hz hq
  refine wl_st 40 (.tmp 9) (.tmp 34) k3 0 (rda x_b x_0 x_1 x_2 x_3 S) [.bool false, .int .u64 0, .int .u64 0, .int .u64 0, .int .u64 0, .int .i64 0] (rdl x_b x_0 x_1 x_2 x_3 S) Q3 rfl rfl rfl rfl rfl sz40 rfl rfl rfl ?_
  intro w8 hS Qn
  replace Q3 := Qn
  clear Qn
  replace Q1 := hS.other _ _ ne_k1_k3 Q1
  replace Q2 := hS.other _ _ ne_k2_k3 Q2
  replace M := hS.mo _ N_k3 M
  clear hS
  refine wl_mv (.tmp 35) (.int .i64 (0)) (fun _ => rfl) rfl rfl ?_
  refine w_nil ?_
  refine xn_then ?_
  refine w_seq ?_
  refine w_seq ?_
  refine w_reg ?_
  refine wl_load 40 (.tmp 9) (pt k3 0) (rd x_b x_0 x_1 x_2 x_3 S) rfl rfl (run_row Q3 40 0 6 (rdl x_b x_0 x_1 x_2 x_3 S) rfl Try.underlying40 rfl sz40) rfl ?_
  refine wl_load 40 (.tmp 7) (pt k2 0) (rd x_b x_0 x_1 x_2 x_3 S) rfl rfl (run_row Q2 40 0 6 (rdl x_b x_0 x_1 x_2 x_3 S) rfl Try.underlying40 rfl sz40) rfl ?_
  refine wl_bin (fun x y => do eqGuard .neq 40 (.tmp 36) (.tmp 37) x y; binOp .neq 40 x y) (.tmp 36) (.tmp 37) (rd x_b x_0 x_1 x_2 x_3 S) (rd x_b x_0 x_1 x_2 x_3 S) (.bool false) (fun _ => rfl) rfl rfl (ned_run (self6 _ _ _ _ _ _) _ _ _) rfl ?_
  refine wl_mv (.tmp 38) (.bool false) (fun _ => rfl) rfl rfl ?_
  refine wl_mv (.tmp 10) (.int .i64 (0)) (fun _ => rfl) rfl rfl ?_
  refine wl_bin (fun x y => do eqGuard .neq 32 (.tmp 40) (.const (.int .i64 (0))) x y; binOp .neq 32 x y) (.tmp 40) (.const (.int .i64 (0))) (.int .i64 (0)) (.int .i64 (0)) (.bool false) (fun _ => rfl) rfl rfl (by kernel_rfl) rfl ?_
  refine wl_pick (.tmp 39) (.const (.bool true)) (.tmp 41) false (.bool false) (fun _ => rfl) rfl rfl rfl ?_
  refine wl_mv (.tmp 42) (.bool false) (fun _ => rfl) rfl rfl ?_
  refine wl_un (fun v => Instr.fieldAt 40 v 2) (.tmp 7) (pt k2 0) (pt k2 5) (fun _ => rfl) rfl (by kernel_rfl) rfl ?_
  refine wl_load 3 (.tmp 44) (pt k2 5) (.int .i64 S) rfl rfl (run_one Q2 3 5 rfl Try.underlying3 rfl) rfl ?_
  refine wl_mv (.tmp 1) (.int .i64 S) (fun _ => rfl) rfl rfl ?_
  refine wl_bin (fun x y => do eqGuard .neq 3 (.tmp 45) (.tmp 46) x y; binOp .neq 3 x y) (.tmp 45) (.tmp 46) (.int .i64 S) (.int .i64 S) (.bool false) (fun _ => rfl) rfl rfl (neq3_run (by simp) _ _ _) rfl ?_
  refine wl_pick (.tmp 43) (.const (.bool true)) (.tmp 47) false (.bool false) (fun _ => rfl) rfl rfl rfl ?_
  refine w_nil ?_
  refine xn_then ?_
  refine w_condF rfl ?_
  refine w_skip ?_
  refine xn_then ?_
  refine w_seq ?_
  refine w_reg ?_
  refine wl_load 40 (.tmp 7) (pt k2 0) (rd x_b x_0 x_1 x_2 x_3 S) rfl rfl (run_row Q2 40 0 6 (rdl x_b x_0 x_1 x_2 x_3 S) rfl Try.underlying40 rfl sz40) rfl ?_
  refine wl_load 40 (.tmp 3) (pt k1 0) (rd a_b a_0 a_1 a_2 a_3 a_s) rfl rfl (run_row Q1 40 0 6 (rdl a_b a_0 a_1 a_2 a_3 a_s) rfl Try.underlying40 rfl sz40) rfl ?_
  refine wl_call 37 [(.tmp 50), (.tmp 51)] _ [rd x_b x_0 x_1 x_2 x_3 S, rd a_b a_0 a_1 a_2 a_3 a_s] (.tuple #[rd d_b d_0 d_1 d_2 d_3 d_s, .int .i64 (0)]) rfl rfl (fun _ _ => by kernel_rfl) (h3 _) rfl ?_
  intro w9 hq
  replace Q1 := Q1.mo hq
  replace Q2 := Q2.mo hq
  replace Q3 := Q3.mo hq
  replace M := M.trans hq
  clear hq
  refine wl_mv (.tmp 52) (.tuple #[rd d_b d_0 d_1 d_2 d_3 d_s, .int .i64 (0)]) (fun _ => rfl) rfl rfl ?_
  refine wl_un (fun v => Instr.extract v 0) (.tmp 49) (.tuple #[rd d_b d_0 d_1 d_2 d_3 d_s, .int .i64 (0)]) (rd d_b d_0 d_1 d_2 d_3 d_s) (fun _ => rfl) rfl (by kernel_rfl) rfl ?_
  refine wl_un (fun v => Instr.extract v 1) (.tmp 49) (.tuple #[rd d_b d_0 d_1 d_2 d_3 d_s, .int .i64 (0)]) (.int .i64 (0)) (fun _ => rfl) rfl (by kernel_rfl) rfl ?_
  refine wl_alloc 40 #[.bool false, .int .u64 0, .int .u64 0, .int .u64 0, .int .u64 0, .int .i64 0] rfl (fun _ => by kernel_rfl) rfl ?_
  intro k4 w10 hk hz hq Q4
  have ne_k1_k4 : k1 ≠ k4 := by have := Q1.lt; omega
  have ne_k2_k4 : k2 ≠ k4 := by have := Q2.lt; omega
  have ne_k3_k4 : k3 ≠ k4 := by have := Q3.lt; omega
  have N_k4 : w.heap.size ≤ k4 := by have := M.size; omega
  replace Q1 := Q1.mo hq
  replace Q2 := Q2.mo hq
  replace Q3 := Q3.mo hq
  replace M := M.trans hq
  clear hk hz hq
  refine wl_st 40 (.tmp 11) (.tmp 53) k4 0 (rda d_b d_0 d_1 d_2 d_3 d_s) [.bool false, .int .u64 0, .int .u64 0, .int .u64 0, .int .u64 0, .int .i64 0] (rdl d_b d_0 d_1 d_2 d_3 d_s) Q4 rfl rfl rfl rfl rfl sz40 rfl rfl rfl ?_
  intro w11 hS Qn
  replace Q4 := Qn
  clear Qn
  replace Q1 := hS.other _ _ ne_k1_k4 Q1
  replace Q2 := hS.other _ _ ne_k2_k4 Q2
  replace Q3 := hS.other _ _ ne_k3_k4 Q3
  replace M := hS.mo _ N_k4 M
  clear hS
  refine wl_mv (.tmp 54) (.int .i64 (0)) (fun _ => rfl) rfl rfl ?_
  refine w_nil ?_
  refine xn_then ?_
  refine w_seq ?_
  refine w_seq ?_
  refine w_reg ?_
  refine wl_mv (.tmp 8) (.int .i64 (0)) (fun _ => rfl) rfl rfl ?_
  refine wl_bin (fun x y => do eqGuard .eql 32 (.tmp 55) (.const (.int .i64 (7))) x y; binOp .eql 32 x y) (.tmp 55) (.const (.int .i64 (7))) (.int .i64 (0)) (.int .i64 (7)) (.bool false) (fun _ => rfl) rfl rfl (by kernel_rfl) rfl ?_
  refine w_nil ?_
  refine xn_then ?_
  refine w_condF rfl ?_
  refine w_skip ?_
  refine xn_then ?_
  refine w_seq ?_
  refine w_reg ?_
  refine wl_load 40 (.tmp 11) (pt k4 0) (rd d_b d_0 d_1 d_2 d_3 d_s) rfl rfl (run_row Q4 40 0 6 (rdl d_b d_0 d_1 d_2 d_3 d_s) rfl Try.underlying40 rfl sz40) rfl ?_
  refine wl_call 49 [(.tmp 58)] _ [rd d_b d_0 d_1 d_2 d_3 d_s] (.tuple #[rd q_b q_0 q_1 q_2 q_3 q_s, .int .i64 (0)]) rfl rfl (fun _ _ => by kernel_rfl) (h4 _) rfl ?_
  intro w12 hq
  replace Q1 := Q1.mo hq
  replace Q2 := Q2.mo hq
  replace Q3 := Q3.mo hq
  replace Q4 := Q4.mo hq
  replace M := M.trans hq
  clear hq
  refine wl_mv (.tmp 59) (.tuple #[rd q_b q_0 q_1 q_2 q_3 q_s, .int .i64 (0)]) (fun _ => rfl) rfl rfl ?_
  refine wl_un (fun v => Instr.extract v 0) (.tmp 57) (.tuple #[rd q_b q_0 q_1 q_2 q_3 q_s, .int .i64 (0)]) (rd q_b q_0 q_1 q_2 q_3 q_s) (fun _ => rfl) rfl (by kernel_rfl) rfl ?_
  refine wl_un (fun v => Instr.extract v 1) (.tmp 57) (.tuple #[rd q_b q_0 q_1 q_2 q_3 q_s, .int .i64 (0)]) (.int .i64 (0)) (fun _ => rfl) rfl (by kernel_rfl) rfl ?_
  refine wl_st 40 (.tmp 11) (.tmp 60) k4 0 (rda q_b q_0 q_1 q_2 q_3 q_s) (rdl d_b d_0 d_1 d_2 d_3 d_s) (rdl q_b q_0 q_1 q_2 q_3 q_s) Q4 rfl rfl rfl rfl rfl sz40 rfl rfl rfl ?_
  intro w13 hS Qn
  replace Q4 := Qn
  clear Qn
  replace Q1 := hS.other _ _ ne_k1_k4 Q1
  replace Q2 := hS.other _ _ ne_k2_k4 Q2
  replace Q3 := hS.other _ _ ne_k3_k4 Q3
  replace M := hS.mo _ N_k4 M
  clear hS
  refine wl_mv (.tmp 61) (.int .i64 (0)) (fun _ => rfl) rfl rfl ?_
  refine w_nil ?_
  refine xn_then ?_
  refine w_seq ?_
  refine w_reg ?_
  refine wl_mv (.tmp 1) (.int .i64 S) (fun _ => rfl) rfl rfl ?_
  refine wl_call 26 [(.const (.int .i64 (1))), (.tmp 63)] _ [.int .i64 (1), .int .i64 S] (.tuple #[rd o_b o_0 o_1 o_2 o_3 o_s, .int .i64 (0)]) rfl rfl (fun _ _ => by kernel_rfl) (h5 _) rfl ?_
  intro w14 hq
  replace Q1 := Q1.mo hq
  replace Q2 := Q2.mo hq
  replace Q3 := Q3.mo hq
  replace Q4 := Q4.mo hq
  replace M := M.trans hq
  clear hq
  refine wl_mv (.tmp 64) (.tuple #[rd o_b o_0 o_1 o_2 o_3 o_s, .int .i64 (0)]) (fun _ => rfl) rfl rfl ?_
  refine wl_un (fun v => Instr.extract v 0) (.tmp 62) (.tuple #[rd o_b o_0 o_1 o_2 o_3 o_s, .int .i64 (0)]) (rd o_b o_0 o_1 o_2 o_3 o_s) (fun _ => rfl) rfl (by kernel_rfl) rfl ?_
  refine wl_un (fun v => Instr.extract v 1) (.tmp 62) (.tuple #[rd o_b o_0 o_1 o_2 o_3 o_s, .int .i64 (0)]) (.int .i64 (0)) (fun _ => rfl) rfl (by kernel_rfl) rfl ?_
  refine wl_alloc 40 #[.bool false, .int .u64 0, .int .u64 0, .int .u64 0, .int .u64 0, .int .i64 0] rfl (fun _ => by kernel_rfl) rfl ?_
  intro k5 w15 hk hz hq Q5
  have ne_k1_k5 : k1 ≠ k5 := by have := Q1.lt; omega
  have ne_k2_k5 : k2 ≠ k5 := by have := Q2.lt; omega
  have ne_k3_k5 : k3 ≠ k5 := by have := Q3.lt; omega
  have ne_k4_k5 : k4 ≠ k5 := by have := Q4.lt; omega
  have N_k5 : w.heap.size ≤ k5 := by have := M.size; omega
  replace Q1 := Q1.mo hq
  replace Q2 := Q2.mo hq
  replace Q3 := Q3.mo hq
  replace Q4 := Q4.mo hq
  replace M := M.trans hq
  clear hk hz hq
  refine wl_st 40 (.tmp 12) (.tmp 65) k5 0 (rda o_b o_0 o_1 o_2 o_3 o_s) [.bool false, .int .u64 0, .int .u64 0, .int .u64 0, .int .u64 0, .int .i64 0] (rdl o_b o_0 o_1 o_2 o_3 o_s) Q5 rfl rfl rfl rfl rfl sz40 rfl rfl rfl ?_
  intro w16 hS Qn
  replace Q5 := Qn
  clear Qn
  replace Q1 := hS.other _ _ ne_k1_k5 Q1
  replace Q2 := hS.other _ _ ne_k2_k5 Q2
  replace Q3 := hS.other _ _ ne_k3_k5 Q3
  replace Q4 := hS.other _ _ ne_k4_k5 Q4
  replace M := hS.mo _ N_k5 M
  clear hS
  refine wl_mv (.tmp 66) (.int .i64 (0)) (fun _ => rfl) rfl rfl ?_
  refine w_nil ?_
  refine xn_then ?_
  refine w_seq ?_
  refine w_seq ?_
  refine w_reg ?_
  refine wl_mv (.tmp 8) (.int .i64 (0)) (fun _ => rfl) rfl rfl ?_
  refine wl_bin (fun x y => do eqGuard .neq 32 (.tmp 67) (.const (.int .i64 (0))) x y; binOp .neq 32 x y) (.tmp 67) (.const (.int .i64 (0))) (.int .i64 (0)) (.int .i64 (0)) (.bool false) (fun _ => rfl) rfl rfl (by kernel_rfl) rfl ?_
  refine wl_mv (.tmp 68) (.bool false) (fun _ => rfl) rfl rfl ?_
  refine wl_mv (.tmp 10) (.int .i64 (0)) (fun _ => rfl) rfl rfl ?_
  refine wl_bin (fun x y => do eqGuard .neq 32 (.tmp 70) (.const (.int .i64 (0))) x y; binOp .neq 32 x y) (.tmp 70) (.const (.int .i64 (0))) (.int .i64 (0)) (.int .i64 (0)) (.bool false) (fun _ => rfl) rfl rfl (by kernel_rfl) rfl ?_
  refine wl_pick (.tmp 69) (.const (.bool true)) (.tmp 71) false (.bool false) (fun _ => rfl) rfl rfl rfl ?_
  refine wl_mv (.tmp 72) (.bool false) (fun _ => rfl) rfl rfl ?_
  refine wl_mv (.tmp 13) (.int .i64 (0)) (fun _ => rfl) rfl rfl ?_
  refine wl_bin (fun x y => do eqGuard .neq 32 (.tmp 74) (.const (.int .i64 (0))) x y; binOp .neq 32 x y) (.tmp 74) (.const (.int .i64 (0))) (.int .i64 (0)) (.int .i64 (0)) (.bool false) (fun _ => rfl) rfl rfl (by kernel_rfl) rfl ?_
  refine wl_pick (.tmp 73) (.const (.bool true)) (.tmp 75) false (.bool false) (fun _ => rfl) rfl rfl rfl ?_
  refine wl_mv (.tmp 76) (.bool false) (fun _ => rfl) rfl rfl ?_
  refine wl_load 40 (.tmp 11) (pt k4 0) (rd q_b q_0 q_1 q_2 q_3 q_s) rfl rfl (run_row Q4 40 0 6 (rdl q_b q_0 q_1 q_2 q_3 q_s) rfl Try.underlying40 rfl sz40) rfl ?_
  refine wl_load 40 (.tmp 12) (pt k5 0) (rd o_b o_0 o_1 o_2 o_3 o_s) rfl rfl (run_row Q5 40 0 6 (rdl o_b o_0 o_1 o_2 o_3 o_s) rfl Try.underlying40 rfl sz40) rfl ?_
  refine wl_call 51 [(.tmp 78), (.tmp 79)] _ [rd q_b q_0 q_1 q_2 q_3 q_s, rd o_b o_0 o_1 o_2 o_3 o_s] (.int .i64 (-1)) rfl rfl (fun _ _ => by kernel_rfl) (h6 _) rfl ?_
  intro w17 hq
  replace Q1 := Q1.mo hq
  replace Q2 := Q2.mo hq
  replace Q3 := Q3.mo hq
  replace Q4 := Q4.mo hq
  replace Q5 := Q5.mo hq
  replace M := M.trans hq
  clear hq
  refine wl_bin (fun x y => do eqGuard .geq 3 (.tmp 80) (.const (.int .i64 (0))) x y; binOp .geq 3 x y) (.tmp 80) (.const (.int .i64 (0))) (.int .i64 (-1)) (.int .i64 (0)) (.bool false) (fun _ => rfl) rfl rfl (by kernel_rfl) rfl ?_
  refine wl_pick (.tmp 77) (.const (.bool true)) (.tmp 81) false (.bool false) (fun _ => rfl) rfl rfl rfl ?_
  refine w_nil ?_
  refine xn_then ?_
  refine w_condF rfl ?_
  refine w_skip ?_
  refine xn_then ?_
  refine w_seq ?_
  refine w_seq ?_
  refine w_reg ?_
  refine wl_mv (.tmp 1) (.int .i64 S) (fun _ => rfl) rfl rfl ?_
  refine wl_un (fun v => Instr.fieldAt 40 v 2) (.tmp 3) (pt k1 0) (pt k1 5) (fun _ => rfl) rfl (by kernel_rfl) rfl ?_
  refine wl_load 3 (.tmp 84) (pt k1 5) (.int .i64 a_s) rfl rfl (run_one Q1 3 5 rfl Try.underlying3 rfl) rfl ?_
  refine wl_bin (fun x y => do eqGuard .geq 3 (.tmp 83) (.tmp 85) x y; binOp .geq 3 x y) (.tmp 83) (.tmp 85) (.int .i64 S) (.int .i64 a_s) (.bool true) (fun _ => rfl) rfl rfl (geq3_run hge _ _ _) rfl ?_
  refine wl_mv (.tmp 86) (.bool true) (fun _ => rfl) rfl rfl ?_
  refine wl_load 40 (.tmp 11) (pt k4 0) (rd q_b q_0 q_1 q_2 q_3 q_s) rfl rfl (run_row Q4 40 0 6 (rdl q_b q_0 q_1 q_2 q_3 q_s) rfl Try.underlying40 rfl sz40) rfl ?_
  refine wl_call 31 [(.tmp 88)] _ [rd q_b q_0 q_1 q_2 q_3 q_s] (.int .i64 (0)) rfl rfl (fun _ _ => by kernel_rfl) (h7 _) rfl ?_
  intro w18 hq
  replace Q1 := Q1.mo hq
  replace Q2 := Q2.mo hq
  replace Q3 := Q3.mo hq
  replace Q4 := Q4.mo hq
  replace Q5 := Q5.mo hq
  replace M := M.trans hq
  clear hq
  refine wl_bin (fun x y => do eqGuard .neq 3 (.tmp 89) (.const (.int .i64 (0))) x y; binOp .neq 3 x y) (.tmp 89) (.const (.int .i64 (0))) (.int .i64 (0)) (.int .i64 (0)) (.bool false) (fun _ => rfl) rfl rfl (by kernel_rfl) rfl ?_
  refine wl_pick (.tmp 87) (.tmp 90) (.const (.bool false)) true (.bool false) (fun _ => rfl) rfl rfl rfl ?_
  refine w_nil ?_
  refine xn_then ?_
  refine w_condF rfl ?_
  refine w_skip ?_
  refine xn_then ?_
  refine w_seq ?_
  refine w_seq ?_
  refine w_reg ?_
  refine wl_mv (.tmp 2) (.int .i64 p) (fun _ => rfl) rfl rfl ?_
  refine wl_bin (fun x y => do eqGuard .neq 3 (.tmp 92) (.const (.int .i64 (1))) x y; binOp .neq 3 x y) (.tmp 92) (.const (.int .i64 (1))) (.int .i64 p) (.int .i64 (1)) (.bool true) (fun _ => rfl) rfl rfl (neq3_run hp1 _ _ _) rfl ?_
  refine wl_mv (.tmp 93) (.bool true) (fun _ => rfl) rfl rfl ?_
  refine wl_mv (.tmp 2) (.int .i64 p) (fun _ => rfl) rfl rfl ?_
  refine wl_bin (fun x y => do eqGuard .neq 3 (.tmp 95) (.const (.int .i64 (2))) x y; binOp .neq 3 x y) (.tmp 95) (.const (.int .i64 (2))) (.int .i64 p) (.int .i64 (2)) (.bool true) (fun _ => rfl) rfl rfl (neq3_run hp2 _ _ _) rfl ?_
  refine wl_pick (.tmp 94) (.tmp 96) (.const (.bool false)) true (.bool true) (fun _ => rfl) rfl rfl rfl ?_
  refine w_nil ?_
  refine xn_then ?_
  refine w_condT rfl ?_
  refine w_seq ?_
  refine w_reg ?_
  refine wl_mv (.const (.bool true)) (.bool true) (fun _ => rfl) rfl rfl ?_
  refine w_nil ?_
  refine xn_then ?_
  refine w_ret ?_
  refine xr_then ?_
  exact w_ret1 _ (.bool true) rfl rfl ⟨rfl, M⟩
theorem rounds_ge_1 (a_b : Bool) (a_0 a_1 a_2 a_3 a_s : Int) (d_b : Bool) (d_0 d_1 d_2 d_3 d_s : Int) (q_b : Bool) (q_0 q_1 q_2 q_3 q_s : Int) (o_b : Bool) (o_0 o_1 o_2 o_3 o_s : Int) (t_b : Bool) (t_0 t_1 t_2 t_3 t_s : Int) (c : Int) (x_b : Bool) (x_0 x_1 x_2 x_3 : Int) (S : Int) (w : World) (h1 : ∀ w, Calls Try.prog 43 #[rd a_b a_0 a_1 a_2 a_3 a_s, .int .i64 S, .int .i64 (1)] w fun e' w' => e' = .returned (.tuple #[rd x_b x_0 x_1 x_2 x_3 S, .int .i64 (0)]) ∧ Mo w w') (h2 : ∀ w, Calls Try.prog 43 #[rd x_b x_0 x_1 x_2 x_3 S, .int .i64 S, .int .i64 (1)] w fun e' w' => e' = .returned (.tuple #[rd x_b x_0 x_1 x_2 x_3 S, .int .i64 (0)]) ∧ Mo w w') (h3 : ∀ w, Calls Try.prog 37 #[rd x_b x_0 x_1 x_2 x_3 S, rd a_b a_0 a_1 a_2 a_3 a_s] w fun e' w' => e' = .returned (.tuple #[rd d_b d_0 d_1 d_2 d_3 d_s, .int .i64 (0)]) ∧ Mo w w') (h4 : ∀ w, Calls Try.prog 49 #[rd d_b d_0 d_1 d_2 d_3 d_s] w fun e' w' => e' = .returned (.tuple #[rd q_b q_0 q_1 q_2 q_3 q_s, .int .i64 (0)]) ∧ Mo w w') (h5 : ∀ w, Calls Try.prog 26 #[.int .i64 (1), .int .i64 S] w fun e' w' => e' = .returned (.tuple #[rd o_b o_0 o_1 o_2 o_3 o_s, .int .i64 (0)]) ∧ Mo w w') (h6 : ∀ w, Calls Try.prog 51 #[rd q_b q_0 q_1 q_2 q_3 q_s, rd o_b o_0 o_1 o_2 o_3 o_s] w fun e' w' => e' = .returned (.int .i64 (-1)) ∧ Mo w w') (hge : decide (S ≥ a_s) = true) (h7 : ∀ w, Calls Try.prog 31 #[rd q_b q_0 q_1 q_2 q_3 q_s] w fun e' w' => e' = .returned (.int .i64 (0)) ∧ Mo w w') (h8 : ∀ w, Calls Try.prog 35 #[rd q_b q_0 q_1 q_2 q_3 q_s, rd q_b q_0 q_1 q_2 q_3 q_s] w fun e' w' => e' = .returned (.tuple #[rd t_b t_0 t_1 t_2 t_3 t_s, .int .i64 (0)]) ∧ Mo w w') (h9 : ∀ w, Calls Try.prog 51 #[rd t_b t_0 t_1 t_2 t_3 t_s, rd o_b o_0 o_1 o_2 o_3 o_s] w fun e' w' => e' = .returned (.int .i64 c) ∧ Mo w w') (hc : decide (c ≤ 0) = true) :
    Calls Try.prog 12 #[rd a_b a_0 a_1 a_2 a_3 a_s, .int .i64 S, .int .i64 (1)] w fun e' w' => e' = .returned (.bool true) ∧ Mo w w' := by
  refine w_enter 112 Try.func12 Try.ntmps12 rfl rfl ?_
  have M : Mo w w := Mo.refl _
  refine w_seq ?_
  refine w_reg ?_
  refine wl_box 40 (.tmp 0) (rd a_b a_0 a_1 a_2 a_3 a_s) ((rda a_b a_0 a_1 a_2 a_3 a_s)) rfl rfl (fun _ => by kernel_rfl) rfl ?_
  intro k1 w1 hk hz hq Q1
  have N_k1 : w.heap.size ≤ k1 := by have := M.size; omega
  replace M := M.trans hq
  clear hk hz hq
  refine wl_mv (.const (.bool false)) (.bool false) (fun _ => rfl) rfl rfl ?_
  refine w_nil ?_
  refine xn_then ?_
  refine w_seq ?_
  refine w_reg ?_
  refine wl_load 40 (.tmp 3) (pt k1 0) (rd a_b a_0 a_1 a_2 a_3 a_s) rfl rfl (run_row Q1 40 0 6 (rdl a_b a_0 a_1 a_2 a_3 a_s) rfl Try.underlying40 rfl sz40) rfl ?_
  refine wl_mv (.tmp 1) (.int .i64 S) (fun _ => rfl) rfl rfl ?_
  refine wl_mv (.tmp 2) (.int .i64 (1)) (fun _ => rfl) rfl rfl ?_
  refine wl_call 43 [(.tmp 16), (.tmp 17), (.tmp 18)] _ [rd a_b a_0 a_1 a_2 a_3 a_s, .int .i64 S, .int .i64 (1)] (.tuple #[rd x_b x_0 x_1 x_2 x_3 S, .int .i64 (0)]) rfl rfl (fun _ _ => by kernel_rfl) (h1 _) rfl ?_
  intro w2 hq
  replace Q1 := Q1.mo hq
  replace M := M.trans hq
  clear hq
  refine wl_mv (.tmp 19) (.tuple #[rd x_b x_0 x_1 x_2 x_3 S, .int .i64 (0)]) (fun _ => rfl) rfl rfl ?_
  refine wl_un (fun v => Instr.extract v 0) (.tmp 15) (.tuple #[rd x_b x_0 x_1 x_2 x_3 S, .int .i64 (0)]) (rd x_b x_0 x_1 x_2 x_3 S) (fun _ => rfl) rfl (by kernel_rfl) rfl ?_
  refine wl_un (fun v => Instr.extract v 1) (.tmp 15) (.tuple #[rd x_b x_0 x_1 x_2 x_3 S, .int .i64 (0)]) (.int .i64 (0)) (fun _ => rfl) rfl (by kernel_rfl) rfl ?_
  refine wl_alloc 40 #[.bool false, .int .u64 0, .int .u64 0, .int .u64 0, .int .u64 0, .int .i64 0] rfl (fun _ => by kernel_rfl) rfl ?_
  intro k2 w3 hk hz hq Q2
  have ne_k1_k2 : k1 ≠ k2 := by have := Q1.lt; omega
  have N_k2 : w.heap.size ≤ k2 := by have := M.size; omega
  replace Q1 := Q1.mo hq
  replace M := M.trans hq
  clear hk hz hq
  refine wl_st 40 (.tmp 7) (.tmp 20) k2 0 (rda x_b x_0 x_1 x_2 x_3 S) [.bool false, .int .u64 0, .int .u64 0, .int .u64 0, .int .u64 0, .int .i64 0] (rdl x_b x_0 x_1 x_2 x_3 S) Q2 rfl rfl rfl rfl rfl sz40 rfl rfl rfl ?_
  intro w4 hS Qn
  replace Q2 := Qn
  clear Qn
  replace Q1 := hS.other _ _ ne_k1_k2 Q1
  replace M := hS.mo _ N_k2 M
  clear hS
  refine wl_mv (.tmp 21) (.int .i64 (0)) (fun _ => rfl) rfl rfl ?_
  refine w_nil ?_
  refine xn_then ?_
  refine w_seq ?_
  refine w_seq ?_
  refine w_reg ?_
  refine wl_call 28 [] _ [] (.bool true) rfl rfl (fun _ _ => by kernel_rfl) (begun_n _) rfl ?_
  intro w5 hq
  replace Q1 := Q1.mo hq
  replace Q2 := Q2.mo hq
  replace M := M.trans hq
  clear hq
  refine wl_un (fun v => Op.unary .not v) (.tmp 22) (.bool true) (.bool false) (fun _ => rfl) rfl (by kernel_rfl) rfl ?_
  refine wl_mv (.tmp 23) (.bool false) (fun _ => rfl) rfl rfl ?_
  refine wl_mv (.tmp 8) (.int .i64 (0)) (fun _ => rfl) rfl rfl ?_
  refine wl_bin (fun x y => do eqGuard .neq 32 (.tmp 25) (.const (.int .i64 (0))) x y; binOp .neq 32 x y) (.tmp 25) (.const (.int .i64 (0))) (.int .i64 (0)) (.int .i64 (0)) (.bool false) (fun _ => rfl) rfl rfl (by kernel_rfl) rfl ?_
  refine wl_pick (.tmp 24) (.const (.bool true)) (.tmp 26) false (.bool false) (fun _ => rfl) rfl rfl rfl ?_
  refine w_nil ?_
  refine xn_then ?_
  refine w_condF rfl ?_
  refine w_skip ?_
  refine xn_then ?_
  refine w_seq ?_
  refine w_reg ?_
  refine wl_load 40 (.tmp 7) (pt k2 0) (rd x_b x_0 x_1 x_2 x_3 S) rfl rfl (run_row Q2 40 0 6 (rdl x_b x_0 x_1 x_2 x_3 S) rfl Try.underlying40 rfl sz40) rfl ?_
  refine wl_mv (.tmp 1) (.int .i64 S) (fun _ => rfl) rfl rfl ?_
  refine wl_mv (.tmp 2) (.int .i64 (1)) (fun _ => rfl) rfl rfl ?_
  refine wl_call 43 [(.tmp 30), (.tmp 31), (.tmp 32)] _ [rd x_b x_0 x_1 x_2 x_3 S, .int .i64 S, .int .i64 (1)] (.tuple #[rd x_b x_0 x_1 x_2 x_3 S, .int .i64 (0)]) rfl rfl (fun _ _ => by kernel_rfl) (h2 _) rfl ?_
  intro w6 hq
  replace Q1 := Q1.mo hq
  replace Q2 := Q2.mo hq
  replace M := M.trans hq
  clear hq
  refine wl_mv (.tmp 33) (.tuple #[rd x_b x_0 x_1 x_2 x_3 S, .int .i64 (0)]) (fun _ => rfl) rfl rfl ?_
  refine wl_un (fun v => Instr.extract v 0) (.tmp 29) (.tuple #[rd x_b x_0 x_1 x_2 x_3 S, .int .i64 (0)]) (rd x_b x_0 x_1 x_2 x_3 S) (fun _ => rfl) rfl (by kernel_rfl) rfl ?_
  refine wl_un (fun v => Instr.extract v 1) (.tmp 29) (.tuple #[rd x_b x_0 x_1 x_2 x_3 S, .int .i64 (0)]) (.int .i64 (0)) (fun _ => rfl) rfl (by kernel_rfl) rfl ?_
  refine wl_alloc 40 #[.bool false, .int .u64 0, .int .u64 0, .int .u64 0, .int .u64 0, .int .i64 0] rfl (fun _ => by kernel_rfl) rfl ?_
  intro k3 w7 hk hz hq Q3
  have ne_k1_k3 : k1 ≠ k3 := by have := Q1.lt; omega
  have ne_k2_k3 : k2 ≠ k3 := by have := Q2.lt; omega
  have N_k3 : w.heap.size ≤ k3 := by have := M.size; omega
  replace Q1 := Q1.mo hq
  replace Q2 := Q2.mo hq
  replace M := M.trans hq
  clear hk hz hq
  refine wl_st 40 (.tmp 9) (.tmp 34) k3 0 (rda x_b x_0 x_1 x_2 x_3 S) [.bool false, .int .u64 0, .int .u64 0, .int .u64 0, .int .u64 0, .int .i64 0] (rdl x_b x_0 x_1 x_2 x_3 S) Q3 rfl rfl rfl rfl rfl sz40 rfl rfl rfl ?_
  intro w8 hS Qn
  replace Q3 := Qn
  clear Qn
  replace Q1 := hS.other _ _ ne_k1_k3 Q1
  replace Q2 := hS.other _ _ ne_k2_k3 Q2
  replace M := hS.mo _ N_k3 M
  clear hS
  refine wl_mv (.tmp 35) (.int .i64 (0)) (fun _ => rfl) rfl rfl ?_
  refine w_nil ?_
  refine xn_then ?_
  refine w_seq ?_
  refine w_seq ?_
  refine w_reg ?_
  refine wl_load 40 (.tmp 9) (pt k3 0) (rd x_b x_0 x_1 x_2 x_3 S) rfl rfl (run_row Q3 40 0 6 (rdl x_b x_0 x_1 x_2 x_3 S) rfl Try.underlying40 rfl sz40) rfl ?_
  refine wl_load 40 (.tmp 7) (pt k2 0) (rd x_b x_0 x_1 x_2 x_3 S) rfl rfl (run_row Q2 40 0 6 (rdl x_b x_0 x_1 x_2 x_3 S) rfl Try.underlying40 rfl sz40) rfl ?_
  refine wl_bin (fun x y => do eqGuard .neq 40 (.tmp 36) (.tmp 37) x y; binOp .neq 40 x y) (.tmp 36) (.tmp 37) (rd x_b x_0 x_1 x_2 x_3 S) (rd x_b x_0 x_1 x_2 x_3 S) (.bool false) (fun _ => rfl) rfl rfl (ned_run (self6 _ _ _ _ _ _) _ _ _) rfl ?_
  refine wl_mv (.tmp 38) (.bool false) (fun _ => rfl) rfl rfl ?_
  refine wl_mv (.tmp 10) (.int .i64 (0)) (fun _ => rfl) rfl rfl ?_
  refine wl_bin (fun x y => do eqGuard .neq 32 (.tmp 40) (.const (.int .i64 (0))) x y; binOp .neq 32 x y) (.tmp 40) (.const (.int .i64 (0))) (.int .i64 (0)) (.int .i64 (0)) (.bool false) (fun _ => rfl) rfl rfl (by kernel_rfl) rfl ?_
  refine wl_pick (.tmp 39) (.const (.bool true)) (.tmp 41) false (.bool false) (fun _ => rfl) rfl rfl rfl ?_
  refine wl_mv (.tmp 42) (.bool false) (fun _ => rfl) rfl rfl ?_
  refine wl_un (fun v => Instr.fieldAt 40 v 2) (.tmp 7) (pt k2 0) (pt k2 5) (fun _ => rfl) rfl (by kernel_rfl) rfl ?_
  refine wl_load 3 (.tmp 44) (pt k2 5) (.int .i64 S) rfl rfl (run_one Q2 3 5 rfl Try.underlying3 rfl) rfl ?_
  refine wl_mv (.tmp 1) (.int .i64 S) (fun _ => rfl) rfl rfl ?_
  refine wl_bin (fun x y => do eqGuard .neq 3 (.tmp 45) (.tmp 46) x y; binOp .neq 3 x y) (.tmp 45) (.tmp 46) (.int .i64 S) (.int .i64 S) (.bool false) (fun _ => rfl) rfl rfl (neq3_run (by simp) _ _ _) rfl ?_
  refine wl_pick (.tmp 43) (.const (.bool true)) (.tmp 47) false (.bool false) (fun _ => rfl) rfl rfl rfl ?_
  refine w_nil ?_
  refine xn_then ?_
  refine w_condF rfl ?_
  refine w_skip ?_
  refine xn_then ?_
  refine w_seq ?_
  refine w_reg ?_
  refine wl_load 40 (.tmp 7) (pt k2 0) (rd x_b x_0 x_1 x_2 x_3 S) rfl rfl (run_row Q2 40 0 6 (rdl x_b x_0 x_1 x_2 x_3 S) rfl Try.underlying40 rfl sz40) rfl ?_
  refine wl_load 40 (.tmp 3) (pt k1 0) (rd a_b a_0 a_1 a_2 a_3 a_s) rfl rfl (run_row Q1 40 0 6 (rdl a_b a_0 a_1 a_2 a_3 a_s) rfl Try.underlying40 rfl sz40) rfl ?_
  refine wl_call 37 [(.tmp 50), (.tmp 51)] _ [rd x_b x_0 x_1 x_2 x_3 S, rd a_b a_0 a_1 a_2 a_3 a_s] (.tuple #[rd d_b d_0 d_1 d_2 d_3 d_s, .int .i64 (0)]) rfl rfl (fun _ _ => by kernel_rfl) (h3 _) rfl ?_
  intro w9 hq
  replace Q1 := Q1.mo hq
  replace Q2 := Q2.mo hq
  replace Q3 := Q3.mo hq
  replace M := M.trans hq
  clear hq
  refine wl_mv (.tmp 52) (.tuple #[rd d_b d_0 d_1 d_2 d_3 d_s, .int .i64 (0)]) (fun _ => rfl) rfl rfl ?_
  refine wl_un (fun v => Instr.extract v 0) (.tmp 49) (.tuple #[rd d_b d_0 d_1 d_2 d_3 d_s, .int .i64 (0)]) (rd d_b d_0 d_1 d_2 d_3 d_s) (fun _ => rfl) rfl (by kernel_rfl) rfl ?_
  refine wl_un (fun v => Instr.extract v 1) (.tmp 49) (.tuple #[rd d_b d_0 d_1 d_2 d_3 d_s, .int .i64 (0)]) (.int .i64 (0)) (fun _ => rfl) rfl (by kernel_rfl) rfl ?_
  refine wl_alloc 40 #[.bool false, .int .u64 0, .int .u64 0, .int .u64 0, .int .u64 0, .int .i64 0] rfl (fun _ => by kernel_rfl) rfl ?_
  intro k4 w10 hk hz hq Q4
  have ne_k1_k4 : k1 ≠ k4 := by have := Q1.lt; omega
  have ne_k2_k4 : k2 ≠ k4 := by have := Q2.lt; omega
  have ne_k3_k4 : k3 ≠ k4 := by have := Q3.lt; omega
  have N_k4 : w.heap.size ≤ k4 := by have := M.size; omega
  replace Q1 := Q1.mo hq
  replace Q2 := Q2.mo hq
  replace Q3 := Q3.mo hq
  replace M := M.trans hq
  clear hk hz hq
  refine wl_st 40 (.tmp 11) (.tmp 53) k4 0 (rda d_b d_0 d_1 d_2 d_3 d_s) [.bool false, .int .u64 0, .int .u64 0, .int .u64 0, .int .u64 0, .int .i64 0] (rdl d_b d_0 d_1 d_2 d_3 d_s) Q4 rfl rfl rfl rfl rfl sz40 rfl rfl rfl ?_
  intro w11 hS Qn
  replace Q4 := Qn
  clear Qn
  replace Q1 := hS.other _ _ ne_k1_k4 Q1
  replace Q2 := hS.other _ _ ne_k2_k4 Q2
  replace Q3 := hS.other _ _ ne_k3_k4 Q3
  replace M := hS.mo _ N_k4 M
  clear hS
  refine wl_mv (.tmp 54) (.int .i64 (0)) (fun _ => rfl) rfl rfl ?_
  refine w_nil ?_
  refine xn_then ?_
  refine w_seq ?_
  refine w_seq ?_
  refine w_reg ?_
  refine wl_mv (.tmp 8) (.int .i64 (0)) (fun _ => rfl) rfl rfl ?_
  refine wl_bin (fun x y => do eqGuard .eql 32 (.tmp 55) (.const (.int .i64 (7))) x y; binOp .eql 32 x y) (.tmp 55) (.const (.int .i64 (7))) (.int .i64 (0)) (.int .i64 (7)) (.bool false) (fun _ => rfl) rfl rfl (by kernel_rfl) rfl ?_
  refine w_nil ?_
  refine xn_then ?_
  refine w_condF rfl ?_
  refine w_skip ?_
  refine xn_then ?_
  refine w_seq ?_
  refine w_reg ?_
  refine wl_load 40 (.tmp 11) (pt k4 0) (rd d_b d_0 d_1 d_2 d_3 d_s) rfl rfl (run_row Q4 40 0 6 (rdl d_b d_0 d_1 d_2 d_3 d_s) rfl Try.underlying40 rfl sz40) rfl ?_
  refine wl_call 49 [(.tmp 58)] _ [rd d_b d_0 d_1 d_2 d_3 d_s] (.tuple #[rd q_b q_0 q_1 q_2 q_3 q_s, .int .i64 (0)]) rfl rfl (fun _ _ => by kernel_rfl) (h4 _) rfl ?_
  intro w12 hq
  replace Q1 := Q1.mo hq
  replace Q2 := Q2.mo hq
  replace Q3 := Q3.mo hq
  replace Q4 := Q4.mo hq
  replace M := M.trans hq
  clear hq
  refine wl_mv (.tmp 59) (.tuple #[rd q_b q_0 q_1 q_2 q_3 q_s, .int .i64 (0)]) (fun _ => rfl) rfl rfl ?_
  refine wl_un (fun v => Instr.extract v 0) (.tmp 57) (.tuple #[rd q_b q_0 q_1 q_2 q_3 q_s, .int .i64 (0)]) (rd q_b q_0 q_1 q_2 q_3 q_s) (fun _ => rfl) rfl (by kernel_rfl) rfl ?_
  refine wl_un (fun v => Instr.extract v 1) (.tmp 57) (.tuple #[rd q_b q_0 q_1 q_2 q_3 q_s, .int .i64 (0)]) (.int .i64 (0)) (fun _ => rfl) rfl (by kernel_rfl) rfl ?_
  refine wl_st 40 (.tmp 11) (.tmp 60) k4 0 (rda q_b q_0 q_1 q_2 q_3 q_s) (rdl d_b d_0 d_1 d_2 d_3 d_s) (rdl q_b q_0 q_1 q_2 q_3 q_s) Q4 rfl rfl rfl rfl rfl sz40 rfl rfl rfl ?_
  intro w13 hS Qn
  replace Q4 := Qn
  clear Qn
  replace Q1 := hS.other _ _ ne_k1_k4 Q1
  replace Q2 := hS.other _ _ ne_k2_k4 Q2
  replace Q3 := hS.other _ _ ne_k3_k4 Q3
  replace M := hS.mo _ N_k4 M
  clear hS
  refine wl_mv (.tmp 61) (.int .i64 (0)) (fun _ => rfl) rfl rfl ?_
  refine w_nil ?_
  refine xn_then ?_
  refine w_seq ?_
  refine w_reg ?_
  refine wl_mv (.tmp 1) (.int .i64 S) (fun _ => rfl) rfl rfl ?_
  refine wl_call 26 [(.const (.int .i64 (1))), (.tmp 63)] _ [.int .i64 (1), .int .i64 S] (.tuple #[rd o_b o_0 o_1 o_2 o_3 o_s, .int .i64 (0)]) rfl rfl (fun _ _ => by kernel_rfl) (h5 _) rfl ?_
  intro w14 hq
  replace Q1 := Q1.mo hq
  replace Q2 := Q2.mo hq
  replace Q3 := Q3.mo hq
  replace Q4 := Q4.mo hq
  replace M := M.trans hq
  clear hq
  refine wl_mv (.tmp 64) (.tuple #[rd o_b o_0 o_1 o_2 o_3 o_s, .int .i64 (0)]) (fun _ => rfl) rfl rfl ?_
  refine wl_un (fun v => Instr.extract v 0) (.tmp 62) (.tuple #[rd o_b o_0 o_1 o_2 o_3 o_s, .int .i64 (0)]) (rd o_b o_0 o_1 o_2 o_3 o_s) (fun _ => rfl) rfl (by kernel_rfl) rfl ?_
  refine wl_un (fun v => Instr.extract v 1) (.tmp 62) (.tuple #[rd o_b o_0 o_1 o_2 o_3 o_s, .int .i64 (0)]) (.int .i64 (0)) (fun _ => rfl) rfl (by kernel_rfl) rfl ?_
  refine wl_alloc 40 #[.bool false, .int .u64 0, .int .u64 0, .int .u64 0, .int .u64 0, .int .i64 0] rfl (fun _ => by kernel_rfl) rfl ?_
  intro k5 w15 hk hz hq Q5
  have ne_k1_k5 : k1 ≠ k5 := by have := Q1.lt; omega
  have ne_k2_k5 : k2 ≠ k5 := by have := Q2.lt; omega
  have ne_k3_k5 : k3 ≠ k5 := by have := Q3.lt; omega
  have ne_k4_k5 : k4 ≠ k5 := by have := Q4.lt; omega
  have N_k5 : w.heap.size ≤ k5 := by have := M.size; omega
  replace Q1 := Q1.mo hq
  replace Q2 := Q2.mo hq
  replace Q3 := Q3.mo hq
  replace Q4 := Q4.mo hq
  replace M := M.trans hq
  clear hk hz hq
  refine wl_st 40 (.tmp 12) (.tmp 65) k5 0 (rda o_b o_0 o_1 o_2 o_3 o_s) [.bool false, .int .u64 0, .int .u64 0, .int .u64 0, .int .u64 0, .int .i64 0] (rdl o_b o_0 o_1 o_2 o_3 o_s) Q5 rfl rfl rfl rfl rfl sz40 rfl rfl rfl ?_
  intro w16 hS Qn
  replace Q5 := Qn
  clear Qn
  replace Q1 := hS.other _ _ ne_k1_k5 Q1
  replace Q2 := hS.other _ _ ne_k2_k5 Q2
  replace Q3 := hS.other _ _ ne_k3_k5 Q3
  replace Q4 := hS.other _ _ ne_k4_k5 Q4
  replace M := hS.mo _ N_k5 M
  clear hS
  refine wl_mv (.tmp 66) (.int .i64 (0)) (fun _ => rfl) rfl rfl ?_
  refine w_nil ?_
  refine xn_then ?_
  refine w_seq ?_
  refine w_seq ?_
  refine w_reg ?_
  refine wl_mv (.tmp 8) (.int .i64 (0)) (fun _ => rfl) rfl rfl ?_
  refine wl_bin (fun x y => do eqGuard .neq 32 (.tmp 67) (.const (.int .i64 (0))) x y; binOp .neq 32 x y) (.tmp 67) (.const (.int .i64 (0))) (.int .i64 (0)) (.int .i64 (0)) (.bool false) (fun _ => rfl) rfl rfl (by kernel_rfl) rfl ?_
  refine wl_mv (.tmp 68) (.bool false) (fun _ => rfl) rfl rfl ?_
  refine wl_mv (.tmp 10) (.int .i64 (0)) (fun _ => rfl) rfl rfl ?_
  refine wl_bin (fun x y => do eqGuard .neq 32 (.tmp 70) (.const (.int .i64 (0))) x y; binOp .neq 32 x y) (.tmp 70) (.const (.int .i64 (0))) (.int .i64 (0)) (.int .i64 (0)) (.bool false) (fun _ => rfl) rfl rfl (by kernel_rfl) rfl ?_
  refine wl_pick (.tmp 69) (.const (.bool true)) (.tmp 71) false (.bool false) (fun _ => rfl) rfl rfl rfl ?_
  refine wl_mv (.tmp 72) (.bool false) (fun _ => rfl) rfl rfl ?_
  refine wl_mv (.tmp 13) (.int .i64 (0)) (fun _ => rfl) rfl rfl ?_
  refine wl_bin (fun x y => do eqGuard .neq 32 (.tmp 74) (.const (.int .i64 (0))) x y; binOp .neq 32 x y) (.tmp 74) (.const (.int .i64 (0))) (.int .i64 (0)) (.int .i64 (0)) (.bool false) (fun _ => rfl) rfl rfl (by kernel_rfl) rfl ?_
  refine wl_pick (.tmp 73) (.const (.bool true)) (.tmp 75) false (.bool false) (fun _ => rfl) rfl rfl rfl ?_
  refine wl_mv (.tmp 76) (.bool false) (fun _ => rfl) rfl rfl ?_
  refine wl_load 40 (.tmp 11) (pt k4 0) (rd q_b q_0 q_1 q_2 q_3 q_s) rfl rfl (run_row Q4 40 0 6 (rdl q_b q_0 q_1 q_2 q_3 q_s) rfl Try.underlying40 rfl sz40) rfl ?_
  refine wl_load 40 (.tmp 12) (pt k5 0) (rd o_b o_0 o_1 o_2 o_3 o_s) rfl rfl (run_row Q5 40 0 6 (rdl o_b o_0 o_1 o_2 o_3 o_s) rfl Try.underlying40 rfl sz40) rfl ?_
  refine wl_call 51 [(.tmp 78), (.tmp 79)] _ [rd q_b q_0 q_1 q_2 q_3 q_s, rd o_b o_0 o_1 o_2 o_3 o_s] (.int .i64 (-1)) rfl rfl (fun _ _ => by kernel_rfl) (h6 _) rfl ?_
  intro w17 hq
  replace Q1 := Q1.mo hq
  replace Q2 := Q2.mo hq
  replace Q3 := Q3.mo hq
  replace Q4 := Q4.mo hq
  replace Q5 := Q5.mo hq
  replace M := M.trans hq
  clear hq
  refine wl_bin (fun x y => do eqGuard .geq 3 (.tmp 80) (.const (.int .i64 (0))) x y; binOp .geq 3 x y) (.tmp 80) (.const (.int .i64 (0))) (.int .i64 (-1)) (.int .i64 (0)) (.bool false) (fun _ => rfl) rfl rfl (by kernel_rfl) rfl ?_
  refine wl_pick (.tmp 77) (.const (.bool true)) (.tmp 81) false (.bool false) (fun _ => rfl) rfl rfl rfl ?_
  refine w_nil ?_
  refine xn_then ?_
  refine w_condF rfl ?_
  refine w_skip ?_
  refine xn_then ?_
  refine w_seq ?_
  refine w_seq ?_
  refine w_reg ?_
  refine wl_mv (.tmp 1) (.int .i64 S) (fun _ => rfl) rfl rfl ?_
  refine wl_un (fun v => Instr.fieldAt 40 v 2) (.tmp 3) (pt k1 0) (pt k1 5) (fun _ => rfl) rfl (by kernel_rfl) rfl ?_
  refine wl_load 3 (.tmp 84) (pt k1 5) (.int .i64 a_s) rfl rfl (run_one Q1 3 5 rfl Try.underlying3 rfl) rfl ?_
  refine wl_bin (fun x y => do eqGuard .geq 3 (.tmp 83) (.tmp 85) x y; binOp .geq 3 x y) (.tmp 83) (.tmp 85) (.int .i64 S) (.int .i64 a_s) (.bool true) (fun _ => rfl) rfl rfl (geq3_run hge _ _ _) rfl ?_
  refine wl_mv (.tmp 86) (.bool true) (fun _ => rfl) rfl rfl ?_
  refine wl_load 40 (.tmp 11) (pt k4 0) (rd q_b q_0 q_1 q_2 q_3 q_s) rfl rfl (run_row Q4 40 0 6 (rdl q_b q_0 q_1 q_2 q_3 q_s) rfl Try.underlying40 rfl sz40) rfl ?_
  refine wl_call 31 [(.tmp 88)] _ [rd q_b q_0 q_1 q_2 q_3 q_s] (.int .i64 (0)) rfl rfl (fun _ _ => by kernel_rfl) (h7 _) rfl ?_
  intro w18 hq
  replace Q1 := Q1.mo hq
  replace Q2 := Q2.mo hq
  replace Q3 := Q3.mo hq
  replace Q4 := Q4.mo hq
  replace Q5 := Q5.mo hq
  replace M := M.trans hq
  clear hq
  refine wl_bin (fun x y => do eqGuard .neq 3 (.tmp 89) (.const (.int .i64 (0))) x y; binOp .neq 3 x y) (.tmp 89) (.const (.int .i64 (0))) (.int .i64 (0)) (.int .i64 (0)) (.bool false) (fun _ => rfl) rfl rfl (by kernel_rfl) rfl ?_
  refine wl_pick (.tmp 87) (.tmp 90) (.const (.bool false)) true (.bool false) (fun _ => rfl) rfl rfl rfl ?_
  refine w_nil ?_
  refine xn_then ?_
  refine w_condF rfl ?_
  refine w_skip ?_
  refine xn_then ?_
  refine w_seq ?_
  refine w_seq ?_
  refine w_reg ?_
  refine wl_mv (.tmp 2) (.int .i64 (1)) (fun _ => rfl) rfl rfl ?_
  refine wl_bin (fun x y => do eqGuard .neq 3 (.tmp 92) (.const (.int .i64 (1))) x y; binOp .neq 3 x y) (.tmp 92) (.const (.int .i64 (1))) (.int .i64 (1)) (.int .i64 (1)) (.bool false) (fun _ => rfl) rfl rfl (by kernel_rfl) rfl ?_
  refine wl_mv (.tmp 93) (.bool false) (fun _ => rfl) rfl rfl ?_
  refine wl_skip rfl ?_
  refine wl_skip rfl ?_
  refine wl_pick (.tmp 94) (.tmp 96) (.const (.bool false)) false (.bool false) (fun _ => rfl) rfl rfl rfl ?_
  refine w_nil ?_
  refine xn_then ?_
  refine w_condF rfl ?_
  refine w_skip ?_
  refine xn_then ?_
  refine w_seq ?_
  refine w_reg ?_
  refine wl_load 40 (.tmp 11) (pt k4 0) (rd q_b q_0 q_1 q_2 q_3 q_s) rfl rfl (run_row Q4 40 0 6 (rdl q_b q_0 q_1 q_2 q_3 q_s) rfl Try.underlying40 rfl sz40) rfl ?_
  refine wl_load 40 (.tmp 11) (pt k4 0) (rd q_b q_0 q_1 q_2 q_3 q_s) rfl rfl (run_row Q4 40 0 6 (rdl q_b q_0 q_1 q_2 q_3 q_s) rfl Try.underlying40 rfl sz40) rfl ?_
  refine wl_call 35 [(.tmp 99), (.tmp 100)] _ [rd q_b q_0 q_1 q_2 q_3 q_s, rd q_b q_0 q_1 q_2 q_3 q_s] (.tuple #[rd t_b t_0 t_1 t_2 t_3 t_s, .int .i64 (0)]) rfl rfl (fun _ _ => by kernel_rfl) (h8 _) rfl ?_
  intro w19 hq
  replace Q1 := Q1.mo hq
  replace Q2 := Q2.mo hq
  replace Q3 := Q3.mo hq
  replace Q4 := Q4.mo hq
  replace Q5 := Q5.mo hq
  replace M := M.trans hq
  clear hq
  refine wl_mv (.tmp 101) (.tuple #[rd t_b t_0 t_1 t_2 t_3 t_s, .int .i64 (0)]) (fun _ => rfl) rfl rfl ?_
  refine wl_un (fun v => Instr.extract v 0) (.tmp 98) (.tuple #[rd t_b t_0 t_1 t_2 t_3 t_s, .int .i64 (0)]) (rd t_b t_0 t_1 t_2 t_3 t_s) (fun _ => rfl) rfl (by kernel_rfl) rfl ?_
  refine wl_un (fun v => Instr.extract v 1) (.tmp 98) (.tuple #[rd t_b t_0 t_1 t_2 t_3 t_s, .int .i64 (0)]) (.int .i64 (0)) (fun _ => rfl) rfl (by kernel_rfl) rfl ?_
  refine wl_alloc 40 #[.bool false, .int .u64 0, .int .u64 0, .int .u64 0, .int .u64 0, .int .i64 0] rfl (fun _ => by kernel_rfl) rfl ?_
  intro k6 w20 hk hz hq Q6
  have ne_k1_k6 : k1 ≠ k6 := by have := Q1.lt; omega
  have ne_k2_k6 : k2 ≠ k6 := by have := Q2.lt; omega
  have ne_k3_k6 : k3 ≠ k6 := by have := Q3.lt; omega
  have ne_k4_k6 : k4 ≠ k6 := by have := Q4.lt; omega
  have ne_k5_k6 : k5 ≠ k6 := by have := Q5.lt; omega
  have N_k6 : w.heap.size ≤ k6 := by have := M.size; omega
  replace Q1 := Q1.mo hq
  replace Q2 := Q2.mo hq
  replace Q3 := Q3.mo hq
  replace Q4 := Q4.mo hq
  replace Q5 := Q5.mo hq
  replace M := M.trans hq
  clear hk hz hq
  refine wl_st 40 (.tmp 14) (.tmp 102) k6 0 (rda t_b t_0 t_1 t_2 t_3 t_s) [.bool false, .int .u64 0, .int .u64 0, .int .u64 0, .int .u64 0, .int .i64 0] (rdl t_b t_0 t_1 t_2 t_3 t_s) Q6 rfl rfl rfl rfl rfl sz40 rfl rfl rfl ?_
  intro w21 hS Qn
  replace Q6 := Qn
  clear Qn
  replace Q1 := hS.other _ _ ne_k1_k6 Q1
  replace Q2 := hS.other _ _ ne_k2_k6 Q2
  replace Q3 := hS.other _ _ ne_k3_k6 Q3
  replace Q4 := hS.other _ _ ne_k4_k6 Q4
  replace Q5 := hS.other _ _ ne_k5_k6 Q5
  replace M := hS.mo _ N_k6 M
  clear hS
  refine wl_mv (.tmp 103) (.int .i64 (0)) (fun _ => rfl) rfl rfl ?_
  refine w_nil ?_
  refine xn_then ?_
  refine w_seq ?_
  refine w_reg ?_
  refine wl_mv (.tmp 8) (.int .i64 (0)) (fun _ => rfl) rfl rfl ?_
  refine wl_bin (fun x y => do eqGuard .eql 32 (.tmp 104) (.const (.int .i64 (0))) x y; binOp .eql 32 x y) (.tmp 104) (.const (.int .i64 (0))) (.int .i64 (0)) (.int .i64 (0)) (.bool true) (fun _ => rfl) rfl rfl (by kernel_rfl) rfl ?_
  refine wl_mv (.tmp 105) (.bool true) (fun _ => rfl) rfl rfl ?_
  refine wl_load 40 (.tmp 14) (pt k6 0) (rd t_b t_0 t_1 t_2 t_3 t_s) rfl rfl (run_row Q6 40 0 6 (rdl t_b t_0 t_1 t_2 t_3 t_s) rfl Try.underlying40 rfl sz40) rfl ?_
  refine wl_load 40 (.tmp 12) (pt k5 0) (rd o_b o_0 o_1 o_2 o_3 o_s) rfl rfl (run_row Q5 40 0 6 (rdl o_b o_0 o_1 o_2 o_3 o_s) rfl Try.underlying40 rfl sz40) rfl ?_
  refine wl_call 51 [(.tmp 107), (.tmp 108)] _ [rd t_b t_0 t_1 t_2 t_3 t_s, rd o_b o_0 o_1 o_2 o_3 o_s] (.int .i64 c) rfl rfl (fun _ _ => by kernel_rfl) (h9 _) rfl ?_
  intro w22 hq
  replace Q1 := Q1.mo hq
  replace Q2 := Q2.mo hq
  replace Q3 := Q3.mo hq
  replace Q4 := Q4.mo hq
  replace Q5 := Q5.mo hq
  replace Q6 := Q6.mo hq
  replace M := M.trans hq
  clear hq
  refine wl_bin (fun x y => do eqGuard .leq 3 (.tmp 109) (.const (.int .i64 (0))) x y; binOp .leq 3 x y) (.tmp 109) (.const (.int .i64 (0))) (.int .i64 c) (.int .i64 (0)) (.bool true) (fun _ => rfl) rfl rfl (leq3_run hc _ _ _) rfl ?_
  refine wl_pick (.tmp 106) (.tmp 110) (.const (.bool false)) true (.bool true) (fun _ => rfl) rfl rfl rfl ?_
  refine wl_mv (.tmp 111) (.bool true) (fun _ => rfl) rfl rfl ?_
  refine w_nil ?_
  refine xn_then ?_
  refine w_ret ?_
  exact w_ret1 _ (.bool true) rfl rfl ⟨rfl, M⟩
theorem rounds_ge_2 (a_b : Bool) (a_0 a_1 a_2 a_3 a_s : Int) (d_b : Bool) (d_0 d_1 d_2 d_3 d_s : Int) (q_b : Bool) (q_0 q_1 q_2 q_3 q_s : Int) (o_b : Bool) (o_0 o_1 o_2 o_3 o_s : Int) (t_b : Bool) (t_0 t_1 t_2 t_3 t_s : Int) (c : Int) (x_b : Bool) (x_0 x_1 x_2 x_3 : Int) (S : Int) (w : World) (h1 : ∀ w, Calls Try.prog 43 #[rd a_b a_0 a_1 a_2 a_3 a_s, .int .i64 S, .int .i64 (2)] w fun e' w' => e' = .returned (.tuple #[rd x_b x_0 x_1 x_2 x_3 S, .int .i64 (0)]) ∧ Mo w w') (h2 : ∀ w, Calls Try.prog 43 #[rd x_b x_0 x_1 x_2 x_3 S, .int .i64 S, .int .i64 (2)] w fun e' w' => e' = .returned (.tuple #[rd x_b x_0 x_1 x_2 x_3 S, .int .i64 (0)]) ∧ Mo w w') (h3 : ∀ w, Calls Try.prog 37 #[rd x_b x_0 x_1 x_2 x_3 S, rd a_b a_0 a_1 a_2 a_3 a_s] w fun e' w' => e' = .returned (.tuple #[rd d_b d_0 d_1 d_2 d_3 d_s, .int .i64 (0)]) ∧ Mo w w') (h4 : ∀ w, Calls Try.prog 49 #[rd d_b d_0 d_1 d_2 d_3 d_s] w fun e' w' => e' = .returned (.tuple #[rd q_b q_0 q_1 q_2 q_3 q_s, .int .i64 (0)]) ∧ Mo w w') (h5 : ∀ w, Calls Try.prog 26 #[.int .i64 (1), .int .i64 S] w fun e' w' => e' = .returned (.tuple #[rd o_b o_0 o_1 o_2 o_3 o_s, .int .i64 (0)]) ∧ Mo w w') (h6 : ∀ w, Calls Try.prog 51 #[rd q_b q_0 q_1 q_2 q_3 q_s, rd o_b o_0 o_1 o_2 o_3 o_s] w fun e' w' => e' = .returned (.int .i64 (-1)) ∧ Mo w w') (hge : decide (S ≥ a_s) = true) (h7 : ∀ w, Calls Try.prog 31 #[rd q_b q_0 q_1 q_2 q_3 q_s] w fun e' w' => e' = .returned (.int .i64 (0)) ∧ Mo w w') (h8 : ∀ w, Calls Try.prog 35 #[rd q_b q_0 q_1 q_2 q_3 q_s, rd q_b q_0 q_1 q_2 q_3 q_s] w fun e' w' => e' = .returned (.tuple #[rd t_b t_0 t_1 t_2 t_3 t_s, .int .i64 (0)]) ∧ Mo w w') (h9 : ∀ w, Calls Try.prog 51 #[rd t_b t_0 t_1 t_2 t_3 t_s, rd o_b o_0 o_1 o_2 o_3 o_s] w fun e' w' => e' = .returned (.int .i64 c) ∧ Mo w w') (hc : decide (c ≤ 0) = true) :
    Calls Try.prog 12 #[rd a_b a_0 a_1 a_2 a_3 a_s, .int .i64 S, .int .i64 (2)] w fun e' w' => e' = .returned (.bool true) ∧ Mo w w' := by
  refine w_enter 112 Try.func12 Try.ntmps12 rfl rfl ?_
  have M : Mo w w := Mo.refl _
  refine w_seq ?_
  refine w_reg ?_
  refine wl_box 40 (.tmp 0) (rd a_b a_0 a_1 a_2 a_3 a_s) ((rda a_b a_0 a_1 a_2 a_3 a_s)) rfl rfl (fun _ => by kernel_rfl) rfl ?_
  intro k1 w1 hk hz hq Q1
  have N_k1 : w.heap.size ≤ k1 := by have := M.size; omega
  replace M := M.trans hq
  clear hk hz hq
  refine wl_mv (.const (.bool false)) (.bool false) (fun _ => rfl) rfl rfl ?_
  refine w_nil ?_
  refine xn_then ?_
  refine w_seq ?_
  refine w_reg ?_
  refine wl_load 40 (.tmp 3) (pt k1 0) (rd a_b a_0 a_1 a_2 a_3 a_s) rfl rfl (run_row Q1 40 0 6 (rdl a_b a_0 a_1 a_2 a_3 a_s) rfl Try.underlying40 rfl sz40) rfl ?_
  refine wl_mv (.tmp 1) (.int .i64 S) (fun _ => rfl) rfl rfl ?_
  refine wl_mv (.tmp 2) (.int .i64 (2)) (fun _ => rfl) rfl rfl ?_
  refine wl_call 43 [(.tmp 16), (.tmp 17), (.tmp 18)] _ [rd a_b a_0 a_1 a_2 a_3 a_s, .int .i64 S, .int .i64 (2)] (.tuple #[rd x_b x_0 x_1 x_2 x_3 S, .int .i64 (0)]) rfl rfl (fun _ _ => by kernel_rfl) (h1 _) rfl ?_
  intro w2 hq
  replace Q1 := Q1.mo hq
  replace M := M.trans hq
  clear hq
  refine wl_mv (.tmp 19) (.tuple #[rd x_b x_0 x_1 x_2 x_3 S, .int .i64 (0)]) (fun _ => rfl) rfl rfl ?_
  refine wl_un (fun v => Instr.extract v 0) (.tmp 15) (.tuple #[rd x_b x_0 x_1 x_2 x_3 S, .int .i64 (0)]) (rd x_b x_0 x_1 x_2 x_3 S) (fun _ => rfl) rfl (by kernel_rfl) rfl ?_
  refine wl_un (fun v => Instr.extract v 1) (.tmp 15) (.tuple #[rd x_b x_0 x_1 x_2 x_3 S, .int .i64 (0)]) (.int .i64 (0)) (fun _ => rfl) rfl (by kernel_rfl) rfl ?_
  refine wl_alloc 40 #[.bool false, .int .u64 0, .int .u64 0, .int .u64 0, .int .u64 0, .int .i64 0] rfl (fun _ => by kernel_rfl) rfl ?_
  intro k2 w3 hk hz hq Q2
  have ne_k1_k2 : k1 ≠ k2 := by have := Q1.lt; omega
  have N_k2 : w.heap.size ≤ k2 := by have := M.size; omega
  replace Q1 := Q1.mo hq
  replace M := M.trans hq
  clear hk hz hq
  refine wl_st 40 (.tmp 7) (.tmp 20) k2 0 (rda x_b x_0 x_1 x_2 x_3 S) [.bool false, .int .u64 0, .int .u64 0, .int .u64 0, .int .u64 0, .int .i64 0] (rdl x_b x_0 x_1 x_2 x_3 S) Q2 rfl rfl rfl rfl rfl sz40 rfl rfl rfl ?_
  intro w4 hS Qn
  replace Q2 := Qn
  clear Qn
  replace Q1 := hS.other _ _ ne_k1_k2 Q1
  replace M := hS.mo _ N_k2 M
  clear hS
  refine wl_mv (.tmp 21) (.int .i64 (0)) (fun _ => rfl) rfl rfl ?_
  refine w_nil ?_
  refine xn_then ?_
  refine w_seq ?_
  refine w_seq ?_
  refine w_reg ?_
  refine wl_call 28 [] _ [] (.bool true) rfl rfl (fun _ _ => by kernel_rfl) (begun_n _) rfl ?_
  intro w5 hq
  replace Q1 := Q1.mo hq
  replace Q2 := Q2.mo hq
  replace M := M.trans hq
  clear hq
  refine wl_un (fun v => Op.unary .not v) (.tmp 22) (.bool true) (.bool false) (fun _ => rfl) rfl (by kernel_rfl) rfl ?_
  refine wl_mv (.tmp 23) (.bool false) (fun _ => rfl) rfl rfl ?_
  refine wl_mv (.tmp 8) (.int .i64 (0)) (fun _ => rfl) rfl rfl ?_
  refine wl_bin (fun x y => do eqGuard .neq 32 (.tmp 25) (.const (.int .i64 (0))) x y; binOp .neq 32 x y) (.tmp 25) (.const (.int .i64 (0))) (.int .i64 (0)) (.int .i64 (0)) (.bool false) (fun _ => rfl) rfl rfl (by kernel_rfl) rfl ?_
  refine wl_pick (.tmp 24) (.const (.bool true)) (.tmp 26) false (.bool false) (fun _ => rfl) rfl rfl rfl ?_
  refine w_nil ?_
  refine xn_then ?_
  refine w_condF rfl ?_
  refine w_skip ?_
  refine xn_then ?_
  refine w_seq ?_
  refine w_reg ?_
  refine wl_load 40 (.tmp 7) (pt k2 0) (rd x_b x_0 x_1 x_2 x_3 S) rfl rfl (run_row Q2 40 0 6 (rdl x_b x_0 x_1 x_2 x_3 S) rfl Try.underlying40 rfl sz40) rfl ?_
  refine wl_mv (.tmp 1) (.int .i64 S) (fun _ => rfl) rfl rfl ?_
  refine wl_mv (.tmp 2) (.int .i64 (2)) (fun _ => rfl) rfl rfl ?_
  refine wl_call 43 [(.tmp 30), (.tmp 31), (.tmp 32)] _ [rd x_b x_0 x_1 x_2 x_3 S, .int .i64 S, .int .i64 (2)] (.tuple #[rd x_b x_0 x_1 x_2 x_3 S, .int .i64 (0)]) rfl rfl (fun _ _ => by kernel_rfl) (h2 _) rfl ?_
  intro w6 hq
  replace Q1 := Q1.mo hq
  replace Q2 := Q2.mo hq
  replace M := M.trans hq
  clear hq
  refine wl_mv (.tmp 33) (.tuple #[rd x_b x_0 x_1 x_2 x_3 S, .int .i64 (0)]) (fun _ => rfl) rfl rfl ?_
  refine wl_un (fun v => Instr.extract v 0) (.tmp 29) (.tuple #[rd x_b x_0 x_1 x_2 x_3 S, .int .i64 (0)]) (rd x_b x_0 x_1 x_2 x_3 S) (fun _ => rfl) rfl (by kernel_rfl) rfl ?_
  refine wl_un (fun v => Instr.extract v 1) (.tmp 29) (.tuple #[rd x_b x_0 x_1 x_2 x_3 S, .int .i64 (0)]) (.int .i64 (0)) (fun _ => rfl) rfl (by kernel_rfl) rfl ?_
  refine wl_alloc 40 #[.bool false, .int .u64 0, .int .u64 0, .int .u64 0, .int .u64 0, .int .i64 0] rfl (fun _ => by kernel_rfl) rfl ?_
  intro k3 w7 hk hz hq Q3
  have ne_k1_k3 : k1 ≠ k3 := by have := Q1.lt; omega
  have ne_k2_k3 : k2 ≠ k3 := by have := Q2.lt; omega
  have N_k3 : w.heap.size ≤ k3 := by have := M.size; omega
  replace Q1 := Q1.mo hq
  replace Q2 := Q2.mo hq
  replace M := M.trans hq
  clear hk hz hq
  refine wl_st 40 (.tmp 9) (.tmp 34) k3 0 (rda x_b x_0 x_1 x_2 x_3 S) [.bool false, .int .u64 0, .int .u64 0, .int .u64 0, .int .u64 0, .int .i64 0] (rdl x_b x_0 x_1 x_2 x_3 S) Q3 rfl rfl rfl rfl rfl sz40 rfl rfl rfl ?_
  intro w8 hS Qn
  replace Q3 := Qn
  clear Qn
  replace Q1 := hS.other _ _ ne_k1_k3 Q1
  replace Q2 := hS.other _ _ ne_k2_k3 Q2
  replace M := hS.mo _ N_k3 M
  clear hS
  refine wl_mv (.tmp 35) (.int .i64 (0)) (fun _ => rfl) rfl rfl ?_
  refine w_nil ?_
  refine xn_then ?_
  refine w_seq ?_
  refine w_seq ?_
  refine w_reg ?_
  refine wl_load 40 (.tmp 9) (pt k3 0) (rd x_b x_0 x_1 x_2 x_3 S) rfl rfl (run_row Q3 40 0 6 (rdl x_b x_0 x_1 x_2 x_3 S) rfl Try.underlying40 rfl sz40) rfl ?_
  refine wl_load 40 (.tmp 7) (pt k2 0) (rd x_b x_0 x_1 x_2 x_3 S) rfl rfl (run_row Q2 40 0 6 (rdl x_b x_0 x_1 x_2 x_3 S) rfl Try.underlying40 rfl sz40) rfl ?_
  refine wl_bin (fun x y => do eqGuard .neq 40 (.tmp 36) (.tmp 37) x y; binOp .neq 40 x y) (.tmp 36) (.tmp 37) (rd x_b x_0 x_1 x_2 x_3 S) (rd x_b x_0 x_1 x_2 x_3 S) (.bool false) (fun _ => rfl) rfl rfl (ned_run (self6 _ _ _ _ _ _) _ _ _) rfl ?_
  refine wl_mv (.tmp 38) (.bool false) (fun _ => rfl) rfl rfl ?_
  refine wl_mv (.tmp 10) (.int .i64 (0)) (fun _ => rfl) rfl rfl ?_
  refine wl_bin (fun x y => do eqGuard .neq 32 (.tmp 40) (.const (.int .i64 (0))) x y; binOp .neq 32 x y) (.tmp 40) (.const (.int .i64 (0))) (.int .i64 (0)) (.int .i64 (0)) (.bool false) (fun _ => rfl) rfl rfl (by kernel_rfl) rfl ?_
  refine wl_pick (.tmp 39) (.const (.bool true)) (.tmp 41) false (.bool false) (fun _ => rfl) rfl rfl rfl ?_
  refine wl_mv (.tmp 42) (.bool false) (fun _ => rfl) rfl rfl ?_
  refine wl_un (fun v => Instr.fieldAt 40 v 2) (.tmp 7) (pt k2 0) (pt k2 5) (fun _ => rfl) rfl (by kernel_rfl) rfl ?_
  refine wl_load 3 (.tmp 44) (pt k2 5) (.int .i64 S) rfl rfl (run_one Q2 3 5 rfl Try.underlying3 rfl) rfl ?_
  refine wl_mv (.tmp 1) (.int .i64 S) (fun _ => rfl) rfl rfl ?_
  refine wl_bin (fun x y => do eqGuard .neq 3 (.tmp 45) (.tmp 46) x y; binOp .neq 3 x y) (.tmp 45) (.tmp 46) (.int .i64 S) (.int .i64 S) (.bool false) (fun _ => rfl) rfl rfl (neq3_run (by simp) _ _ _) rfl ?_
  refine wl_pick (.tmp 43) (.const (.bool true)) (.tmp 47) false (.bool false) (fun _ => rfl) rfl rfl rfl ?_
  refine w_nil ?_
  refine xn_then ?_
  refine w_condF rfl ?_
  refine w_skip ?_
  refine xn_then ?_
  refine w_seq ?_
  refine w_reg ?_
  refine wl_load 40 (.tmp 7) (pt k2 0) (rd x_b x_0 x_1 x_2 x_3 S) rfl rfl (run_row Q2 40 0 6 (rdl x_b x_0 x_1 x_2 x_3 S) rfl Try.underlying40 rfl sz40) rfl ?_
  refine wl_load 40 (.tmp 3) (pt k1 0) (rd a_b a_0 a_1 a_2 a_3 a_s) rfl rfl (run_row Q1 40 0 6 (rdl a_b a_0 a_1 a_2 a_3 a_s) rfl Try.underlying40 rfl sz40) rfl ?_
  refine wl_call 37 [(.tmp 50), (.tmp 51)] _ [rd x_b x_0 x_1 x_2 x_3 S, rd a_b a_0 a_1 a_2 a_3 a_s] (.tuple #[rd d_b d_0 d_1 d_2 d_3 d_s, .int .i64 (0)]) rfl rfl (fun _ _ => by kernel_rfl) (h3 _) rfl ?_
  intro w9 hq
  replace Q1 := Q1.mo hq
  replace Q2 := Q2.mo hq
  replace Q3 := Q3.mo hq
  replace M := M.trans hq
  clear hq
  refine wl_mv (.tmp 52) (.tuple #[rd d_b d_0 d_1 d_2 d_3 d_s, .int .i64 (0)]) (fun _ => rfl) rfl rfl ?_
  refine wl_un (fun v => Instr.extract v 0) (.tmp 49) (.tuple #[rd d_b d_0 d_1 d_2 d_3 d_s, .int .i64 (0)]) (rd d_b d_0 d_1 d_2 d_3 d_s) (fun _ => rfl) rfl (by kernel_rfl) rfl ?_
  refine wl_un (fun v => Instr.extract v 1) (.tmp 49) (.tuple #[rd d_b d_0 d_1 d_2 d_3 d_s, .int .i64 (0)]) (.int .i64 (0)) (fun _ => rfl) rfl (by kernel_rfl) rfl ?_
  refine wl_alloc 40 #[.bool false, .int .u64 0, .int .u64 0, .int .u64 0, .int .u64 0, .int .i64 0] rfl (fun _ => by kernel_rfl) rfl ?_
  intro k4 w10 hk hz hq Q4
  have ne_k1_k4 : k1 ≠ k4 := by have := Q1.lt; omega
  have ne_k2_k4 : k2 ≠ k4 := by have := Q2.lt; omega
  have ne_k3_k4 : k3 ≠ k4 := by have := Q3.lt; omega
  have N_k4 : w.heap.size ≤ k4 := by have := M.size; omega
  replace Q1 := Q1.mo hq
  replace Q2 := Q2.mo hq
  replace Q3 := Q3.mo hq
  replace M := M.trans hq
  clear hk hz hq
  refine wl_st 40 (.tmp 11) (.tmp 53) k4 0 (rda d_b d_0 d_1 d_2 d_3 d_s) [.bool false, .int .u64 0, .int .u64 0, .int .u64 0, .int .u64 0, .int .i64 0] (rdl d_b d_0 d_1 d_2 d_3 d_s) Q4 rfl rfl rfl rfl rfl sz40 rfl rfl rfl ?_
  intro w11 hS Qn
  replace Q4 := Qn
  clear Qn
  replace Q1 := hS.other _ _ ne_k1_k4 Q1
  replace Q2 := hS.other _ _ ne_k2_k4 Q2
  replace Q3 := hS.other _ _ ne_k3_k4 Q3
  replace M := hS.mo _ N_k4 M
  clear hS
  refine wl_mv (.tmp 54) (.int .i64 (0)) (fun _ => rfl) rfl rfl ?_
  refine w_nil ?_
  refine xn_then ?_
  refine w_seq ?_
  refine w_seq ?_
  refine w_reg ?_
  refine wl_mv (.tmp 8) (.int .i64 (0)) (fun _ => rfl) rfl rfl ?_
  refine wl_bin (fun x y => do eqGuard .eql 32 (.tmp 55) (.const (.int .i64 (7))) x y; binOp .eql 32 x y) (.tmp 55) (.const (.int .i64 (7))) (.int .i64 (0)) (.int .i64 (7)) (.bool false) (fun _ => rfl) rfl rfl (by kernel_rfl) rfl ?_
  refine w_nil ?_
  refine xn_then ?_
  refine w_condF rfl ?_
  refine w_skip ?_
  refine xn_then ?_
  refine w_seq ?_
  refine w_reg ?_
  refine wl_load 40 (.tmp 11) (pt k4 0) (rd d_b d_0 d_1 d_2 d_3 d_s) rfl rfl (run_row Q4 40 0 6 (rdl d_b d_0 d_1 d_2 d_3 d_s) rfl Try.underlying40 rfl sz40) rfl ?_
  refine wl_call 49 [(.tmp 58)] _ [rd d_b d_0 d_1 d_2 d_3 d_s] (.tuple #[rd q_b q_0 q_1 q_2 q_3 q_s, .int .i64 (0)]) rfl rfl (fun _ _ => by kernel_rfl) (h4 _) rfl ?_
  intro w12 hq
  replace Q1 := Q1.mo hq
  replace Q2 := Q2.mo hq
  replace Q3 := Q3.mo hq
  replace Q4 := Q4.mo hq
  replace M := M.trans hq
  clear hq
  refine wl_mv (.tmp 59) (.tuple #[rd q_b q_0 q_1 q_2 q_3 q_s, .int .i64 (0)]) (fun _ => rfl) rfl rfl ?_
  refine wl_un (fun v => Instr.extract v 0) (.tmp 57) (.tuple #[rd q_b q_0 q_1 q_2 q_3 q_s, .int .i64 (0)]) (rd q_b q_0 q_1 q_2 q_3 q_s) (fun _ => rfl) rfl (by kernel_rfl) rfl ?_
  refine wl_un (fun v => Instr.extract v 1) (.tmp 57) (.tuple #[rd q_b q_0 q_1 q_2 q_3 q_s, .int .i64 (0)]) (.int .i64 (0)) (fun _ => rfl) rfl (by kernel_rfl) rfl ?_
  refine wl_st 40 (.tmp 11) (.tmp 60) k4 0 (rda q_b q_0 q_1 q_2 q_3 q_s) (rdl d_b d_0 d_1 d_2 d_3 d_s) (rdl q_b q_0 q_1 q_2 q_3 q_s) Q4 rfl rfl rfl rfl rfl sz40 rfl rfl rfl ?_
  intro w13 hS Qn
  replace Q4 := Qn
  clear Qn
  replace Q1 := hS.other _ _ ne_k1_k4 Q1
  replace Q2 := hS.other _ _ ne_k2_k4 Q2
  replace Q3 := hS.other _ _ ne_k3_k4 Q3
  replace M := hS.mo _ N_k4 M
  clear hS
  refine wl_mv (.tmp 61) (.int .i64 (0)) (fun _ => rfl) rfl rfl ?_
  refine w_nil ?_
  refine xn_then ?_
  refine w_seq ?_
  refine w_reg ?_
  refine wl_mv (.tmp 1) (.int .i64 S) (fun _ => rfl) rfl rfl ?_
  refine wl_call 26 [(.const (.int .i64 (1))), (.tmp 63)] _ [.int .i64 (1), .int .i64 S] (.tuple #[rd o_b o_0 o_1 o_2 o_3 o_s, .int .i64 (0)]) rfl rfl (fun _ _ => by kernel_rfl) (h5 _) rfl ?_
  intro w14 hq
  replace Q1 := Q1.mo hq
  replace Q2 := Q2.mo hq
  replace Q3 := Q3.mo hq
  replace Q4 := Q4.mo hq
  replace M := M.trans hq
  clear hq
  refine wl_mv (.tmp 64) (.tuple #[rd o_b o_0 o_1 o_2 o_3 o_s, .int .i64 (0)]) (fun _ => rfl) rfl rfl ?_
  refine wl_un (fun v => Instr.extract v 0) (.tmp 62) (.tuple #[rd o_b o_0 o_1 o_2 o_3 o_s, .int .i64 (0)]) (rd o_b o_0 o_1 o_2 o_3 o_s) (fun _ => rfl) rfl (by kernel_rfl) rfl ?_
  refine wl_un (fun v => Instr.extract v 1) (.tmp 62) (.tuple #[rd o_b o_0 o_1 o_2 o_3 o_s, .int .i64 (0)]) (.int .i64 (0)) (fun _ => rfl) rfl (by kernel_rfl) rfl ?_
  refine wl_alloc 40 #[.bool false, .int .u64 0, .int .u64 0, .int .u64 0, .int .u64 0, .int .i64 0] rfl (fun _ => by kernel_rfl) rfl ?_
  intro k5 w15 hk hz hq Q5
  have ne_k1_k5 : k1 ≠ k5 := by have := Q1.lt; omega
  have ne_k2_k5 : k2 ≠ k5 := by have := Q2.lt; omega
  have ne_k3_k5 : k3 ≠ k5 := by have := Q3.lt; omega
  have ne_k4_k5 : k4 ≠ k5 := by have := Q4.lt; omega
  have N_k5 : w.heap.size ≤ k5 := by have := M.size; omega
  replace Q1 := Q1.mo hq
  replace Q2 := Q2.mo hq
  replace Q3 := Q3.mo hq
  replace Q4 := Q4.mo hq
  replace M := M.trans hq
  clear hk hz hq
  refine wl_st 40 (.tmp 12) (.tmp 65) k5 0 (rda o_b o_0 o_1 o_2 o_3 o_s) [.bool false, .int .u64 0, .int .u64 0, .int .u64 0, .int .u64 0, .int .i64 0] (rdl o_b o_0 o_1 o_2 o_3 o_s) Q5 rfl rfl rfl rfl rfl sz40 rfl rfl rfl ?_
  intro w16 hS Qn
  replace Q5 := Qn
  clear Qn
  replace Q1 := hS.other _ _ ne_k1_k5 Q1
  replace Q2 := hS.other _ _ ne_k2_k5 Q2
  replace Q3 := hS.other _ _ ne_k3_k5 Q3
  replace Q4 := hS.other _ _ ne_k4_k5 Q4
  replace M := hS.mo _ N_k5 M
  clear hS
  refine wl_mv (.tmp 66) (.int .i64 (0)) (fun _ => rfl) rfl rfl ?_
  refine w_nil ?_
  refine xn_then ?_
  refine w_seq ?_
  refine w_seq ?_
  refine w_reg ?_
  refine wl_mv (.tmp 8) (.int .i64 (0)) (fun _ => rfl) rfl rfl ?_
  refine wl_bin (fun x y => do eqGuard .neq 32 (.tmp 67) (.const (.int .i64 (0))) x y; binOp .neq 32 x y) (.tmp 67) (.const (.int .i64 (0))) (.int .i64 (0)) (.int .i64 (0)) (.bool false) (fun _ => rfl) rfl rfl (by kernel_rfl) rfl ?_
  refine wl_mv (.tmp 68) (.bool false) (fun _ => rfl) rfl rfl ?_
  refine wl_mv (.tmp 10) (.int .i64 (0)) (fun _ => rfl) rfl rfl ?_
  refine wl_bin (fun x y => do eqGuard .neq 32 (.tmp 70) (.const (.int .i64 (0))) x y; binOp .neq 32 x y) (.tmp 70) (.const (.int .i64 (0))) (.int .i64 (0)) (.int .i64 (0)) (.bool false) (fun _ => rfl) rfl rfl (by kernel_rfl) rfl ?_
  refine wl_pick (.tmp 69) (.const (.bool true)) (.tmp 71) false (.bool false) (fun _ => rfl) rfl rfl rfl ?_
  refine wl_mv (.tmp 72) (.bool false) (fun _ => rfl) rfl rfl ?_
  refine wl_mv (.tmp 13) (.int .i64 (0)) (fun _ => rfl) rfl rfl ?_
  refine wl_bin (fun x y => do eqGuard .neq 32 (.tmp 74) (.const (.int .i64 (0))) x y; binOp .neq 32 x y) (.tmp 74) (.const (.int .i64 (0))) (.int .i64 (0)) (.int .i64 (0)) (.bool false) (fun _ => rfl) rfl rfl (by kernel_rfl) rfl ?_
  refine wl_pick (.tmp 73) (.const (.bool true)) (.tmp 75) false (.bool false) (fun _ => rfl) rfl rfl rfl ?_
  refine wl_mv (.tmp 76) (.bool false) (fun _ => rfl) rfl rfl ?_
  refine wl_load 40 (.tmp 11) (pt k4 0) (rd q_b q_0 q_1 q_2 q_3 q_s) rfl rfl (run_row Q4 40 0 6 (rdl q_b q_0 q_1 q_2 q_3 q_s) rfl Try.underlying40 rfl sz40) rfl ?_
  refine wl_load 40 (.tmp 12) (pt k5 0) (rd o_b o_0 o_1 o_2 o_3 o_s) rfl rfl (run_row Q5 40 0 6 (rdl o_b o_0 o_1 o_2 o_3 o_s) rfl Try.underlying40 rfl sz40) rfl ?_
  refine wl_call 51 [(.tmp 78), (.tmp 79)] _ [rd q_b q_0 q_1 q_2 q_3 q_s, rd o_b o_0 o_1 o_2 o_3 o_s] (.int .i64 (-1)) rfl rfl (fun _ _ => by kernel_rfl) (h6 _) rfl ?_
  intro w17 hq
  replace Q1 := Q1.mo hq
  replace Q2 := Q2.mo hq
  replace Q3 := Q3.mo hq
  replace Q4 := Q4.mo hq
  replace Q5 := Q5.mo hq
  replace M := M.trans hq
  clear hq
  refine wl_bin (fun x y => do eqGuard .geq 3 (.tmp 80) (.const (.int .i64 (0))) x y; binOp .geq 3 x y) (.tmp 80) (.const (.int .i64 (0))) (.int .i64 (-1)) (.int .i64 (0)) (.bool false) (fun _ => rfl) rfl rfl (by kernel_rfl) rfl ?_
  refine wl_pick (.tmp 77) (.const (.bool true)) (.tmp 81) false (.bool false) (fun _ => rfl) rfl rfl rfl ?_
  refine w_nil ?_
  refine xn_then ?_
  refine w_condF rfl ?_
  refine w_skip ?_
  refine xn_then ?_
  refine w_seq ?_
  refine w_seq ?_
  refine w_reg ?_
  refine wl_mv (.tmp 1) (.int .i64 S) (fun _ => rfl) rfl rfl ?_
  refine wl_un (fun v => Instr.fieldAt 40 v 2) (.tmp 3) (pt k1 0) (pt k1 5) (fun _ => rfl) rfl (by kernel_rfl) rfl ?_
  refine wl_load 3 (.tmp 84) (pt k1 5) (.int .i64 a_s) rfl rfl (run_one Q1 3 5 rfl Try.underlying3 rfl) rfl ?_
  refine wl_bin (fun x y => do eqGuard .geq 3 (.tmp 83) (.tmp 85) x y; binOp .geq 3 x y) (.tmp 83) (.tmp 85) (.int .i64 S) (.int .i64 a_s) (.bool true) (fun _ => rfl) rfl rfl (geq3_run hge _ _ _) rfl ?_
  refine wl_mv (.tmp 86) (.bool true) (fun _ => rfl) rfl rfl ?_
  refine wl_load 40 (.tmp 11) (pt k4 0) (rd q_b q_0 q_1 q_2 q_3 q_s) rfl rfl (run_row Q4 40 0 6 (rdl q_b q_0 q_1 q_2 q_3 q_s) rfl Try.underlying40 rfl sz40) rfl ?_
  refine wl_call 31 [(.tmp 88)] _ [rd q_b q_0 q_1 q_2 q_3 q_s] (.int .i64 (0)) rfl rfl (fun _ _ => by kernel_rfl) (h7 _) rfl ?_
  intro w18 hq
  replace Q1 := Q1.mo hq
  replace Q2 := Q2.mo hq
  replace Q3 := Q3.mo hq
  replace Q4 := Q4.mo hq
  replace Q5 := Q5.mo hq
  replace M := M.trans hq
  clear hq
  refine wl_bin (fun x y => do eqGuard .neq 3 (.tmp 89) (.const (.int .i64 (0))) x y; binOp .neq 3 x y) (.tmp 89) (.const (.int .i64 (0))) (.int .i64 (0)) (.int .i64 (0)) (.bool false) (fun _ => rfl) rfl rfl (by kernel_rfl) rfl ?_
  refine wl_pick (.tmp 87) (.tmp 90) (.const (.bool false)) true (.bool false) (fun _ => rfl) rfl rfl rfl ?_
  refine w_nil ?_
  refine xn_then ?_
  refine w_condF rfl ?_
  refine w_skip ?_
  refine xn_then ?_
  refine w_seq ?_
  refine w_seq ?_
  refine w_reg ?_
  refine wl_mv (.tmp 2) (.int .i64 (2)) (fun _ => rfl) rfl rfl ?_
  refine wl_bin (fun x y => do eqGuard .neq 3 (.tmp 92) (.const (.int .i64 (1))) x y; binOp .neq 3 x y) (.tmp 92) (.const (.int .i64 (1))) (.int .i64 (2)) (.int .i64 (1)) (.bool true) (fun _ => rfl) rfl rfl (by kernel_rfl) rfl ?_
  refine wl_mv (.tmp 93) (.bool true) (fun _ => rfl) rfl rfl ?_
  refine wl_mv (.tmp 2) (.int .i64 (2)) (fun _ => rfl) rfl rfl ?_
  refine wl_bin (fun x y => do eqGuard .neq 3 (.tmp 95) (.const (.int .i64 (2))) x y; binOp .neq 3 x y) (.tmp 95) (.const (.int .i64 (2))) (.int .i64 (2)) (.int .i64 (2)) (.bool false) (fun _ => rfl) rfl rfl (by kernel_rfl) rfl ?_
  refine wl_pick (.tmp 94) (.tmp 96) (.const (.bool false)) true (.bool false) (fun _ => rfl) rfl rfl rfl ?_
  refine w_nil ?_
  refine xn_then ?_
  refine w_condF rfl ?_
  refine w_skip ?_
  refine xn_then ?_
  refine w_seq ?_
  refine w_reg ?_
  refine wl_load 40 (.tmp 11) (pt k4 0) (rd q_b q_0 q_1 q_2 q_3 q_s) rfl rfl (run_row Q4 40 0 6 (rdl q_b q_0 q_1 q_2 q_3 q_s) rfl Try.underlying40 rfl sz40) rfl ?_
  refine wl_load 40 (.tmp 11) (pt k4 0) (rd q_b q_0 q_1 q_2 q_3 q_s) rfl rfl (run_row Q4 40 0 6 (rdl q_b q_0 q_1 q_2 q_3 q_s) rfl Try.underlying40 rfl sz40) rfl ?_
  refine wl_call 35 [(.tmp 99), (.tmp 100)] _ [rd q_b q_0 q_1 q_2 q_3 q_s, rd q_b q_0 q_1 q_2 q_3 q_s] (.tuple #[rd t_b t_0 t_1 t_2 t_3 t_s, .int .i64 (0)]) rfl rfl (fun _ _ => by kernel_rfl) (h8 _) rfl ?_
  intro w19 hq
  replace Q1 := Q1.mo hq
  replace Q2 := Q2.mo hq
  replace Q3 := Q3.mo hq
  replace Q4 := Q4.mo hq
  replace Q5 := Q5.mo hq
  replace M := M.trans hq
  clear hq
  refine wl_mv (.tmp 101) (.tuple #[rd t_b t_0 t_1 t_2 t_3 t_s, .int .i64 (0)]) (fun _ => rfl) rfl rfl ?_
  refine wl_un (fun v => Instr.extract v 0) (.tmp 98) (.tuple #[rd t_b t_0 t_1 t_2 t_3 t_s, .int .i64 (0)]) (rd t_b t_0 t_1 t_2 t_3 t_s) (fun _ => rfl) rfl (by kernel_rfl) rfl ?_
  refine wl_un (fun v => Instr.extract v 1) (.tmp 98) (.tuple #[rd t_b t_0 t_1 t_2 t_3 t_s, .int .i64 (0)]) (.int .i64 (0)) (fun _ => rfl) rfl (by kernel_rfl) rfl ?_
  refine wl_alloc 40 #[.bool false, .int .u64 0, .int .u64 0, .int .u64 0, .int .u64 0, .int .i64 0] rfl (fun _ => by kernel_rfl) rfl ?_
  intro k6 w20 hk hz hq Q6
  have ne_k1_k6 : k1 ≠ k6 := by have := Q1.lt; omega
  have ne_k2_k6 : k2 ≠ k6 := by have := Q2.lt; omega
  have ne_k3_k6 : k3 ≠ k6 := by have := Q3.lt; omega
  have ne_k4_k6 : k4 ≠ k6 := by have := Q4.lt; omega
  have ne_k5_k6 : k5 ≠ k6 := by have := Q5.lt; omega
  have N_k6 : w.heap.size ≤ k6 := by have := M.size; omega
  replace Q1 := Q1.mo hq
  replace Q2 := Q2.mo hq
  replace Q3 := Q3.mo hq
  replace Q4 := Q4.mo hq
  replace Q5 := Q5.mo hq
  replace M := M.trans hq
  clear hk hz hq
  refine wl_st 40 (.tmp 14) (.tmp 102) k6 0 (rda t_b t_0 t_1 t_2 t_3 t_s) [.bool false, .int .u64 0, .int .u64 0, .int .u64 0, .int .u64 0, .int .i64 0] (rdl t_b t_0 t_1 t_2 t_3 t_s) Q6 rfl rfl rfl rfl rfl sz40 rfl rfl rfl ?_
  intro w21 hS Qn
  replace Q6 := Qn
  clear Qn
  replace Q1 := hS.other _ _ ne_k1_k6 Q1
  replace Q2 := hS.other _ _ ne_k2_k6 Q2
  replace Q3 := hS.other _ _ ne_k3_k6 Q3
  replace Q4 := hS.other _ _ ne_k4_k6 Q4
  replace Q5 := hS.other _ _ ne_k5_k6 Q5
  replace M := hS.mo _ N_k6 M
  clear hS
  refine wl_mv (.tmp 103) (.int .i64 (0)) (fun _ => rfl) rfl rfl ?_
  refine w_nil ?_
  refine xn_then ?_
  refine w_seq ?_
  refine w_reg ?_
  refine wl_mv (.tmp 8) (.int .i64 (0)) (fun _ => rfl) rfl rfl ?_
  refine wl_bin (fun x y => do eqGuard .eql 32 (.tmp 104) (.const (.int .i64 (0))) x y; binOp .eql 32 x y) (.tmp 104) (.const (.int .i64 (0))) (.int .i64 (0)) (.int .i64 (0)) (.bool true) (fun _ => rfl) rfl rfl (by kernel_rfl) rfl ?_
  refine wl_mv (.tmp 105) (.bool true) (fun _ => rfl) rfl rfl ?_
  refine wl_load 40 (.tmp 14) (pt k6 0) (rd t_b t_0 t_1 t_2 t_3 t_s) rfl rfl (run_row Q6 40 0 6 (rdl t_b t_0 t_1 t_2 t_3 t_s) rfl Try.underlying40 rfl sz40) rfl ?_
  refine wl_load 40 (.tmp 12) (pt k5 0) (rd o_b o_0 o_1 o_2 o_3 o_s) rfl rfl (run_row Q5 40 0 6 (rdl o_b o_0 o_1 o_2 o_3 o_s) rfl Try.underlying40 rfl sz40) rfl ?_
  refine wl_call 51 [(.tmp 107), (.tmp 108)] _ [rd t_b t_0 t_1 t_2 t_3 t_s, rd o_b o_0 o_1 o_2 o_3 o_s] (.int .i64 c) rfl rfl (fun _ _ => by kernel_rfl) (h9 _) rfl ?_
  intro w22 hq
  replace Q1 := Q1.mo hq
  replace Q2 := Q2.mo hq
  replace Q3 := Q3.mo hq
  replace Q4 := Q4.mo hq
  replace Q5 := Q5.mo hq
  replace Q6 := Q6.mo hq
  replace M := M.trans hq
  clear hq
  refine wl_bin (fun x y => do eqGuard .leq 3 (.tmp 109) (.const (.int .i64 (0))) x y; binOp .leq 3 x y) (.tmp 109) (.const (.int .i64 (0))) (.int .i64 c) (.int .i64 (0)) (.bool true) (fun _ => rfl) rfl rfl (leq3_run hc _ _ _) rfl ?_
  refine wl_pick (.tmp 106) (.tmp 110) (.const (.bool false)) true (.bool true) (fun _ => rfl) rfl rfl rfl ?_
  refine wl_mv (.tmp 111) (.bool true) (fun _ => rfl) rfl rfl ?_
  refine w_nil ?_
  refine xn_then ?_
  refine w_ret ?_
  exact w_ret1 _ (.bool true) rfl rfl ⟨rfl, M⟩
theorem rounds_lt_p (a_b : Bool) (a_0 a_1 a_2 a_3 a_s : Int) (d_b : Bool) (d_0 d_1 d_2 d_3 d_s : Int) (q_b : Bool) (q_0 q_1 q_2 q_3 q_s : Int) (o_b : Bool) (o_0 o_1 o_2 o_3 o_s : Int) (x_b : Bool) (x_0 x_1 x_2 x_3 : Int) (S : Int) (p : Int) (w : World) (h1 : ∀ w, Calls Try.prog 43 #[rd a_b a_0 a_1 a_2 a_3 a_s, .int .i64 S, .int .i64 p] w fun e' w' => e' = .returned (.tuple #[rd x_b x_0 x_1 x_2 x_3 S, .int .i64 (0)]) ∧ Mo w w') (h2 : ∀ w, Calls Try.prog 43 #[rd x_b x_0 x_1 x_2 x_3 S, .int .i64 S, .int .i64 p] w fun e' w' => e' = .returned (.tuple #[rd x_b x_0 x_1 x_2 x_3 S, .int .i64 (0)]) ∧ Mo w w') (h3 : ∀ w, Calls Try.prog 37 #[rd x_b x_0 x_1 x_2 x_3 S, rd a_b a_0 a_1 a_2 a_3 a_s] w fun e' w' => e' = .returned (.tuple #[rd d_b d_0 d_1 d_2 d_3 d_s, .int .i64 (0)]) ∧ Mo w w') (h4 : ∀ w, Calls Try.prog 49 #[rd d_b d_0 d_1 d_2 d_3 d_s] w fun e' w' => e' = .returned (.tuple #[rd q_b q_0 q_1 q_2 q_3 q_s, .int .i64 (0)]) ∧ Mo w w') (h5 : ∀ w, Calls Try.prog 26 #[.int .i64 (1), .int .i64 S] w fun e' w' => e' = .returned (.tuple #[rd o_b o_0 o_1 o_2 o_3 o_s, .int .i64 (0)]) ∧ Mo w w') (h6 : ∀ w, Calls Try.prog 51 #[rd q_b q_0 q_1 q_2 q_3 q_s, rd o_b o_0 o_1 o_2 o_3 o_s] w fun e' w' => e' = .returned (.int .i64 (-1)) ∧ Mo w w') (hge : decide (S ≥ a_s) = false) (hp1 : (p == 1) = false) (hp2 : (p == 2) = false) :
    Calls Try.prog 12 #[rd a_b a_0 a_1 a_2 a_3 a_s, .int .i64 S, .int .i64 p] w fun e' w' => e' = .returned (.bool true) ∧ Mo w w' := by
  refine w_enter 112 Try.func12 Try.ntmps12 rfl rfl ?_
  have M : Mo w w := Mo.refl _
  refine w_seq ?_
  refine w_reg ?_
  refine wl_box 40 (.tmp 0) (rd a_b a_0 a_1 a_2 a_3 a_s) ((rda a_b a_0 a_1 a_2 a_3 a_s)) rfl rfl (fun _ => by kernel_rfl) rfl ?_
  intro k1 w1 hk hz hq Q1
  have N_k1 : w.heap.size ≤ k1 := by have := M.size; omega
  replace M := M.trans hq
  clear hk hz hq
  refine wl_mv (.const (.bool false)) (.bool false) (fun _ => rfl) rfl rfl ?_
  refine w_nil ?_
  refine xn_then ?_
  refine w_seq ?_
  refine w_reg ?_
  refine wl_load 40 (.tmp 3) (pt k1 0) (rd a_b a_0 a_1 a_2 a_3 a_s) rfl rfl (run_row Q1 40 0 6 (rdl a_b a_0 a_1 a_2 a_3 a_s) rfl Try.underlying40 rfl sz40) rfl ?_
  refine wl_mv (.tmp 1) (.int .i64 S) (fun _ => rfl) rfl rfl ?_
  refine wl_mv (.tmp 2) (.int .i64 p) (fun _ => rfl) rfl rfl ?_
  refine wl_call 43 [(.tmp 16), (.tmp 17), (.tmp 18)] _ [rd a_b a_0 a_1 a_2 a_3 a_s, .int .i64 S, .int .i64 p] (.tuple #[rd x_b x_0 x_1 x_2 x_3 S, .int .i64 (0)]) rfl rfl (fun _ _ => by kernel_rfl) (h1 _) rfl ?_
  intro w2 hq
  replace Q1 := Q1.mo hq
  replace M := M.trans hq
  clear hq
  refine wl_mv (.tmp 19) (.tuple #[rd x_b x_0 x_1 x_2 x_3 S, .int .i64 (0)]) (fun _ => rfl) rfl rfl ?_
  refine wl_un (fun v => Instr.extract v 0) (.tmp 15) (.tuple #[rd x_b x_0 x_1 x_2 x_3 S, .int .i64 (0)]) (rd x_b x_0 x_1 x_2 x_3 S) (fun _ => rfl) rfl (by kernel_rfl) rfl ?_
  refine wl_un (fun v => Instr.extract v 1) (.tmp 15) (.tuple #[rd x_b x_0 x_1 x_2 x_3 S, .int .i64 (0)]) (.int .i64 (0)) (fun _ => rfl) rfl (by kernel_rfl) rfl ?_
  refine wl_alloc 40 #[.bool false, .int .u64 0, .int .u64 0, .int .u64 0, .int .u64 0, .int .i64 0] rfl (fun _ => by kernel_rfl) rfl ?_
  intro k2 w3 hk hz hq Q2
  have ne_k1_k2 : k1 ≠ k2 := by have := Q1.lt; omega
  have N_k2 : w.heap.size ≤ k2 := by have := M.size; omega
  replace Q1 := Q1.mo hq
  replace M := M.trans hq
  clear hk hz hq
  refine wl_st 40 (.tmp 7) (.tmp 20) k2 0 (rda x_b x_0 x_1 x_2 x_3 S) [.bool false, .int .u64 0, .int .u64 0, .int .u64 0, .int .u64 0, .int .i64 0] (rdl x_b x_0 x_1 x_2 x_3 S) Q2 rfl rfl rfl rfl rfl sz40 rfl rfl rfl ?_
  intro w4 hS Qn
  replace Q2 := Qn
  clear Qn
  replace Q1 := hS.other _ _ ne_k1_k2 Q1
  replace M := hS.mo _ N_k2 M
  clear hS
  refine wl_mv (.tmp 21) (.int .i64 (0)) (fun _ => rfl) rfl rfl ?_
  refine w_nil ?_
  refine xn_then ?_
  refine w_seq ?_
  refine w_seq ?_
  refine w_reg ?_
  refine wl_call 28 [] _ [] (.bool true) rfl rfl (fun _ _ => by kernel_rfl) (begun_n _) rfl ?_
  intro w5 hq
  replace Q1 := Q1.mo hq
  replace Q2 := Q2.mo hq
  replace M := M.trans hq
  clear hq
  refine wl_un (fun v => Op.unary .not v) (.tmp 22) (.bool true) (.bool false) (fun _ => rfl) rfl (by kernel_rfl) rfl ?_
  refine wl_mv (.tmp 23) (.bool false) (fun _ => rfl) rfl rfl ?_
  refine wl_mv (.tmp 8) (.int .i64 (0)) (fun _ => rfl) rfl rfl ?_
  refine wl_bin (fun x y => do eqGuard .neq 32 (.tmp 25) (.const (.int .i64 (0))) x y; binOp .neq 32 x y) (.tmp 25) (.const (.int .i64 (0))) (.int .i64 (0)) (.int .i64 (0)) (.bool false) (fun _ => rfl) rfl rfl (by kernel_rfl) rfl ?_
  refine wl_pick (.tmp 24) (.const (.bool true)) (.tmp 26) false (.bool false) (fun _ => rfl) rfl rfl rfl ?_
  refine w_nil ?_
  refine xn_then ?_
  refine w_condF rfl ?_
  refine w_skip ?_
  refine xn_then ?_
  refine w_seq ?_
  refine w_reg ?_
  refine wl_load 40 (.tmp 7) (pt k2 0) (rd x_b x_0 x_1 x_2 x_3 S) rfl rfl (run_row Q2 40 0 6 (rdl x_b x_0 x_1 x_2 x_3 S) rfl Try.underlying40 rfl sz40) rfl ?_
  refine wl_mv (.tmp 1) (.int .i64 S) (fun _ => rfl) rfl rfl ?_
  refine wl_mv (.tmp 2) (.int .i64 p) (fun _ => rfl) rfl rfl ?_
  refine wl_call 43 [(.tmp 30), (.tmp 31), (.tmp 32)] _ [rd x_b x_0 x_1 x_2 x_3 S, .int .i64 S, .int .i64 p] (.tuple #[rd x_b x_0 x_1 x_2 x_3 S, .int .i64 (0)]) rfl rfl (fun _ _ => by kernel_rfl) (h2 _) rfl ?_
  intro w6 hq
  replace Q1 := Q1.mo hq
  replace Q2 := Q2.mo hq
  replace M := M.trans hq
  clear hq
  refine wl_mv (.tmp 33) (.tuple #[rd x_b x_0 x_1 x_2 x_3 S, .int .i64 (0)]) (fun _ => rfl) rfl rfl ?_
  refine wl_un (fun v => Instr.extract v 0) (.tmp 29) (.tuple #[rd x_b x_0 x_1 x_2 x_3 S, .int .i64 (0)]) (rd x_b x_0 x_1 x_2 x_3 S) (fun _ => rfl) rfl (by kernel_rfl) rfl ?_
  refine wl_un (fun v => Instr.extract v 1) (.tmp 29) (.tuple #[rd x_b x_0 x_1 x_2 x_3 S, .int .i64 (0)]) (.int .i64 (0)) (fun _ => rfl) rfl (by kernel_rfl) rfl ?_
  refine wl_alloc 40 #[.bool false, .int .u64 0, .int .u64 0, .int .u64 0, .int .u64 0, .int .i64 0] rfl (fun _ => by kernel_rfl) rfl ?_
  intro k3 w7 hk hz hq Q3
  have ne_k1_k3 : k1 ≠ k3 := by have := Q1.lt; omega
  have ne_k2_k3 : k2 ≠ k3 := by have := Q2.lt; omega
  have N_k3 : w.heap.size ≤ k3 := by have := M.size; omega
  replace Q1 := Q1.mo hq
  replace Q2 := Q2.mo hq
  replace M := M.trans hq
  clear hk hz hq
  refine wl_st 40 (.tmp 9) (.tmp 34) k3 0 (rda x_b x_0 x_1 x_2 x_3 S) [.bool false, .int .u64 0, .int .u64 0, .int .u64 0, .int .u64 0, .int .i64 0] (rdl x_b x_0 x_1 x_2 x_3 S) Q3 rfl rfl rfl rfl rfl sz40 rfl rfl rfl ?_
  intro w8 hS Qn
  replace Q3 := Qn
  clear Qn
  replace Q1 := hS.other _ _ ne_k1_k3 Q1
  replace Q2 := hS.other _ _ ne_k2_k3 Q2
  replace M := hS.mo _ N_k3 M
  clear hS
  refine wl_mv (.tmp 35) (.int .i64 (0)) (fun _ => rfl) rfl rfl ?_
  refine w_nil ?_
  refine xn_then ?_
  refine w_seq ?_
  refine w_seq ?_
  refine w_reg ?_
  refine wl_load 40 (.tmp 9) (pt k3 0) (rd x_b x_0 x_1 x_2 x_3 S) rfl rfl (run_row Q3 40 0 6 (rdl x_b x_0 x_1 x_2 x_3 S) rfl Try.underlying40 rfl sz40) rfl ?_
  refine wl_load 40 (.tmp 7) (pt k2 0) (rd x_b x_0 x_1 x_2 x_3 S) rfl rfl (run_row Q2 40 0 6 (rdl x_b x_0 x_1 x_2 x_3 S) rfl Try.underlying40 rfl sz40) rfl ?_
  refine wl_bin (fun x y => do eqGuard .neq 40 (.tmp 36) (.tmp 37) x y; binOp .neq 40 x y) (.tmp 36) (.tmp 37) (rd x_b x_0 x_1 x_2 x_3 S) (rd x_b x_0 x_1 x_2 x_3 S) (.bool false) (fun _ => rfl) rfl rfl (ned_run (self6 _ _ _ _ _ _) _ _ _) rfl ?_
  refine wl_mv (.tmp 38) (.bool false) (fun _ => rfl) rfl rfl ?_
  refine wl_mv (.tmp 10) (.int .i64 (0)) (fun _ => rfl) rfl rfl ?_
  refine wl_bin (fun x y => do eqGuard .neq 32 (.tmp 40) (.const (.int .i64 (0))) x y; binOp .neq 32 x y) (.tmp 40) (.const (.int .i64 (0))) (.int .i64 (0)) (.int .i64 (0)) (.bool false) (fun _ => rfl) rfl rfl (by kernel_rfl) rfl ?_
  refine wl_pick (.tmp 39) (.const (.bool true)) (.tmp 41) false (.bool false) (fun _ => rfl) rfl rfl rfl ?_
  refine wl_mv (.tmp 42) (.bool false) (fun _ => rfl) rfl rfl ?_
  refine wl_un (fun v => Instr.fieldAt 40 v 2) (.tmp 7) (pt k2 0) (pt k2 5) (fun _ => rfl) rfl (by kernel_rfl) rfl ?_
  refine wl_load 3 (.tmp 44) (pt k2 5) (.int .i64 S) rfl rfl (run_one Q2 3 5 rfl Try.underlying3 rfl) rfl ?_
  refine wl_mv (.tmp 1) (.int .i64 S) (fun _ => rfl) rfl rfl ?_
  refine wl_bin (fun x y => do eqGuard .neq 3 (.tmp 45) (.tmp 46) x y; binOp .neq 3 x y) (.tmp 45) (.tmp 46) (.int .i64 S) (.int .i64 S) (.bool false) (fun _ => rfl) rfl rfl (neq3_run (by simp) _ _ _) rfl ?_
  refine wl_pick (.tmp 43) (.const (.bool true)) (.tmp 47) false (.bool false) (fun _ => rfl) rfl rfl rfl ?_
  refine w_nil ?_
  refine xn_then ?_
  refine w_condF rfl ?_
  refine w_skip ?_
  refine xn_then ?_
  refine w_seq ?_
  refine w_reg ?_
  refine wl_load 40 (.tmp 7) (pt k2 0) (rd x_b x_0 x_1 x_2 x_3 S) rfl rfl (run_row Q2 40 0 6 (rdl x_b x_0 x_1 x_2 x_3 S) rfl Try.underlying40 rfl sz40) rfl ?_
  refine wl_load 40 (.tmp 3) (pt k1 0) (rd a_b a_0 a_1 a_2 a_3 a_s) rfl rfl (run_row Q1 40 0 6 (rdl a_b a_0 a_1 a_2 a_3 a_s) rfl Try.underlying40 rfl sz40) rfl ?_
  refine wl_call 37 [(.tmp 50), (.tmp 51)] _ [rd x_b x_0 x_1 x_2 x_3 S, rd a_b a_0 a_1 a_2 a_3 a_s] (.tuple #[rd d_b d_0 d_1 d_2 d_3 d_s, .int .i64 (0)]) rfl rfl (fun _ _ => by kernel_rfl) (h3 _) rfl ?_
  intro w9 hq
  replace Q1 := Q1.mo hq
  replace Q2 := Q2.mo hq
  replace Q3 := Q3.mo hq
  replace M := M.trans hq
  clear hq
  refine wl_mv (.tmp 52) (.tuple #[rd d_b d_0 d_1 d_2 d_3 d_s, .int .i64 (0)]) (fun _ => rfl) rfl rfl ?_
  refine wl_un (fun v => Instr.extract v 0) (.tmp 49) (.tuple #[rd d_b d_0 d_1 d_2 d_3 d_s, .int .i64 (0)]) (rd d_b d_0 d_1 d_2 d_3 d_s) (fun _ => rfl) rfl (by kernel_rfl) rfl ?_
  refine wl_un (fun v => Instr.extract v 1) (.tmp 49) (.tuple #[rd d_b d_0 d_1 d_2 d_3 d_s, .int .i64 (0)]) (.int .i64 (0)) (fun _ => rfl) rfl (by kernel_rfl) rfl ?_
  refine wl_alloc 40 #[.bool false, .int .u64 0, .int .u64 0, .int .u64 0, .int .u64 0, .int .i64 0] rfl (fun _ => by kernel_rfl) rfl ?_
  intro k4 w10 hk hz hq Q4
  have ne_k1_k4 : k1 ≠ k4 := by have := Q1.lt; omega
  have ne_k2_k4 : k2 ≠ k4 := by have := Q2.lt; omega
  have ne_k3_k4 : k3 ≠ k4 := by have := Q3.lt; omega
  have N_k4 : w.heap.size ≤ k4 := by have := M.size; omega
  replace Q1 := Q1.mo hq
  replace Q2 := Q2.mo hq
  replace Q3 := Q3.mo hq
  replace M := M.trans hq
  clear hk hz hq
  refine wl_st 40 (.tmp 11) (.tmp 53) k4 0 (rda d_b d_0 d_1 d_2 d_3 d_s) [.bool false, .int .u64 0, .int .u64 0, .int .u64 0, .int .u64 0, .int .i64 0] (rdl d_b d_0 d_1 d_2 d_3 d_s) Q4 rfl rfl rfl rfl rfl sz40 rfl rfl rfl ?_
  intro w11 hS Qn
  replace Q4 := Qn
  clear Qn
  replace Q1 := hS.other _ _ ne_k1_k4 Q1
  replace Q2 := hS.other _ _ ne_k2_k4 Q2
  replace Q3 := hS.other _ _ ne_k3_k4 Q3
  replace M := hS.mo _ N_k4 M
  clear hS
  refine wl_mv (.tmp 54) (.int .i64 (0)) (fun _ => rfl) rfl rfl ?_
  refine w_nil ?_
  refine xn_then ?_
  refine w_seq ?_
  refine w_seq ?_
  refine w_reg ?_
  refine wl_mv (.tmp 8) (.int .i64 (0)) (fun _ => rfl) rfl rfl ?_
  refine wl_bin (fun x y => do eqGuard .eql 32 (.tmp 55) (.const (.int .i64 (7))) x y; binOp .eql 32 x y) (.tmp 55) (.const (.int .i64 (7))) (.int .i64 (0)) (.int .i64 (7)) (.bool false) (fun _ => rfl) rfl rfl (by kernel_rfl) rfl ?_
  refine w_nil ?_
  refine xn_then ?_
  refine w_condF rfl ?_
  refine w_skip ?_
  refine xn_then ?_
  refine w_seq ?_
  refine w_reg ?_
  refine wl_load 40 (.tmp 11) (pt k4 0) (rd d_b d_0 d_1 d_2 d_3 d_s) rfl rfl (run_row Q4 40 0 6 (rdl d_b d_0 d_1 d_2 d_3 d_s) rfl Try.underlying40 rfl sz40) rfl ?_
  refine wl_call 49 [(.tmp 58)] _ [rd d_b d_0 d_1 d_2 d_3 d_s] (.tuple #[rd q_b q_0 q_1 q_2 q_3 q_s, .int .i64 (0)]) rfl rfl (fun _ _ => by kernel_rfl) (h4 _) rfl ?_
  intro w12 hq
  replace Q1 := Q1.mo hq
  replace Q2 := Q2.mo hq
  replace Q3 := Q3.mo hq
  replace Q4 := Q4.mo hq
  replace M := M.trans hq
  clear hq
  refine wl_mv (.tmp 59) (.tuple #[rd q_b q_0 q_1 q_2 q_3 q_s, .int .i64 (0)]) (fun _ => rfl) rfl rfl ?_
  refine wl_un (fun v => Instr.extract v 0) (.tmp 57) (.tuple #[rd q_b q_0 q_1 q_2 q_3 q_s, .int .i64 (0)]) (rd q_b q_0 q_1 q_2 q_3 q_s) (fun _ => rfl) rfl (by kernel_rfl) rfl ?_
  refine wl_un (fun v => Instr.extract v 1) (.tmp 57) (.tuple #[rd q_b q_0 q_1 q_2 q_3 q_s, .int .i64 (0)]) (.int .i64 (0)) (fun _ => rfl) rfl (by kernel_rfl) rfl ?_
  refine wl_st 40 (.tmp 11) (.tmp 60) k4 0 (rda q_b q_0 q_1 q_2 q_3 q_s) (rdl d_b d_0 d_1 d_2 d_3 d_s) (rdl q_b q_0 q_1 q_2 q_3 q_s) Q4 rfl rfl rfl rfl rfl sz40 rfl rfl rfl ?_
  intro w13 hS Qn
  replace Q4 := Qn
  clear Qn
  replace Q1 := hS.other _ _ ne_k1_k4 Q1
  replace Q2 := hS.other _ _ ne_k2_k4 Q2
  replace Q3 := hS.other _ _ ne_k3_k4 Q3
  replace M := hS.mo _ N_k4 M
  clear hS
  refine wl_mv (.tmp 61) (.int .i64 (0)) (fun _ => rfl) rfl rfl ?_
  refine w_nil ?_
  refine xn_then ?_
  refine w_seq ?_
  refine w_reg ?_
  refine wl_mv (.tmp 1) (.int .i64 S) (fun _ => rfl) rfl rfl ?_
  refine wl_call 26 [(.const (.int .i64 (1))), (.tmp 63)] _ [.int .i64 (1), .int .i64 S] (.tuple #[rd o_b o_0 o_1 o_2 o_3 o_s, .int .i64 (0)]) rfl rfl (fun _ _ => by kernel_rfl) (h5 _) rfl ?_
  intro w14 hq
  replace Q1 := Q1.mo hq
  replace Q2 := Q2.mo hq
  replace Q3 := Q3.mo hq
  replace Q4 := Q4.mo hq
  replace M := M.trans hq
  clear hq
  refine wl_mv (.tmp 64) (.tuple #[rd o_b o_0 o_1 o_2 o_3 o_s, .int .i64 (0)]) (fun _ => rfl) rfl rfl ?_
  refine wl_un (fun v => Instr.extract v 0) (.tmp 62) (.tuple #[rd o_b o_0 o_1 o_2 o_3 o_s, .int .i64 (0)]) (rd o_b o_0 o_1 o_2 o_3 o_s) (fun _ => rfl) rfl (by kernel_rfl) rfl ?_
  refine wl_un (fun v => Instr.extract v 1) (.tmp 62) (.tuple #[rd o_b o_0 o_1 o_2 o_3 o_s, .int .i64 (0)]) (.int .i64 (0)) (fun _ => rfl) rfl (by kernel_rfl) rfl ?_
  refine wl_alloc 40 #[.bool false, .int .u64 0, .int .u64 0, .int .u64 0, .int .u64 0, .int .i64 0] rfl (fun _ => by kernel_rfl) rfl ?_
  intro k5 w15 hk hz hq Q5
  have ne_k1_k5 : k1 ≠ k5 := by have := Q1.lt; omega
  have ne_k2_k5 : k2 ≠ k5 := by have := Q2.lt; omega
  have ne_k3_k5 : k3 ≠ k5 := by have := Q3.lt; omega
  have ne_k4_k5 : k4 ≠ k5 := by have := Q4.lt; omega
  have N_k5 : w.heap.size ≤ k5 := by have := M.size; omega
  replace Q1 := Q1.mo hq
  replace Q2 := Q2.mo hq
  replace Q3 := Q3.mo hq
  replace Q4 := Q4.mo hq
  replace M := M.trans hq
  clear hk hz hq
  refine wl_st 40 (.tmp 12) (.tmp 65) k5 0 (rda o_b o_0 o_1 o_2 o_3 o_s) [.bool false, .int .u64 0, .int .u64 0, .int .u64 0, .int .u64 0, .int .i64 0] (rdl o_b o_0 o_1 o_2 o_3 o_s) Q5 rfl rfl rfl rfl rfl sz40 rfl rfl rfl ?_
  intro w16 hS Qn
  replace Q5 := Qn
  clear Qn
  replace Q1 := hS.other _ _ ne_k1_k5 Q1
  replace Q2 := hS.other _ _ ne_k2_k5 Q2
  replace Q3 := hS.other _ _ ne_k3_k5 Q3
  replace Q4 := hS.other _ _ ne_k4_k5 Q4
  replace M := hS.mo _ N_k5 M
  clear hS
  refine wl_mv (.tmp 66) (.int .i64 (0)) (fun _ => rfl) rfl rfl ?_
  refine w_nil ?_
  refine xn_then ?_
  refine w_seq ?_
  refine w_seq ?_
  refine w_reg ?_
  refine wl_mv (.tmp 8) (.int .i64 (0)) (fun _ => rfl) rfl rfl ?_
  refine wl_bin (fun x y => do eqGuard .neq 32 (.tmp 67) (.const (.int .i64 (0))) x y; binOp .neq 32 x y) (.tmp 67) (.const (.int .i64 (0))) (.int .i64 (0)) (.int .i64 (0)) (.bool false) (fun _ => rfl) rfl rfl (by kernel_rfl) rfl ?_
  refine wl_mv (.tmp 68) (.bool false) (fun _ => rfl) rfl rfl ?_
  refine wl_mv (.tmp 10) (.int .i64 (0)) (fun _ => rfl) rfl rfl ?_
  refine wl_bin (fun x y => do eqGuard .neq 32 (.tmp 70) (.const (.int .i64 (0))) x y; binOp .neq 32 x y) (.tmp 70) (.const (.int .i64 (0))) (.int .i64 (0)) (.int .i64 (0)) (.bool false) (fun _ => rfl) rfl rfl (by kernel_rfl) rfl ?_
  refine wl_pick (.tmp 69) (.const (.bool true)) (.tmp 71) false (.bool false) (fun _ => rfl) rfl rfl rfl ?_
  refine wl_mv (.tmp 72) (.bool false) (fun _ => rfl) rfl rfl ?_
  refine wl_mv (.tmp 13) (.int .i64 (0)) (fun _ => rfl) rfl rfl ?_
  refine wl_bin (fun x y => do eqGuard .neq 32 (.tmp 74) (.const (.int .i64 (0))) x y; binOp .neq 32 x y) (.tmp 74) (.const (.int .i64 (0))) (.int .i64 (0)) (.int .i64 (0)) (.bool false) (fun _ => rfl) rfl rfl (by kernel_rfl) rfl ?_
  refine wl_pick (.tmp 73) (.const (.bool true)) (.tmp 75) false (.bool false) (fun _ => rfl) rfl rfl rfl ?_
  refine wl_mv (.tmp 76) (.bool false) (fun _ => rfl) rfl rfl ?_
  refine wl_load 40 (.tmp 11) (pt k4 0) (rd q_b q_0 q_1 q_2 q_3 q_s) rfl rfl (run_row Q4 40 0 6 (rdl q_b q_0 q_1 q_2 q_3 q_s) rfl Try.underlying40 rfl sz40) rfl ?_
  refine wl_load 40 (.tmp 12) (pt k5 0) (rd o_b o_0 o_1 o_2 o_3 o_s) rfl rfl (run_row Q5 40 0 6 (rdl o_b o_0 o_1 o_2 o_3 o_s) rfl Try.underlying40 rfl sz40) rfl ?_
  refine wl_call 51 [(.tmp 78), (.tmp 79)] _ [rd q_b q_0 q_1 q_2 q_3 q_s, rd o_b o_0 o_1 o_2 o_3 o_s] (.int .i64 (-1)) rfl rfl (fun _ _ => by kernel_rfl) (h6 _) rfl ?_
  intro w17 hq
  replace Q1 := Q1.mo hq
  replace Q2 := Q2.mo hq
  replace Q3 := Q3.mo hq
  replace Q4 := Q4.mo hq
  replace Q5 := Q5.mo hq
  replace M := M.trans hq
  clear hq
  refine wl_bin (fun x y => do eqGuard .geq 3 (.tmp 80) (.const (.int .i64 (0))) x y; binOp .geq 3 x y) (.tmp 80) (.const (.int .i64 (0))) (.int .i64 (-1)) (.int .i64 (0)) (.bool false) (fun _ => rfl) rfl rfl (by kernel_rfl) rfl ?_
  refine wl_pick (.tmp 77) (.const (.bool true)) (.tmp 81) false (.bool false) (fun _ => rfl) rfl rfl rfl ?_
  refine w_nil ?_
  refine xn_then ?_
  refine w_condF rfl ?_
  refine w_skip ?_
  refine xn_then ?_
  refine w_seq ?_
  refine w_seq ?_
  refine w_reg ?_
  refine wl_mv (.tmp 1) (.int .i64 S) (fun _ => rfl) rfl rfl ?_
  refine wl_un (fun v => Instr.fieldAt 40 v 2) (.tmp 3) (pt k1 0) (pt k1 5) (fun _ => rfl) rfl (by kernel_rfl) rfl ?_
  refine wl_load 3 (.tmp 84) (pt k1 5) (.int .i64 a_s) rfl rfl (run_one Q1 3 5 rfl Try.underlying3 rfl) rfl ?_
  refine wl_bin (fun x y => do eqGuard .geq 3 (.tmp 83) (.tmp 85) x y; binOp .geq 3 x y) (.tmp 83) (.tmp 85) (.int .i64 S) (.int .i64 a_s) (.bool false) (fun _ => rfl) rfl rfl (geq3_run hge _ _ _) rfl ?_
  refine wl_mv (.tmp 86) (.bool false) (fun _ => rfl) rfl rfl ?_
  refine wl_skip rfl ?_
  refine wl_skip rfl ?_
  refine wl_skip rfl ?_
  refine wl_pick (.tmp 87) (.tmp 90) (.const (.bool false)) false (.bool false) (fun _ => rfl) rfl rfl rfl ?_
  refine w_nil ?_
  refine xn_then ?_
  refine w_condF rfl ?_
  refine w_skip ?_
  refine xn_then ?_
  refine w_seq ?_
  refine w_seq ?_
  refine w_reg ?_
  refine wl_mv (.tmp 2) (.int .i64 p) (fun _ => rfl) rfl rfl ?_
  refine wl_bin (fun x y => do eqGuard .neq 3 (.tmp 92) (.const (.int .i64 (1))) x y; binOp .neq 3 x y) (.tmp 92) (.const (.int .i64 (1))) (.int .i64 p) (.int .i64 (1)) (.bool true) (fun _ => rfl) rfl rfl (neq3_run hp1 _ _ _) rfl ?_
  refine wl_mv (.tmp 93) (.bool true) (fun _ => rfl) rfl rfl ?_
  refine wl_mv (.tmp 2) (.int .i64 p) (fun _ => rfl) rfl rfl ?_
  refine wl_bin (fun x y => do eqGuard .neq 3 (.tmp 95) (.const (.int .i64 (2))) x y; binOp .neq 3 x y) (.tmp 95) (.const (.int .i64 (2))) (.int .i64 p) (.int .i64 (2)) (.bool true) (fun _ => rfl) rfl rfl (neq3_run hp2 _ _ _) rfl ?_
  refine wl_pick (.tmp 94) (.tmp 96) (.const (.bool false)) true (.bool true) (fun _ => rfl) rfl rfl rfl ?_
  refine w_nil ?_
  refine xn_then ?_
  refine w_condT rfl ?_
  refine w_seq ?_
  refine w_reg ?_
  refine wl_mv (.const (.bool true)) (.bool true) (fun _ => rfl) rfl rfl ?_
  refine w_nil ?_
  refine xn_then ?_
  refine w_ret ?_
  refine xr_then ?_
  exact w_ret1 _ (.bool true) rfl rfl ⟨rfl, M⟩
theorem rounds_lt_1 (a_b : Bool) (a_0 a_1 a_2 a_3 a_s : Int) (d_b : Bool) (d_0 d_1 d_2 d_3 d_s : Int) (q_b : Bool) (q_0 q_1 q_2 q_3 q_s : Int) (o_b : Bool) (o_0 o_1 o_2 o_3 o_s : Int) (t_b : Bool) (t_0 t_1 t_2 t_3 t_s : Int) (c : Int) (x_b : Bool) (x_0 x_1 x_2 x_3 : Int) (S : Int) (w : World) (h1 : ∀ w, Calls Try.prog 43 #[rd a_b a_0 a_1 a_2 a_3 a_s, .int .i64 S, .int .i64 (1)] w fun e' w' => e' = .returned (.tuple #[rd x_b x_0 x_1 x_2 x_3 S, .int .i64 (0)]) ∧ Mo w w') (h2 : ∀ w, Calls Try.prog 43 #[rd x_b x_0 x_1 x_2 x_3 S, .int .i64 S, .int .i64 (1)] w fun e' w' => e' = .returned (.tuple #[rd x_b x_0 x_1 x_2 x_3 S, .int .i64 (0)]) ∧ Mo w w') (h3 : ∀ w, Calls Try.prog 37 #[rd x_b x_0 x_1 x_2 x_3 S, rd a_b a_0 a_1 a_2 a_3 a_s] w fun e' w' => e' = .returned (.tuple #[rd d_b d_0 d_1 d_2 d_3 d_s, .int .i64 (0)]) ∧ Mo w w') (h4 : ∀ w, Calls Try.prog 49 #[rd d_b d_0 d_1 d_2 d_3 d_s] w fun e' w' => e' = .returned (.tuple #[rd q_b q_0 q_1 q_2 q_3 q_s, .int .i64 (0)]) ∧ Mo w w') (h5 : ∀ w, Calls Try.prog 26 #[.int .i64 (1), .int .i64 S] w fun e' w' => e' = .returned (.tuple #[rd o_b o_0 o_1 o_2 o_3 o_s, .int .i64 (0)]) ∧ Mo w w') (h6 : ∀ w, Calls Try.prog 51 #[rd q_b q_0 q_1 q_2 q_3 q_s, rd o_b o_0 o_1 o_2 o_3 o_s] w fun e' w' => e' = .returned (.int .i64 (-1)) ∧ Mo w w') (hge : decide (S ≥ a_s) = false) (h8 : ∀ w, Calls Try.prog 35 #[rd q_b q_0 q_1 q_2 q_3 q_s, rd q_b q_0 q_1 q_2 q_3 q_s] w fun e' w' => e' = .returned (.tuple #[rd t_b t_0 t_1 t_2 t_3 t_s, .int .i64 (0)]) ∧ Mo w w') (h9 : ∀ w, Calls Try.prog 51 #[rd t_b t_0 t_1 t_2 t_3 t_s, rd o_b o_0 o_1 o_2 o_3 o_s] w fun e' w' => e' = .returned (.int .i64 c) ∧ Mo w w') (hc : decide (c ≤ 0) = true) :
    Calls Try.prog 12 #[rd a_b a_0 a_1 a_2 a_3 a_s, .int .i64 S, .int .i64 (1)] w fun e' w' => e' = .returned (.bool true) ∧ Mo w w' := by
  refine w_enter 112 Try.func12 Try.ntmps12 rfl rfl ?_
  have M : Mo w w := Mo.refl _
  refine w_seq ?_
  refine w_reg ?_
  refine wl_box 40 (.tmp 0) (rd a_b a_0 a_1 a_2 a_3 a_s) ((rda a_b a_0 a_1 a_2 a_3 a_s)) rfl rfl (fun _ => by kernel_rfl) rfl ?_
  intro k1 w1 hk hz hq Q1
  have N_k1 : w.heap.size ≤ k1 := by have := M.size; omega
  replace M := M.trans hq
  clear hk hz hq
  refine wl_mv (.const (.bool false)) (.bool false) (fun _ => rfl) rfl rfl ?_
  refine w_nil ?_
  refine xn_then ?_
  refine w_seq ?_
  refine w_reg ?_
  refine wl_load 40 (.tmp 3) (pt k1 0) (rd a_b a_0 a_1 a_2 a_3 a_s) rfl rfl (run_row Q1 40 0 6 (rdl a_b a_0 a_1 a_2 a_3 a_s) rfl Try.underlying40 rfl sz40) rfl ?_
  refine wl_mv (.tmp 1) (.int .i64 S) (fun _ => rfl) rfl rfl ?_
  refine wl_mv (.tmp 2) (.int .i64 (1)) (fun _ => rfl) rfl rfl ?_
  refine wl_call 43 [(.tmp 16), (.tmp 17), (.tmp 18)] _ [rd a_b a_0 a_1 a_2 a_3 a_s, .int .i64 S, .int .i64 (1)] (.tuple #[rd x_b x_0 x_1 x_2 x_3 S, .int .i64 (0)]) rfl rfl (fun _ _ => by kernel_rfl) (h1 _) rfl ?_
  intro w2 hq
  replace Q1 := Q1.mo hq
  replace M := M.trans hq
  clear hq
  refine wl_mv (.tmp 19) (.tuple #[rd x_b x_0 x_1 x_2 x_3 S, .int .i64 (0)]) (fun _ => rfl) rfl rfl ?_
  refine wl_un (fun v => Instr.extract v 0) (.tmp 15) (.tuple #[rd x_b x_0 x_1 x_2 x_3 S, .int .i64 (0)]) (rd x_b x_0 x_1 x_2 x_3 S) (fun _ => rfl) rfl (by kernel_rfl) rfl ?_
  refine wl_un (fun v => Instr.extract v 1) (.tmp 15) (.tuple #[rd x_b x_0 x_1 x_2 x_3 S, .int .i64 (0)]) (.int .i64 (0)) (fun _ => rfl) rfl (by kernel_rfl) rfl ?_
  refine wl_alloc 40 #[.bool false, .int .u64 0, .int .u64 0, .int .u64 0, .int .u64 0, .int .i64 0] rfl (fun _ => by kernel_rfl) rfl ?_
  intro k2 w3 hk hz hq Q2
  have ne_k1_k2 : k1 ≠ k2 := by have := Q1.lt; omega
  have N_k2 : w.heap.size ≤ k2 := by have := M.size; omega
  replace Q1 := Q1.mo hq
  replace M := M.trans hq
  clear hk hz hq
  refine wl_st 40 (.tmp 7) (.tmp 20) k2 0 (rda x_b x_0 x_1 x_2 x_3 S) [.bool false, .int .u64 0, .int .u64 0, .int .u64 0, .int .u64 0, .int .i64 0] (rdl x_b x_0 x_1 x_2 x_3 S) Q2 rfl rfl rfl rfl rfl sz40 rfl rfl rfl ?_
  intro w4 hS Qn
  replace Q2 := Qn
  clear Qn
  replace Q1 := hS.other _ _ ne_k1_k2 Q1
  replace M := hS.mo _ N_k2 M
  clear hS
  refine wl_mv (.tmp 21) (.int .i64 (0)) (fun _ => rfl) rfl rfl ?_
  refine w_nil ?_
  refine xn_then ?_
  refine w_seq ?_
  refine w_seq ?_
  refine w_reg ?_
  refine wl_call 28 [] _ [] (.bool true) rfl rfl (fun _ _ => by kernel_rfl) (begun_n _) rfl ?_
  intro w5 hq
  replace Q1 := Q1.mo hq
  replace Q2 := Q2.mo hq
  replace M := M.trans hq
  clear hq
  refine wl_un (fun v => Op.unary .not v) (.tmp 22) (.bool true) (.bool false) (fun _ => rfl) rfl (by kernel_rfl) rfl ?_
  refine wl_mv (.tmp 23) (.bool false) (fun _ => rfl) rfl rfl ?_
  refine wl_mv (.tmp 8) (.int .i64 (0)) (fun _ => rfl) rfl rfl ?_
  refine wl_bin (fun x y => do eqGuard .neq 32 (.tmp 25) (.const (.int .i64 (0))) x y; binOp .neq 32 x y) (.tmp 25) (.const (.int .i64 (0))) (.int .i64 (0)) (.int .i64 (0)) (.bool false) (fun _ => rfl) rfl rfl (by kernel_rfl) rfl ?_
  refine wl_pick (.tmp 24) (.const (.bool true)) (.tmp 26) false (.bool false) (fun _ => rfl) rfl rfl rfl ?_
  refine w_nil ?_
  refine xn_then ?_
  refine w_condF rfl ?_
  refine w_skip ?_
  refine xn_then ?_
  refine w_seq ?_
  refine w_reg ?_
  refine wl_load 40 (.tmp 7) (pt k2 0) (rd x_b x_0 x_1 x_2 x_3 S) rfl rfl (run_row Q2 40 0 6 (rdl x_b x_0 x_1 x_2 x_3 S) rfl Try.underlying40 rfl sz40) rfl ?_
  refine wl_mv (.tmp 1) (.int .i64 S) (fun _ => rfl) rfl rfl ?_
  refine wl_mv (.tmp 2) (.int .i64 (1)) (fun _ => rfl) rfl rfl ?_
  refine wl_call 43 [(.tmp 30), (.tmp 31), (.tmp 32)] _ [rd x_b x_0 x_1 x_2 x_3 S, .int .i64 S, .int .i64 (1)] (.tuple #[rd x_b x_0 x_1 x_2 x_3 S, .int .i64 (0)]) rfl rfl (fun _ _ => by kernel_rfl) (h2 _) rfl ?_
  intro w6 hq
  replace Q1 := Q1.mo hq
  replace Q2 := Q2.mo hq
  replace M := M.trans hq
  clear hq
  refine wl_mv (.tmp 33) (.tuple #[rd x_b x_0 x_1 x_2 x_3 S, .int .i64 (0)]) (fun _ => rfl) rfl rfl ?_
  refine wl_un (fun v => Instr.extract v 0) (.tmp 29) (.tuple #[rd x_b x_0 x_1 x_2 x_3 S, .int .i64 (0)]) (rd x_b x_0 x_1 x_2 x_3 S) (fun _ => rfl) rfl (by kernel_rfl) rfl ?_
  refine wl_un (fun v => Instr.extract v 1) (.tmp 29) (.tuple #[rd x_b x_0 x_1 x_2 x_3 S, .int .i64 (0)]) (.int .i64 (0)) (fun _ => rfl) rfl (by kernel_rfl) rfl ?_
  refine wl_alloc 40 #[.bool false, .int .u64 0, .int .u64 0, .int .u64 0, .int .u64 0, .int .i64 0] rfl (fun _ => by kernel_rfl) rfl ?_
  intro k3 w7 hk hz hq Q3
  have ne_k1_k3 : k1 ≠ k3 := by have := Q1.lt; omega
  have ne_k2_k3 : k2 ≠ k3 := by have := Q2.lt; omega
  have N_k3 : w.heap.size ≤ k3 := by have := M.size; omega
  replace Q1 := Q1.mo hq
  replace Q2 := Q2.mo hq
  replace M := M.trans hq
  clear hk hz hq
  refine wl_st 40 (.tmp 9) (.tmp 34) k3 0 (rda x_b x_0 x_1 x_2 x_3 S) [.bool false, .int .u64 0, .int .u64 0, .int .u64 0, .int .u64 0, .int .i64 0] (rdl x_b x_0 x_1 x_2 x_3 S) Q3 rfl rfl rfl rfl rfl sz40 rfl rfl rfl ?_
  intro w8 hS Qn
  replace Q3 := Qn
  clear Qn
  replace Q1 := hS.other _ _ ne_k1_k3 Q1
  replace Q2 := hS.other _ _ ne_k2_k3 Q2
  replace M := hS.mo _ N_k3 M
  clear hS
  refine wl_mv (.tmp 35) (.int .i64 (0)) (fun _ => rfl) rfl rfl ?_
  refine w_nil ?_
  refine xn_then ?_
  refine w_seq ?_
  refine w_seq ?_
  refine w_reg ?_
  refine wl_load 40 (.tmp 9) (pt k3 0) (rd x_b x_0 x_1 x_2 x_3 S) rfl rfl (run_row Q3 40 0 6 (rdl x_b x_0 x_1 x_2 x_3 S) rfl Try.underlying40 rfl sz40) rfl ?_
  refine wl_load 40 (.tmp 7) (pt k2 0) (rd x_b x_0 x_1 x_2 x_3 S) rfl rfl (run_row Q2 40 0 6 (rdl x_b x_0 x_1 x_2 x_3 S) rfl Try.underlying40 rfl sz40) rfl ?_
  refine wl_bin (fun x y => do eqGuard .neq 40 (.tmp 36) (.tmp 37) x y; binOp .neq 40 x y) (.tmp 36) (.tmp 37) (rd x_b x_0 x_1 x_2 x_3 S) (rd x_b x_0 x_1 x_2 x_3 S) (.bool false) (fun _ => rfl) rfl rfl (ned_run (self6 _ _ _ _ _ _) _ _ _) rfl ?_
  refine wl_mv (.tmp 38) (.bool false) (fun _ => rfl) rfl rfl ?_
  refine wl_mv (.tmp 10) (.int .i64 (0)) (fun _ => rfl) rfl rfl ?_
  refine wl_bin (fun x y => do eqGuard .neq 32 (.tmp 40) (.const (.int .i64 (0))) x y; binOp .neq 32 x y) (.tmp 40) (.const (.int .i64 (0))) (.int .i64 (0)) (.int .i64 (0)) (.bool false) (fun _ => rfl) rfl rfl (by kernel_rfl) rfl ?_
  refine wl_pick (.tmp 39) (.const (.bool true)) (.tmp 41) false (.bool false) (fun _ => rfl) rfl rfl rfl ?_
  refine wl_mv (.tmp 42) (.bool false) (fun _ => rfl) rfl rfl ?_
  refine wl_un (fun v => Instr.fieldAt 40 v 2) (.tmp 7) (pt k2 0) (pt k2 5) (fun _ => rfl) rfl (by kernel_rfl) rfl ?_
  refine wl_load 3 (.tmp 44) (pt k2 5) (.int .i64 S) rfl rfl (run_one Q2 3 5 rfl Try.underlying3 rfl) rfl ?_
  refine wl_mv (.tmp 1) (.int .i64 S) (fun _ => rfl) rfl rfl ?_
  refine wl_bin (fun x y => do eqGuard .neq 3 (.tmp 45) (.tmp 46) x y; binOp .neq 3 x y) (.tmp 45) (.tmp 46) (.int .i64 S) (.int .i64 S) (.bool false) (fun _ => rfl) rfl rfl (neq3_run (by simp) _ _ _) rfl ?_
  refine wl_pick (.tmp 43) (.const (.bool true)) (.tmp 47) false (.bool false) (fun _ => rfl) rfl rfl rfl ?_
  refine w_nil ?_
  refine xn_then ?_
  refine w_condF rfl ?_
  refine w_skip ?_
  refine xn_then ?_
  refine w_seq ?_
  refine w_reg ?_
  refine wl_load 40 (.tmp 7) (pt k2 0) (rd x_b x_0 x_1 x_2 x_3 S) rfl rfl (run_row Q2 40 0 6 (rdl x_b x_0 x_1 x_2 x_3 S) rfl Try.underlying40 rfl sz40) rfl ?_
  refine wl_load 40 (.tmp 3) (pt k1 0) (rd a_b a_0 a_1 a_2 a_3 a_s) rfl rfl (run_row Q1 40 0 6 (rdl a_b a_0 a_1 a_2 a_3 a_s) rfl Try.underlying40 rfl sz40) rfl ?_
  refine wl_call 37 [(.tmp 50), (.tmp 51)] _ [rd x_b x_0 x_1 x_2 x_3 S, rd a_b a_0 a_1 a_2 a_3 a_s] (.tuple #[rd d_b d_0 d_1 d_2 d_3 d_s, .int .i64 (0)]) rfl rfl (fun _ _ => by kernel_rfl) (h3 _) rfl ?_
  intro w9 hq
  replace Q1 := Q1.mo hq
  replace Q2 := Q2.mo hq
  replace Q3 := Q3.mo hq
  replace M := M.trans hq
  clear hq
  refine wl_mv (.tmp 52) (.tuple #[rd d_b d_0 d_1 d_2 d_3 d_s, .int .i64 (0)]) (fun _ => rfl) rfl rfl ?_
  refine wl_un (fun v => Instr.extract v 0) (.tmp 49) (.tuple #[rd d_b d_0 d_1 d_2 d_3 d_s, .int .i64 (0)]) (rd d_b d_0 d_1 d_2 d_3 d_s) (fun _ => rfl) rfl (by kernel_rfl) rfl ?_
  refine wl_un (fun v => Instr.extract v 1) (.tmp 49) (.tuple #[rd d_b d_0 d_1 d_2 d_3 d_s, .int .i64 (0)]) (.int .i64 (0)) (fun _ => rfl) rfl (by kernel_rfl) rfl ?_
  refine wl_alloc 40 #[.bool false, .int .u64 0, .int .u64 0, .int .u64 0, .int .u64 0, .int .i64 0] rfl (fun _ => by kernel_rfl) rfl ?_
  intro k4 w10 hk hz hq Q4
  have ne_k1_k4 : k1 ≠ k4 := by have := Q1.lt; omega
  have ne_k2_k4 : k2 ≠ k4 := by have := Q2.lt; omega
  have ne_k3_k4 : k3 ≠ k4 := by have := Q3.lt; omega
  have N_k4 : w.heap.size ≤ k4 := by have := M.size; omega
  replace Q1 := Q1.mo hq
  replace Q2 := Q2.mo hq
  replace Q3 := Q3.mo hq
  replace M := M.trans hq
  clear hk hz hq
  refine wl_st 40 (.tmp 11) (.tmp 53) k4 0 (rda d_b d_0 d_1 d_2 d_3 d_s) [.bool false, .int .u64 0, .int .u64 0, .int .u64 0, .int .u64 0, .int .i64 0] (rdl d_b d_0 d_1 d_2 d_3 d_s) Q4 rfl rfl rfl rfl rfl sz40 rfl rfl rfl ?_
  intro w11 hS Qn
  replace Q4 := Qn
  clear Qn
  replace Q1 := hS.other _ _ ne_k1_k4 Q1
  replace Q2 := hS.other _ _ ne_k2_k4 Q2
  replace Q3 := hS.other _ _ ne_k3_k4 Q3
  replace M := hS.mo _ N_k4 M
  clear hS
  refine wl_mv (.tmp 54) (.int .i64 (0)) (fun _ => rfl) rfl rfl ?_
  refine w_nil ?_
  refine xn_then ?_
  refine w_seq ?_
  refine w_seq ?_
  refine w_reg ?_
  refine wl_mv (.tmp 8) (.int .i64 (0)) (fun _ => rfl) rfl rfl ?_
  refine wl_bin (fun x y => do eqGuard .eql 32 (.tmp 55) (.const (.int .i64 (7))) x y; binOp .eql 32 x y) (.tmp 55) (.const (.int .i64 (7))) (.int .i64 (0)) (.int .i64 (7)) (.bool false) (fun _ => rfl) rfl rfl (by kernel_rfl) rfl ?_
  refine w_nil ?_
  refine xn_then ?_
  refine w_condF rfl ?_
  refine w_skip ?_
  refine xn_then ?_
  refine w_seq ?_
  refine w_reg ?_
  refine wl_load 40 (.tmp 11) (pt k4 0) (rd d_b d_0 d_1 d_2 d_3 d_s) rfl rfl (run_row Q4 40 0 6 (rdl d_b d_0 d_1 d_2 d_3 d_s) rfl Try.underlying40 rfl sz40) rfl ?_
  refine wl_call 49 [(.tmp 58)] _ [rd d_b d_0 d_1 d_2 d_3 d_s] (.tuple #[rd q_b q_0 q_1 q_2 q_3 q_s, .int .i64 (0)]) rfl rfl (fun _ _ => by kernel_rfl) (h4 _) rfl ?_
  intro w12 hq
  replace Q1 := Q1.mo hq
  replace Q2 := Q2.mo hq
  replace Q3 := Q3.mo hq
  replace Q4 := Q4.mo hq
  replace M := M.trans hq
  clear hq
  refine wl_mv (.tmp 59) (.tuple #[rd q_b q_0 q_1 q_2 q_3 q_s, .int .i64 (0)]) (fun _ => rfl) rfl rfl ?_
  refine wl_un (fun v => Instr.extract v 0) (.tmp 57) (.tuple #[rd q_b q_0 q_1 q_2 q_3 q_s, .int .i64 (0)]) (rd q_b q_0 q_1 q_2 q_3 q_s) (fun _ => rfl) rfl (by kernel_rfl) rfl ?_
  refine wl_un (fun v => Instr.extract v 1) (.tmp 57) (.tuple #[rd q_b q_0 q_1 q_2 q_3 q_s, .int .i64 (0)]) (.int .i64 (0)) (fun _ => rfl) rfl (by kernel_rfl) rfl ?_
  refine wl_st 40 (.tmp 11) (.tmp 60) k4 0 (rda q_b q_0 q_1 q_2 q_3 q_s) (rdl d_b d_0 d_1 d_2 d_3 d_s) (rdl q_b q_0 q_1 q_2 q_3 q_s) Q4 rfl rfl rfl rfl rfl sz40 rfl rfl rfl ?_
  intro w13 hS Qn
  replace Q4 := Qn
  clear Qn
  replace Q1 := hS.other _ _ ne_k1_k4 Q1
  replace Q2 := hS.other _ _ ne_k2_k4 Q2
  replace Q3 := hS.other _ _ ne_k3_k4 Q3
  replace M := hS.mo _ N_k4 M
  clear hS
  refine wl_mv (.tmp 61) (.int .i64 (0)) (fun _ => rfl) rfl rfl ?_
  refine w_nil ?_
  refine xn_then ?_
  refine w_seq ?_
  refine w_reg ?_
  refine wl_mv (.tmp 1) (.int .i64 S) (fun _ => rfl) rfl rfl ?_
  refine wl_call 26 [(.const (.int .i64 (1))), (.tmp 63)] _ [.int .i64 (1), .int .i64 S] (.tuple #[rd o_b o_0 o_1 o_2 o_3 o_s, .int .i64 (0)]) rfl rfl (fun _ _ => by kernel_rfl) (h5 _) rfl ?_
  intro w14 hq
  replace Q1 := Q1.mo hq
  replace Q2 := Q2.mo hq
  replace Q3 := Q3.mo hq
  replace Q4 := Q4.mo hq
  replace M := M.trans hq
  clear hq
  refine wl_mv (.tmp 64) (.tuple #[rd o_b o_0 o_1 o_2 o_3 o_s, .int .i64 (0)]) (fun _ => rfl) rfl rfl ?_
  refine wl_un (fun v => Instr.extract v 0) (.tmp 62) (.tuple #[rd o_b o_0 o_1 o_2 o_3 o_s, .int .i64 (0)]) (rd o_b o_0 o_1 o_2 o_3 o_s) (fun _ => rfl) rfl (by kernel_rfl) rfl ?_
  refine wl_un (fun v => Instr.extract v 1) (.tmp 62) (.tuple #[rd o_b o_0 o_1 o_2 o_3 o_s, .int .i64 (0)]) (.int .i64 (0)) (fun _ => rfl) rfl (by kernel_rfl) rfl ?_
  refine wl_alloc 40 #[.bool false, .int .u64 0, .int .u64 0, .int .u64 0, .int .u64 0, .int .i64 0] rfl (fun _ => by kernel_rfl) rfl ?_
  intro k5 w15 hk hz hq Q5
  have ne_k1_k5 : k1 ≠ k5 := by have := Q1.lt; omega
  have ne_k2_k5 : k2 ≠ k5 := by have := Q2.lt; omega
  have ne_k3_k5 : k3 ≠ k5 := by have := Q3.lt; omega
  have ne_k4_k5 : k4 ≠ k5 := by have := Q4.lt; omega
  have N_k5 : w.heap.size ≤ k5 := by have := M.size; omega
  replace Q1 := Q1.mo hq
  replace Q2 := Q2.mo hq
  replace Q3 := Q3.mo hq
  replace Q4 := Q4.mo hq
  replace M := M.trans hq
  clear hk hz hq
  refine wl_st 40 (.tmp 12) (.tmp 65) k5 0 (rda o_b o_0 o_1 o_2 o_3 o_s) [.bool false, .int .u64 0, .int .u64 0, .int .u64 0, .int .u64 0, .int .i64 0] (rdl o_b o_0 o_1 o_2 o_3 o_s) Q5 rfl rfl rfl rfl rfl sz40 rfl rfl rfl ?_
  intro w16 hS Qn
  replace Q5 := Qn
  clear Qn
  replace Q1 := hS.other _ _ ne_k1_k5 Q1
  replace Q2 := hS.other _ _ ne_k2_k5 Q2
  replace Q3 := hS.other _ _ ne_k3_k5 Q3
  replace Q4 := hS.other _ _ ne_k4_k5 Q4
  replace M := hS.mo _ N_k5 M
  clear hS
  refine wl_mv (.tmp 66) (.int .i64 (0)) (fun _ => rfl) rfl rfl ?_
  refine w_nil ?_
  refine xn_then ?_
  refine w_seq ?_
  refine w_seq ?_
  refine w_reg ?_
  refine wl_mv (.tmp 8) (.int .i64 (0)) (fun _ => rfl) rfl rfl ?_
  refine wl_bin (fun x y => do eqGuard .neq 32 (.tmp 67) (.const (.int .i64 (0))) x y; binOp .neq 32 x y) (.tmp 67) (.const (.int .i64 (0))) (.int .i64 (0)) (.int .i64 (0)) (.bool false) (fun _ => rfl) rfl rfl (by kernel_rfl) rfl ?_
  refine wl_mv (.tmp 68) (.bool false) (fun _ => rfl) rfl rfl ?_
  refine wl_mv (.tmp 10) (.int .i64 (0)) (fun _ => rfl) rfl rfl ?_
  refine wl_bin (fun x y => do eqGuard .neq 32 (.tmp 70) (.const (.int .i64 (0))) x y; binOp .neq 32 x y) (.tmp 70) (.const (.int .i64 (0))) (.int .i64 (0)) (.int .i64 (0)) (.bool false) (fun _ => rfl) rfl rfl (by kernel_rfl) rfl ?_
  refine wl_pick (.tmp 69) (.const (.bool true)) (.tmp 71) false (.bool false) (fun _ => rfl) rfl rfl rfl ?_
  refine wl_mv (.tmp 72) (.bool false) (fun _ => rfl) rfl rfl ?_
  refine wl_mv (.tmp 13) (.int .i64 (0)) (fun _ => rfl) rfl rfl ?_
  refine wl_bin (fun x y => do eqGuard .neq 32 (.tmp 74) (.const (.int .i64 (0))) x y; binOp .neq 32 x y) (.tmp 74) (.const (.int .i64 (0))) (.int .i64 (0)) (.int .i64 (0)) (.bool false) (fun _ => rfl) rfl rfl (by kernel_rfl) rfl ?_
  refine wl_pick (.tmp 73) (.const (.bool true)) (.tmp 75) false (.bool false) (fun _ => rfl) rfl rfl rfl ?_
  refine wl_mv (.tmp 76) (.bool false) (fun _ => rfl) rfl rfl ?_
  refine wl_load 40 (.tmp 11) (pt k4 0) (rd q_b q_0 q_1 q_2 q_3 q_s) rfl rfl (run_row Q4 40 0 6 (rdl q_b q_0 q_1 q_2 q_3 q_s) rfl Try.underlying40 rfl sz40) rfl ?_
  refine wl_load 40 (.tmp 12) (pt k5 0) (rd o_b o_0 o_1 o_2 o_3 o_s) rfl rfl (run_row Q5 40 0 6 (rdl o_b o_0 o_1 o_2 o_3 o_s) rfl Try.underlying40 rfl sz40) rfl ?_
  refine wl_call 51 [(.tmp 78), (.tmp 79)] _ [rd q_b q_0 q_1 q_2 q_3 q_s, rd o_b o_0 o_1 o_2 o_3 o_s] (.int .i64 (-1)) rfl rfl (fun _ _ => by kernel_rfl) (h6 _) rfl ?_
  intro w17 hq
  replace Q1 := Q1.mo hq
  replace Q2 := Q2.mo hq
  replace Q3 := Q3.mo hq
  replace Q4 := Q4.mo hq
  replace Q5 := Q5.mo hq
  replace M := M.trans hq
  clear hq
  refine wl_bin (fun x y => do eqGuard .geq 3 (.tmp 80) (.const (.int .i64 (0))) x y; binOp .geq 3 x y) (.tmp 80) (.const (.int .i64 (0))) (.int .i64 (-1)) (.int .i64 (0)) (.bool false) (fun _ => rfl) rfl rfl (by kernel_rfl) rfl ?_
  refine wl_pick (.tmp 77) (.const (.bool true)) (.tmp 81) false (.bool false) (fun _ => rfl) rfl rfl rfl ?_
  refine w_nil ?_
  refine xn_then ?_
  refine w_condF rfl ?_
  refine w_skip ?_
  refine xn_then ?_
  refine w_seq ?_
  refine w_seq ?_
  refine w_reg ?_
  refine wl_mv (.tmp 1) (.int .i64 S) (fun _ => rfl) rfl rfl ?_
  refine wl_un (fun v => Instr.fieldAt 40 v 2) (.tmp 3) (pt k1 0) (pt k1 5) (fun _ => rfl) rfl (by kernel_rfl) rfl ?_
  refine wl_load 3 (.tmp 84) (pt k1 5) (.int .i64 a_s) rfl rfl (run_one Q1 3 5 rfl Try.underlying3 rfl) rfl ?_
  refine wl_bin (fun x y => do eqGuard .geq 3 (.tmp 83) (.tmp 85) x y; binOp .geq 3 x y) (.tmp 83) (.tmp 85) (.int .i64 S) (.int .i64 a_s) (.bool false) (fun _ => rfl) rfl rfl (geq3_run hge _ _ _) rfl ?_
  refine wl_mv (.tmp 86) (.bool false) (fun _ => rfl) rfl rfl ?_
  refine wl_skip rfl ?_
  refine wl_skip rfl ?_
  refine wl_skip rfl ?_
  refine wl_pick (.tmp 87) (.tmp 90) (.const (.bool false)) false (.bool false) (fun _ => rfl) rfl rfl rfl ?_
  refine w_nil ?_
  refine xn_then ?_
  refine w_condF rfl ?_
  refine w_skip ?_
  refine xn_then ?_
  refine w_seq ?_
  refine w_seq ?_
  refine w_reg ?_
  refine wl_mv (.tmp 2) (.int .i64 (1)) (fun _ => rfl) rfl rfl ?_
  refine wl_bin (fun x y => do eqGuard .neq 3 (.tmp 92) (.const (.int .i64 (1))) x y; binOp .neq 3 x y) (.tmp 92) (.const (.int .i64 (1))) (.int .i64 (1)) (.int .i64 (1)) (.bool false) (fun _ => rfl) rfl rfl (by kernel_rfl) rfl ?_
  refine wl_mv (.tmp 93) (.bool false) (fun _ => rfl) rfl rfl ?_
  refine wl_skip rfl ?_
  refine wl_skip rfl ?_
  refine wl_pick (.tmp 94) (.tmp 96) (.const (.bool false)) false (.bool false) (fun _ => rfl) rfl rfl rfl ?_
  refine w_nil ?_
  refine xn_then ?_
  refine w_condF rfl ?_
  refine w_skip ?_
  refine xn_then ?_
  refine w_seq ?_
  refine w_reg ?_
  refine wl_load 40 (.tmp 11) (pt k4 0) (rd q_b q_0 q_1 q_2 q_3 q_s) rfl rfl (run_row Q4 40 0 6 (rdl q_b q_0 q_1 q_2 q_3 q_s) rfl Try.underlying40 rfl sz40) rfl ?_
  refine wl_load 40 (.tmp 11) (pt k4 0) (rd q_b q_0 q_1 q_2 q_3 q_s) rfl rfl (run_row Q4 40 0 6 (rdl q_b q_0 q_1 q_2 q_3 q_s) rfl Try.underlying40 rfl sz40) rfl ?_
  refine wl_call 35 [(.tmp 99), (.tmp 100)] _ [rd q_b q_0 q_1 q_2 q_3 q_s, rd q_b q_0 q_1 q_2 q_3 q_s] (.tuple #[rd t_b t_0 t_1 t_2 t_3 t_s, .int .i64 (0)]) rfl rfl (fun _ _ => by kernel_rfl) (h8 _) rfl ?_
  intro w18 hq
  replace Q1 := Q1.mo hq
  replace Q2 := Q2.mo hq
  replace Q3 := Q3.mo hq
  replace Q4 := Q4.mo hq
  replace Q5 := Q5.mo hq
  replace M := M.trans hq
  clear hq
  refine wl_mv (.tmp 101) (.tuple #[rd t_b t_0 t_1 t_2 t_3 t_s, .int .i64 (0)]) (fun _ => rfl) rfl rfl ?_
  refine wl_un (fun v => Instr.extract v 0) (.tmp 98) (.tuple #[rd t_b t_0 t_1 t_2 t_3 t_s, .int .i64 (0)]) (rd t_b t_0 t_1 t_2 t_3 t_s) (fun _ => rfl) rfl (by kernel_rfl) rfl ?_
  refine wl_un (fun v => Instr.extract v 1) (.tmp 98) (.tuple #[rd t_b t_0 t_1 t_2 t_3 t_s, .int .i64 (0)]) (.int .i64 (0)) (fun _ => rfl) rfl (by kernel_rfl) rfl ?_
  refine wl_alloc 40 #[.bool false, .int .u64 0, .int .u64 0, .int .u64 0, .int .u64 0, .int .i64 0] rfl (fun _ => by kernel_rfl) rfl ?_
  intro k6 w19 hk hz hq Q6
  have ne_k1_k6 : k1 ≠ k6 := by have := Q1.lt; omega
  have ne_k2_k6 : k2 ≠ k6 := by have := Q2.lt; omega
  have ne_k3_k6 : k3 ≠ k6 := by have := Q3.lt; omega
  have ne_k4_k6 : k4 ≠ k6 := by have := Q4.lt; omega
  have ne_k5_k6 : k5 ≠ k6 := by have := Q5.lt; omega
  have N_k6 : w.heap.size ≤ k6 := by have := M.size; omega
  replace Q1 := Q1.mo hq
  replace Q2 := Q2.mo hq
  replace Q3 := Q3.mo hq
  replace Q4 := Q4.mo hq
  replace Q5 := Q5.mo hq
  replace M := M.trans hq
  clear hk hz hq
  refine wl_st 40 (.tmp 14) (.tmp 102) k6 0 (rda t_b t_0 t_1 t_2 t_3 t_s) [.bool false, .int .u64 0, .int .u64 0, .int .u64 0, .int .u64 0, .int .i64 0] (rdl t_b t_0 t_1 t_2 t_3 t_s) Q6 rfl rfl rfl rfl rfl sz40 rfl rfl rfl ?_
  intro w20 hS Qn
  replace Q6 := Qn
  clear Qn
  replace Q1 := hS.other _ _ ne_k1_k6 Q1
  replace Q2 := hS.other _ _ ne_k2_k6 Q2
  replace Q3 := hS.other _ _ ne_k3_k6 Q3
  replace Q4 := hS.other _ _ ne_k4_k6 Q4
  replace Q5 := hS.other _ _ ne_k5_k6 Q5
  replace M := hS.mo _ N_k6 M
  clear hS
  refine wl_mv (.tmp 103) (.int .i64 (0)) (fun _ => rfl) rfl rfl ?_
  refine w_nil ?_
  refine xn_then ?_
  refine w_seq ?_
  refine w_reg ?_
  refine wl_mv (.tmp 8) (.int .i64 (0)) (fun _ => rfl) rfl rfl ?_
  refine wl_bin (fun x y => do eqGuard .eql 32 (.tmp 104) (.const (.int .i64 (0))) x y; binOp .eql 32 x y) (.tmp 104) (.const (.int .i64 (0))) (.int .i64 (0)) (.int .i64 (0)) (.bool true) (fun _ => rfl) rfl rfl (by kernel_rfl) rfl ?_
  refine wl_mv (.tmp 105) (.bool true) (fun _ => rfl) rfl rfl ?_
  refine wl_load 40 (.tmp 14) (pt k6 0) (rd t_b t_0 t_1 t_2 t_3 t_s) rfl rfl (run_row Q6 40 0 6 (rdl t_b t_0 t_1 t_2 t_3 t_s) rfl Try.underlying40 rfl sz40) rfl ?_
  refine wl_load 40 (.tmp 12) (pt k5 0) (rd o_b o_0 o_1 o_2 o_3 o_s) rfl rfl (run_row Q5 40 0 6 (rdl o_b o_0 o_1 o_2 o_3 o_s) rfl Try.underlying40 rfl sz40) rfl ?_
  refine wl_call 51 [(.tmp 107), (.tmp 108)] _ [rd t_b t_0 t_1 t_2 t_3 t_s, rd o_b o_0 o_1 o_2 o_3 o_s] (.int .i64 c) rfl rfl (fun _ _ => by kernel_rfl) (h9 _) rfl ?_
  intro w21 hq
  replace Q1 := Q1.mo hq
  replace Q2 := Q2.mo hq
  replace Q3 := Q3.mo hq
  replace Q4 := Q4.mo hq
  replace Q5 := Q5.mo hq
  replace Q6 := Q6.mo hq
  replace M := M.trans hq
  clear hq
  refine wl_bin (fun x y => do eqGuard .leq 3 (.tmp 109) (.const (.int .i64 (0))) x y; binOp .leq 3 x y) (.tmp 109) (.const (.int .i64 (0))) (.int .i64 c) (.int .i64 (0)) (.bool true) (fun _ => rfl) rfl rfl (leq3_run hc _ _ _) rfl ?_
  refine wl_pick (.tmp 106) (.tmp 110) (.const (.bool false)) true (.bool true) (fun _ => rfl) rfl rfl rfl ?_
  refine wl_mv (.tmp 111) (.bool true) (fun _ => rfl) rfl rfl ?_
  refine w_nil ?_
  refine xn_then ?_
  refine w_ret ?_
  exact w_ret1 _ (.bool true) rfl rfl ⟨rfl, M⟩
theorem rounds_lt_2 (a_b : Bool) (a_0 a_1 a_2 a_3 a_s : Int) (d_b : Bool) (d_0 d_1 d_2 d_3 d_s : Int) (q_b : Bool) (q_0 q_1 q_2 q_3 q_s : Int) (o_b : Bool) (o_0 o_1 o_2 o_3 o_s : Int) (t_b : Bool) (t_0 t_1 t_2 t_3 t_s : Int) (c : Int) (x_b : Bool) (x_0 x_1 x_2 x_3 : Int) (S : Int) (w : World) (h1 : ∀ w, Calls Try.prog 43 #[rd a_b a_0 a_1 a_2 a_3 a_s, .int .i64 S, .int .i64 (2)] w fun e' w' => e' = .returned (.tuple #[rd x_b x_0 x_1 x_2 x_3 S, .int .i64 (0)]) ∧ Mo w w') (h2 : ∀ w, Calls Try.prog 43 #[rd x_b x_0 x_1 x_2 x_3 S, .int .i64 S, .int .i64 (2)] w fun e' w' => e' = .returned (.tuple #[rd x_b x_0 x_1 x_2 x_3 S, .int .i64 (0)]) ∧ Mo w w') (h3 : ∀ w, Calls Try.prog 37 #[rd x_b x_0 x_1 x_2 x_3 S, rd a_b a_0 a_1 a_2 a_3 a_s] w fun e' w' => e' = .returned (.tuple #[rd d_b d_0 d_1 d_2 d_3 d_s, .int .i64 (0)]) ∧ Mo w w') (h4 : ∀ w, Calls Try.prog 49 #[rd d_b d_0 d_1 d_2 d_3 d_s] w fun e' w' => e' = .returned (.tuple #[rd q_b q_0 q_1 q_2 q_3 q_s, .int .i64 (0)]) ∧ Mo w w') (h5 : ∀ w, Calls Try.prog 26 #[.int .i64 (1), .int .i64 S] w fun e' w' => e' = .returned (.tuple #[rd o_b o_0 o_1 o_2 o_3 o_s, .int .i64 (0)]) ∧ Mo w w') (h6 : ∀ w, Calls Try.prog 51 #[rd q_b q_0 q_1 q_2 q_3 q_s, rd o_b o_0 o_1 o_2 o_3 o_s] w fun e' w' => e' = .returned (.int .i64 (-1)) ∧ Mo w w') (hge : decide (S ≥ a_s) = false) (h8 : ∀ w, Calls Try.prog 35 #[rd q_b q_0 q_1 q_2 q_3 q_s, rd q_b q_0 q_1 q_2 q_3 q_s] w fun e' w' => e' = .returned (.tuple #[rd t_b t_0 t_1 t_2 t_3 t_s, .int .i64 (0)]) ∧ Mo w w') (h9 : ∀ w, Calls Try.prog 51 #[rd t_b t_0 t_1 t_2 t_3 t_s, rd o_b o_0 o_1 o_2 o_3 o_s] w fun e' w' => e' = .returned (.int .i64 c) ∧ Mo w w') (hc : decide (c ≤ 0) = true) :
    Calls Try.prog 12 #[rd a_b a_0 a_1 a_2 a_3 a_s, .int .i64 S, .int .i64 (2)] w fun e' w' => e' = .returned (.bool true) ∧ Mo w w' := by
  refine w_enter 112 Try.func12 Try.ntmps12 rfl rfl ?_
  have M : Mo w w := Mo.refl _
  refine w_seq ?_
  refine w_reg ?_
  refine wl_box 40 (.tmp 0) (rd a_b a_0 a_1 a_2 a_3 a_s) ((rda a_b a_0 a_1 a_2 a_3 a_s)) rfl rfl (fun _ => by kernel_rfl) rfl ?_
  intro k1 w1 hk hz hq Q1
  have N_k1 : w.heap.size ≤ k1 := by have := M.size; omega
  replace M := M.trans hq
  clear hk hz hq
  refine wl_mv (.const (.bool false)) (.bool false) (fun _ => rfl) rfl rfl ?_
  refine w_nil ?_
  refine xn_then ?_
  refine w_seq ?_
  refine w_reg ?_
  refine wl_load 40 (.tmp 3) (pt k1 0) (rd a_b a_0 a_1 a_2 a_3 a_s) rfl rfl (run_row Q1 40 0 6 (rdl a_b a_0 a_1 a_2 a_3 a_s) rfl Try.underlying40 rfl sz40) rfl ?_
  refine wl_mv (.tmp 1) (.int .i64 S) (fun _ => rfl) rfl rfl ?_
  refine wl_mv (.tmp 2) (.int .i64 (2)) (fun _ => rfl) rfl rfl ?_
  refine wl_call 43 [(.tmp 16), (.tmp 17), (.tmp 18)] _ [rd a_b a_0 a_1 a_2 a_3 a_s, .int .i64 S, .int .i64 (2)] (.tuple #[rd x_b x_0 x_1 x_2 x_3 S, .int .i64 (0)]) rfl rfl (fun _ _ => by kernel_rfl) (h1 _) rfl ?_
  intro w2 hq
  replace Q1 := Q1.mo hq
  replace M := M.trans hq
  clear hq
  refine wl_mv (.tmp 19) (.tuple #[rd x_b x_0 x_1 x_2 x_3 S, .int .i64 (0)]) (fun _ => rfl) rfl rfl ?_
  refine wl_un (fun v => Instr.extract v 0) (.tmp 15) (.tuple #[rd x_b x_0 x_1 x_2 x_3 S, .int .i64 (0)]) (rd x_b x_0 x_1 x_2 x_3 S) (fun _ => rfl) rfl (by kernel_rfl) rfl ?_
  refine wl_un (fun v => Instr.extract v 1) (.tmp 15) (.tuple #[rd x_b x_0 x_1 x_2 x_3 S, .int .i64 (0)]) (.int .i64 (0)) (fun _ => rfl) rfl (by kernel_rfl) rfl ?_
  refine wl_alloc 40 #[.bool false, .int .u64 0, .int .u64 0, .int .u64 0, .int .u64 0, .int .i64 0] rfl (fun _ => by kernel_rfl) rfl ?_
  intro k2 w3 hk hz hq Q2
  have ne_k1_k2 : k1 ≠ k2 := by have := Q1.lt; omega
  have N_k2 : w.heap.size ≤ k2 := by have := M.size; omega
  replace Q1 := Q1.mo hq
  replace M := M.trans hq
  clear hk hz hq
  refine wl_st 40 (.tmp 7) (.tmp 20) k2 0 (rda x_b x_0 x_1 x_2 x_3 S) [.bool false, .int .u64 0, .int .u64 0, .int .u64 0, .int .u64 0, .int .i64 0] (rdl x_b x_0 x_1 x_2 x_3 S) Q2 rfl rfl rfl rfl rfl sz40 rfl rfl rfl ?_
  intro w4 hS Qn
  replace Q2 := Qn
  clear Qn
  replace Q1 := hS.other _ _ ne_k1_k2 Q1
  replace M := hS.mo _ N_k2 M
  clear hS
  refine wl_mv (.tmp 21) (.int .i64 (0)) (fun _ => rfl) rfl rfl ?_
  refine w_nil ?_
  refine xn_then ?_
  refine w_seq ?_
  refine w_seq ?_
  refine w_reg ?_
  refine wl_call 28 [] _ [] (.bool true) rfl rfl (fun _ _ => by kernel_rfl) (begun_n _) rfl ?_
  intro w5 hq
  replace Q1 := Q1.mo hq
  replace Q2 := Q2.mo hq
  replace M := M.trans hq
  clear hq
  refine wl_un (fun v => Op.unary .not v) (.tmp 22) (.bool true) (.bool false) (fun _ => rfl) rfl (by kernel_rfl) rfl ?_
  refine wl_mv (.tmp 23) (.bool false) (fun _ => rfl) rfl rfl ?_
  refine wl_mv (.tmp 8) (.int .i64 (0)) (fun _ => rfl) rfl rfl ?_
  refine wl_bin (fun x y => do eqGuard .neq 32 (.tmp 25) (.const (.int .i64 (0))) x y; binOp .neq 32 x y) (.tmp 25) (.const (.int .i64 (0))) (.int .i64 (0)) (.int .i64 (0)) (.bool false) (fun _ => rfl) rfl rfl (by kernel_rfl) rfl ?_
  refine wl_pick (.tmp 24) (.const (.bool true)) (.tmp 26) false (.bool false) (fun _ => rfl) rfl rfl rfl ?_
  refine w_nil ?_
  refine xn_then ?_
  refine w_condF rfl ?_
  refine w_skip ?_
  refine xn_then ?_
  refine w_seq ?_
  refine w_reg ?_
  refine wl_load 40 (.tmp 7) (pt k2 0) (rd x_b x_0 x_1 x_2 x_3 S) rfl rfl (run_row Q2 40 0 6 (rdl x_b x_0 x_1 x_2 x_3 S) rfl Try.underlying40 rfl sz40) rfl ?_
  refine wl_mv (.tmp 1) (.int .i64 S) (fun _ => rfl) rfl rfl ?_
  refine wl_mv (.tmp 2) (.int .i64 (2)) (fun _ => rfl) rfl rfl ?_
  refine wl_call 43 [(.tmp 30), (.tmp 31), (.tmp 32)] _ [rd x_b x_0 x_1 x_2 x_3 S, .int .i64 S, .int .i64 (2)] (.tuple #[rd x_b x_0 x_1 x_2 x_3 S, .int .i64 (0)]) rfl rfl (fun _ _ => by kernel_rfl) (h2 _) rfl ?_
  intro w6 hq
  replace Q1 := Q1.mo hq
  replace Q2 := Q2.mo hq
  replace M := M.trans hq
  clear hq
  refine wl_mv (.tmp 33) (.tuple #[rd x_b x_0 x_1 x_2 x_3 S, .int .i64 (0)]) (fun _ => rfl) rfl rfl ?_
  refine wl_un (fun v => Instr.extract v 0) (.tmp 29) (.tuple #[rd x_b x_0 x_1 x_2 x_3 S, .int .i64 (0)]) (rd x_b x_0 x_1 x_2 x_3 S) (fun _ => rfl) rfl (by kernel_rfl) rfl ?_
  refine wl_un (fun v => Instr.extract v 1) (.tmp 29) (.tuple #[rd x_b x_0 x_1 x_2 x_3 S, .int .i64 (0)]) (.int .i64 (0)) (fun _ => rfl) rfl (by kernel_rfl) rfl ?_
  refine wl_alloc 40 #[.bool false, .int .u64 0, .int .u64 0, .int .u64 0, .int .u64 0, .int .i64 0] rfl (fun _ => by kernel_rfl) rfl ?_
  intro k3 w7 hk hz hq Q3
  have ne_k1_k3 : k1 ≠ k3 := by have := Q1.lt; omega
  have ne_k2_k3 : k2 ≠ k3 := by have := Q2.lt; omega
  have N_k3 : w.heap.size ≤ k3 := by have := M.size; omega
  replace Q1 := Q1.mo hq
  replace Q2 := Q2.mo hq
  replace M := M.trans hq
  clear hk hz hq
  refine wl_st 40 (.tmp 9) (.tmp 34) k3 0 (rda x_b x_0 x_1 x_2 x_3 S) [.bool false, .int .u64 0, .int .u64 0, .int .u64 0, .int .u64 0, .int .i64 0] (rdl x_b x_0 x_1 x_2 x_3 S) Q3 rfl rfl rfl rfl rfl sz40 rfl rfl rfl ?_
  intro w8 hS Qn
  replace Q3 := Qn
  clear Qn
  replace Q1 := hS.other _ _ ne_k1_k3 Q1
  replace Q2 := hS.other _ _ ne_k2_k3 Q2
  replace M := hS.mo _ N_k3 M
  clear hS
  refine wl_mv (.tmp 35) (.int .i64 (0)) (fun _ => rfl) rfl rfl ?_
  refine w_nil ?_
  refine xn_then ?_
  refine w_seq ?_
  refine w_seq ?_
  refine w_reg ?_
  refine wl_load 40 (.tmp 9) (pt k3 0) (rd x_b x_0 x_1 x_2 x_3 S) rfl rfl (run_row Q3 40 0 6 (rdl x_b x_0 x_1 x_2 x_3 S) rfl Try.underlying40 rfl sz40) rfl ?_
  refine wl_load 40 (.tmp 7) (pt k2 0) (rd x_b x_0 x_1 x_2 x_3 S) rfl rfl (run_row Q2 40 0 6 (rdl x_b x_0 x_1 x_2 x_3 S) rfl Try.underlying40 rfl sz40) rfl ?_
  refine wl_bin (fun x y => do eqGuard .neq 40 (.tmp 36) (.tmp 37) x y; binOp .neq 40 x y) (.tmp 36) (.tmp 37) (rd x_b x_0 x_1 x_2 x_3 S) (rd x_b x_0 x_1 x_2 x_3 S) (.bool false) (fun _ => rfl) rfl rfl (ned_run (self6 _ _ _ _ _ _) _ _ _) rfl ?_
  refine wl_mv (.tmp 38) (.bool false) (fun _ => rfl) rfl rfl ?_
  refine wl_mv (.tmp 10) (.int .i64 (0)) (fun _ => rfl) rfl rfl ?_
  refine wl_bin (fun x y => do eqGuard .neq 32 (.tmp 40) (.const (.int .i64 (0))) x y; binOp .neq 32 x y) (.tmp 40) (.const (.int .i64 (0))) (.int .i64 (0)) (.int .i64 (0)) (.bool false) (fun _ => rfl) rfl rfl (by kernel_rfl) rfl ?_
  refine wl_pick (.tmp 39) (.const (.bool true)) (.tmp 41) false (.bool false) (fun _ => rfl) rfl rfl rfl ?_
  refine wl_mv (.tmp 42) (.bool false) (fun _ => rfl) rfl rfl ?_
  refine wl_un (fun v => Instr.fieldAt 40 v 2) (.tmp 7) (pt k2 0) (pt k2 5) (fun _ => rfl) rfl (by kernel_rfl) rfl ?_
  refine wl_load 3 (.tmp 44) (pt k2 5) (.int .i64 S) rfl rfl (run_one Q2 3 5 rfl Try.underlying3 rfl) rfl ?_
  refine wl_mv (.tmp 1) (.int .i64 S) (fun _ => rfl) rfl rfl ?_
  refine wl_bin (fun x y => do eqGuard .neq 3 (.tmp 45) (.tmp 46) x y; binOp .neq 3 x y) (.tmp 45) (.tmp 46) (.int .i64 S) (.int .i64 S) (.bool false) (fun _ => rfl) rfl rfl (neq3_run (by simp) _ _ _) rfl ?_
  refine wl_pick (.tmp 43) (.const (.bool true)) (.tmp 47) false (.bool false) (fun _ => rfl) rfl rfl rfl ?_
  refine w_nil ?_
  refine xn_then ?_
  refine w_condF rfl ?_
  refine w_skip ?_
  refine xn_then ?_
  refine w_seq ?_
  refine w_reg ?_
  refine wl_load 40 (.tmp 7) (pt k2 0) (rd x_b x_0 x_1 x_2 x_3 S) rfl rfl (run_row Q2 40 0 6 (rdl x_b x_0 x_1 x_2 x_3 S) rfl Try.underlying40 rfl sz40) rfl ?_
  refine wl_load 40 (.tmp 3) (pt k1 0) (rd a_b a_0 a_1 a_2 a_3 a_s) rfl rfl (run_row Q1 40 0 6 (rdl a_b a_0 a_1 a_2 a_3 a_s) rfl Try.underlying40 rfl sz40) rfl ?_
  refine wl_call 37 [(.tmp 50), (.tmp 51)] _ [rd x_b x_0 x_1 x_2 x_3 S, rd a_b a_0 a_1 a_2 a_3 a_s] (.tuple #[rd d_b d_0 d_1 d_2 d_3 d_s, .int .i64 (0)]) rfl rfl (fun _ _ => by kernel_rfl) (h3 _) rfl ?_
  intro w9 hq
  replace Q1 := Q1.mo hq
  replace Q2 := Q2.mo hq
  replace Q3 := Q3.mo hq
  replace M := M.trans hq
  clear hq
  refine wl_mv (.tmp 52) (.tuple #[rd d_b d_0 d_1 d_2 d_3 d_s, .int .i64 (0)]) (fun _ => rfl) rfl rfl ?_
  refine wl_un (fun v => Instr.extract v 0) (.tmp 49) (.tuple #[rd d_b d_0 d_1 d_2 d_3 d_s, .int .i64 (0)]) (rd d_b d_0 d_1 d_2 d_3 d_s) (fun _ => rfl) rfl (by kernel_rfl) rfl ?_
  refine wl_un (fun v => Instr.extract v 1) (.tmp 49) (.tuple #[rd d_b d_0 d_1 d_2 d_3 d_s, .int .i64 (0)]) (.int .i64 (0)) (fun _ => rfl) rfl (by kernel_rfl) rfl ?_
  refine wl_alloc 40 #[.bool false, .int .u64 0, .int .u64 0, .int .u64 0, .int .u64 0, .int .i64 0] rfl (fun _ => by kernel_rfl) rfl ?_
  intro k4 w10 hk hz hq Q4
  have ne_k1_k4 : k1 ≠ k4 := by have := Q1.lt; omega
  have ne_k2_k4 : k2 ≠ k4 := by have := Q2.lt; omega
  have ne_k3_k4 : k3 ≠ k4 := by have := Q3.lt; omega
  have N_k4 : w.heap.size ≤ k4 := by have := M.size; omega
  replace Q1 := Q1.mo hq
  replace Q2 := Q2.mo hq
  replace Q3 := Q3.mo hq
  replace M := M.trans hq
  clear hk hz hq
  refine wl_st 40 (.tmp 11) (.tmp 53) k4 0 (rda d_b d_0 d_1 d_2 d_3 d_s) [.bool false, .int .u64 0, .int .u64 0, .int .u64 0, .int .u64 0, .int .i64 0] (rdl d_b d_0 d_1 d_2 d_3 d_s) Q4 rfl rfl rfl rfl rfl sz40 rfl rfl rfl ?_
  intro w11 hS Qn
  replace Q4 := Qn
  clear Qn
  replace Q1 := hS.other _ _ ne_k1_k4 Q1
  replace Q2 := hS.other _ _ ne_k2_k4 Q2
  replace Q3 := hS.other _ _ ne_k3_k4 Q3
  replace M := hS.mo _ N_k4 M
  clear hS
  refine wl_mv (.tmp 54) (.int .i64 (0)) (fun _ => rfl) rfl rfl ?_
  refine w_nil ?_
  refine xn_then ?_
  refine w_seq ?_
  refine w_seq ?_
  refine w_reg ?_
  refine wl_mv (.tmp 8) (.int .i64 (0)) (fun _ => rfl) rfl rfl ?_
  refine wl_bin (fun x y => do eqGuard .eql 32 (.tmp 55) (.const (.int .i64 (7))) x y; binOp .eql 32 x y) (.tmp 55) (.const (.int .i64 (7))) (.int .i64 (0)) (.int .i64 (7)) (.bool false) (fun _ => rfl) rfl rfl (by kernel_rfl) rfl ?_
  refine w_nil ?_
  refine xn_then ?_
  refine w_condF rfl ?_
  refine w_skip ?_
  refine xn_then ?_
  refine w_seq ?_
  refine w_reg ?_
  refine wl_load 40 (.tmp 11) (pt k4 0) (rd d_b d_0 d_1 d_2 d_3 d_s) rfl rfl (run_row Q4 40 0 6 (rdl d_b d_0 d_1 d_2 d_3 d_s) rfl Try.underlying40 rfl sz40) rfl ?_
  refine wl_call 49 [(.tmp 58)] _ [rd d_b d_0 d_1 d_2 d_3 d_s] (.tuple #[rd q_b q_0 q_1 q_2 q_3 q_s, .int .i64 (0)]) rfl rfl (fun _ _ => by kernel_rfl) (h4 _) rfl ?_
  intro w12 hq
  replace Q1 := Q1.mo hq
  replace Q2 := Q2.mo hq
  replace Q3 := Q3.mo hq
  replace Q4 := Q4.mo hq
  replace M := M.trans hq
  clear hq
  refine wl_mv (.tmp 59) (.tuple #[rd q_b q_0 q_1 q_2 q_3 q_s, .int .i64 (0)]) (fun _ => rfl) rfl rfl ?_
  refine wl_un (fun v => Instr.extract v 0) (.tmp 57) (.tuple #[rd q_b q_0 q_1 q_2 q_3 q_s, .int .i64 (0)]) (rd q_b q_0 q_1 q_2 q_3 q_s) (fun _ => rfl) rfl (by kernel_rfl) rfl ?_
  refine wl_un (fun v => Instr.extract v 1) (.tmp 57) (.tuple #[rd q_b q_0 q_1 q_2 q_3 q_s, .int .i64 (0)]) (.int .i64 (0)) (fun _ => rfl) rfl (by kernel_rfl) rfl ?_
  refine wl_st 40 (.tmp 11) (.tmp 60) k4 0 (rda q_b q_0 q_1 q_2 q_3 q_s) (rdl d_b d_0 d_1 d_2 d_3 d_s) (rdl q_b q_0 q_1 q_2 q_3 q_s) Q4 rfl rfl rfl rfl rfl sz40 rfl rfl rfl ?_
  intro w13 hS Qn
  replace Q4 := Qn
  clear Qn
  replace Q1 := hS.other _ _ ne_k1_k4 Q1
  replace Q2 := hS.other _ _ ne_k2_k4 Q2
  replace Q3 := hS.other _ _ ne_k3_k4 Q3
  replace M := hS.mo _ N_k4 M
  clear hS
  refine wl_mv (.tmp 61) (.int .i64 (0)) (fun _ => rfl) rfl rfl ?_
  refine w_nil ?_
  refine xn_then ?_
  refine w_seq ?_
  refine w_reg ?_
  refine wl_mv (.tmp 1) (.int .i64 S) (fun _ => rfl) rfl rfl ?_
  refine wl_call 26 [(.const (.int .i64 (1))), (.tmp 63)] _ [.int .i64 (1), .int .i64 S] (.tuple #[rd o_b o_0 o_1 o_2 o_3 o_s, .int .i64 (0)]) rfl rfl (fun _ _ => by kernel_rfl) (h5 _) rfl ?_
  intro w14 hq
  replace Q1 := Q1.mo hq
  replace Q2 := Q2.mo hq
  replace Q3 := Q3.mo hq
  replace Q4 := Q4.mo hq
  replace M := M.trans hq
  clear hq
  refine wl_mv (.tmp 64) (.tuple #[rd o_b o_0 o_1 o_2 o_3 o_s, .int .i64 (0)]) (fun _ => rfl) rfl rfl ?_
  refine wl_un (fun v => Instr.extract v 0) (.tmp 62) (.tuple #[rd o_b o_0 o_1 o_2 o_3 o_s, .int .i64 (0)]) (rd o_b o_0 o_1 o_2 o_3 o_s) (fun _ => rfl) rfl (by kernel_rfl) rfl ?_
  refine wl_un (fun v => Instr.extract v 1) (.tmp 62) (.tuple #[rd o_b o_0 o_1 o_2 o_3 o_s, .int .i64 (0)]) (.int .i64 (0)) (fun _ => rfl) rfl (by kernel_rfl) rfl ?_
  refine wl_alloc 40 #[.bool false, .int .u64 0, .int .u64 0, .int .u64 0, .int .u64 0, .int .i64 0] rfl (fun _ => by kernel_rfl) rfl ?_
  intro k5 w15 hk hz hq Q5
  have ne_k1_k5 : k1 ≠ k5 := by have := Q1.lt; omega
  have ne_k2_k5 : k2 ≠ k5 := by have := Q2.lt; omega
  have ne_k3_k5 : k3 ≠ k5 := by have := Q3.lt; omega
  have ne_k4_k5 : k4 ≠ k5 := by have := Q4.lt; omega
  have N_k5 : w.heap.size ≤ k5 := by have := M.size; omega
  replace Q1 := Q1.mo hq
  replace Q2 := Q2.mo hq
  replace Q3 := Q3.mo hq
  replace Q4 := Q4.mo hq
  replace M := M.trans hq
  clear hk hz hq
  refine wl_st 40 (.tmp 12) (.tmp 65) k5 0 (rda o_b o_0 o_1 o_2 o_3 o_s) [.bool false, .int .u64 0, .int .u64 0, .int .u64 0, .int .u64 0, .int .i64 0] (rdl o_b o_0 o_1 o_2 o_3 o_s) Q5 rfl rfl rfl rfl rfl sz40 rfl rfl rfl ?_
  intro w16 hS Qn
  replace Q5 := Qn
  clear Qn
  replace Q1 := hS.other _ _ ne_k1_k5 Q1
  replace Q2 := hS.other _ _ ne_k2_k5 Q2
  replace Q3 := hS.other _ _ ne_k3_k5 Q3
  replace Q4 := hS.other _ _ ne_k4_k5 Q4
  replace M := hS.mo _ N_k5 M
  clear hS
  refine wl_mv (.tmp 66) (.int .i64 (0)) (fun _ => rfl) rfl rfl ?_
  refine w_nil ?_
  refine xn_then ?_
  refine w_seq ?_
  refine w_seq ?_
  refine w_reg ?_
  refine wl_mv (.tmp 8) (.int .i64 (0)) (fun _ => rfl) rfl rfl ?_
  refine wl_bin (fun x y => do eqGuard .neq 32 (.tmp 67) (.const (.int .i64 (0))) x y; binOp .neq 32 x y) (.tmp 67) (.const (.int .i64 (0))) (.int .i64 (0)) (.int .i64 (0)) (.bool false) (fun _ => rfl) rfl rfl (by kernel_rfl) rfl ?_
  refine wl_mv (.tmp 68) (.bool false) (fun _ => rfl) rfl rfl ?_
  refine wl_mv (.tmp 10) (.int .i64 (0)) (fun _ => rfl) rfl rfl ?_
  refine wl_bin (fun x y => do eqGuard .neq 32 (.tmp 70) (.const (.int .i64 (0))) x y; binOp .neq 32 x y) (.tmp 70) (.const (.int .i64 (0))) (.int .i64 (0)) (.int .i64 (0)) (.bool false) (fun _ => rfl) rfl rfl (by kernel_rfl) rfl ?_
  refine wl_pick (.tmp 69) (.const (.bool true)) (.tmp 71) false (.bool false) (fun _ => rfl) rfl rfl rfl ?_
  refine wl_mv (.tmp 72) (.bool false) (fun _ => rfl) rfl rfl ?_
  refine wl_mv (.tmp 13) (.int .i64 (0)) (fun _ => rfl) rfl rfl ?_
  refine wl_bin (fun x y => do eqGuard .neq 32 (.tmp 74) (.const (.int .i64 (0))) x y; binOp .neq 32 x y) (.tmp 74) (.const (.int .i64 (0))) (.int .i64 (0)) (.int .i64 (0)) (.bool false) (fun _ => rfl) rfl rfl (by kernel_rfl) rfl ?_
  refine wl_pick (.tmp 73) (.const (.bool true)) (.tmp 75) false (.bool false) (fun _ => rfl) rfl rfl rfl ?_
  refine wl_mv (.tmp 76) (.bool false) (fun _ => rfl) rfl rfl ?_
  refine wl_load 40 (.tmp 11) (pt k4 0) (rd q_b q_0 q_1 q_2 q_3 q_s) rfl rfl (run_row Q4 40 0 6 (rdl q_b q_0 q_1 q_2 q_3 q_s) rfl Try.underlying40 rfl sz40) rfl ?_
  refine wl_load 40 (.tmp 12) (pt k5 0) (rd o_b o_0 o_1 o_2 o_3 o_s) rfl rfl (run_row Q5 40 0 6 (rdl o_b o_0 o_1 o_2 o_3 o_s) rfl Try.underlying40 rfl sz40) rfl ?_
  refine wl_call 51 [(.tmp 78), (.tmp 79)] _ [rd q_b q_0 q_1 q_2 q_3 q_s, rd o_b o_0 o_1 o_2 o_3 o_s] (.int .i64 (-1)) rfl rfl (fun _ _ => by kernel_rfl) (h6 _) rfl ?_
  intro w17 hq
  replace Q1 := Q1.mo hq
  replace Q2 := Q2.mo hq
  replace Q3 := Q3.mo hq
  replace Q4 := Q4.mo hq
  replace Q5 := Q5.mo hq
  replace M := M.trans hq
  clear hq
  refine wl_bin (fun x y => do eqGuard .geq 3 (.tmp 80) (.const (.int .i64 (0))) x y; binOp .geq 3 x y) (.tmp 80) (.const (.int .i64 (0))) (.int .i64 (-1)) (.int .i64 (0)) (.bool false) (fun _ => rfl) rfl rfl (by kernel_rfl) rfl ?_
  refine wl_pick (.tmp 77) (.const (.bool true)) (.tmp 81) false (.bool false) (fun _ => rfl) rfl rfl rfl ?_
  refine w_nil ?_
  refine xn_then ?_
  refine w_condF rfl ?_
  refine w_skip ?_
  refine xn_then ?_
  refine w_seq ?_
  refine w_seq ?_
  refine w_reg ?_
  refine wl_mv (.tmp 1) (.int .i64 S) (fun _ => rfl) rfl rfl ?_
  refine wl_un (fun v => Instr.fieldAt 40 v 2) (.tmp 3) (pt k1 0) (pt k1 5) (fun _ => rfl) rfl (by kernel_rfl) rfl ?_
  refine wl_load 3 (.tmp 84) (pt k1 5) (.int .i64 a_s) rfl rfl (run_one Q1 3 5 rfl Try.underlying3 rfl) rfl ?_
  refine wl_bin (fun x y => do eqGuard .geq 3 (.tmp 83) (.tmp 85) x y; binOp .geq 3 x y) (.tmp 83) (.tmp 85) (.int .i64 S) (.int .i64 a_s) (.bool false) (fun _ => rfl) rfl rfl (geq3_run hge _ _ _) rfl ?_
  refine wl_mv (.tmp 86) (.bool false) (fun _ => rfl) rfl rfl ?_
  refine wl_skip rfl ?_
  refine wl_skip rfl ?_
  refine wl_skip rfl ?_
  refine wl_pick (.tmp 87) (.tmp 90) (.const (.bool false)) false (.bool false) (fun _ => rfl) rfl rfl rfl ?_
  refine w_nil ?_
  refine xn_then ?_
  refine w_condF rfl ?_
  refine w_skip ?_
  refine xn_then ?_
  refine w_seq ?_
  refine w_seq ?_
  refine w_reg ?_
  refine wl_mv (.tmp 2) (.int .i64 (2)) (fun _ => rfl) rfl rfl ?_
  refine wl_bin (fun x y => do eqGuard .neq 3 (.tmp 92) (.const (.int .i64 (1))) x y; binOp .neq 3 x y) (.tmp 92) (.const (.int .i64 (1))) (.int .i64 (2)) (.int .i64 (1)) (.bool true) (fun _ => rfl) rfl rfl (by kernel_rfl) rfl ?_
  refine wl_mv (.tmp 93) (.bool true) (fun _ => rfl) rfl rfl ?_
  refine wl_mv (.tmp 2) (.int .i64 (2)) (fun _ => rfl) rfl rfl ?_
  refine wl_bin (fun x y => do eqGuard .neq 3 (.tmp 95) (.const (.int .i64 (2))) x y; binOp .neq 3 x y) (.tmp 95) (.const (.int .i64 (2))) (.int .i64 (2)) (.int .i64 (2)) (.bool false) (fun _ => rfl) rfl rfl (by kernel_rfl) rfl ?_
  refine wl_pick (.tmp 94) (.tmp 96) (.const (.bool false)) true (.bool false) (fun _ => rfl) rfl rfl rfl ?_
  refine w_nil ?_
  refine xn_then ?_
  refine w_condF rfl ?_
  refine w_skip ?_
  refine xn_then ?_
  refine w_seq ?_
  refine w_reg ?_
  refine wl_load 40 (.tmp 11) (pt k4 0) (rd q_b q_0 q_1 q_2 q_3 q_s) rfl rfl (run_row Q4 40 0 6 (rdl q_b q_0 q_1 q_2 q_3 q_s) rfl Try.underlying40 rfl sz40) rfl ?_
  refine wl_load 40 (.tmp 11) (pt k4 0) (rd q_b q_0 q_1 q_2 q_3 q_s) rfl rfl (run_row Q4 40 0 6 (rdl q_b q_0 q_1 q_2 q_3 q_s) rfl Try.underlying40 rfl sz40) rfl ?_
  refine wl_call 35 [(.tmp 99), (.tmp 100)] _ [rd q_b q_0 q_1 q_2 q_3 q_s, rd q_b q_0 q_1 q_2 q_3 q_s] (.tuple #[rd t_b t_0 t_1 t_2 t_3 t_s, .int .i64 (0)]) rfl rfl (fun _ _ => by kernel_rfl) (h8 _) rfl ?_
  intro w18 hq
  replace Q1 := Q1.mo hq
  replace Q2 := Q2.mo hq
  replace Q3 := Q3.mo hq
  replace Q4 := Q4.mo hq
  replace Q5 := Q5.mo hq
  replace M := M.trans hq
  clear hq
  refine wl_mv (.tmp 101) (.tuple #[rd t_b t_0 t_1 t_2 t_3 t_s, .int .i64 (0)]) (fun _ => rfl) rfl rfl ?_
  refine wl_un (fun v => Instr.extract v 0) (.tmp 98) (.tuple #[rd t_b t_0 t_1 t_2 t_3 t_s, .int .i64 (0)]) (rd t_b t_0 t_1 t_2 t_3 t_s) (fun _ => rfl) rfl (by kernel_rfl) rfl ?_
  refine wl_un (fun v => Instr.extract v 1) (.tmp 98) (.tuple #[rd t_b t_0 t_1 t_2 t_3 t_s, .int .i64 (0)]) (.int .i64 (0)) (fun _ => rfl) rfl (by kernel_rfl) rfl ?_
  refine wl_alloc 40 #[.bool false, .int .u64 0, .int .u64 0, .int .u64 0, .int .u64 0, .int .i64 0] rfl (fun _ => by kernel_rfl) rfl ?_
  intro k6 w19 hk hz hq Q6
  have ne_k1_k6 : k1 ≠ k6 := by have := Q1.lt; omega
  have ne_k2_k6 : k2 ≠ k6 := by have := Q2.lt; omega
  have ne_k3_k6 : k3 ≠ k6 := by have := Q3.lt; omega
  have ne_k4_k6 : k4 ≠ k6 := by have := Q4.lt; omega
  have ne_k5_k6 : k5 ≠ k6 := by have := Q5.lt; omega
  have N_k6 : w.heap.size ≤ k6 := by have := M.size; omega
  replace Q1 := Q1.mo hq
  replace Q2 := Q2.mo hq
  replace Q3 := Q3.mo hq
  replace Q4 := Q4.mo hq
  replace Q5 := Q5.mo hq
  replace M := M.trans hq
  clear hk hz hq
  refine wl_st 40 (.tmp 14) (.tmp 102) k6 0 (rda t_b t_0 t_1 t_2 t_3 t_s) [.bool false, .int .u64 0, .int .u64 0, .int .u64 0, .int .u64 0, .int .i64 0] (rdl t_b t_0 t_1 t_2 t_3 t_s) Q6 rfl rfl rfl rfl rfl sz40 rfl rfl rfl ?_
  intro w20 hS Qn
  replace Q6 := Qn
  clear Qn
  replace Q1 := hS.other _ _ ne_k1_k6 Q1
  replace Q2 := hS.other _ _ ne_k2_k6 Q2
  replace Q3 := hS.other _ _ ne_k3_k6 Q3
  replace Q4 := hS.other _ _ ne_k4_k6 Q4
  replace Q5 := hS.other _ _ ne_k5_k6 Q5
  replace M := hS.mo _ N_k6 M
  clear hS
  refine wl_mv (.tmp 103) (.int .i64 (0)) (fun _ => rfl) rfl rfl ?_
  refine w_nil ?_
  refine xn_then ?_
  refine w_seq ?_
  refine w_reg ?_
  refine wl_mv (.tmp 8) (.int .i64 (0)) (fun _ => rfl) rfl rfl ?_
  refine wl_bin (fun x y => do eqGuard .eql 32 (.tmp 104) (.const (.int .i64 (0))) x y; binOp .eql 32 x y) (.tmp 104) (.const (.int .i64 (0))) (.int .i64 (0)) (.int .i64 (0)) (.bool true) (fun _ => rfl) rfl rfl (by kernel_rfl) rfl ?_
  refine wl_mv (.tmp 105) (.bool true) (fun _ => rfl) rfl rfl ?_
  refine wl_load 40 (.tmp 14) (pt k6 0) (rd t_b t_0 t_1 t_2 t_3 t_s) rfl rfl (run_row Q6 40 0 6 (rdl t_b t_0 t_1 t_2 t_3 t_s) rfl Try.underlying40 rfl sz40) rfl ?_
  refine wl_load 40 (.tmp 12) (pt k5 0) (rd o_b o_0 o_1 o_2 o_3 o_s) rfl rfl (run_row Q5 40 0 6 (rdl o_b o_0 o_1 o_2 o_3 o_s) rfl Try.underlying40 rfl sz40) rfl ?_
  refine wl_call 51 [(.tmp 107), (.tmp 108)] _ [rd t_b t_0 t_1 t_2 t_3 t_s, rd o_b o_0 o_1 o_2 o_3 o_s] (.int .i64 c) rfl rfl (fun _ _ => by kernel_rfl) (h9 _) rfl ?_
  intro w21 hq
  replace Q1 := Q1.mo hq
  replace Q2 := Q2.mo hq
  replace Q3 := Q3.mo hq
  replace Q4 := Q4.mo hq
  replace Q5 := Q5.mo hq
  replace Q6 := Q6.mo hq
  replace M := M.trans hq
  clear hq
  refine wl_bin (fun x y => do eqGuard .leq 3 (.tmp 109) (.const (.int .i64 (0))) x y; binOp .leq 3 x y) (.tmp 109) (.const (.int .i64 (0))) (.int .i64 c) (.int .i64 (0)) (.bool true) (fun _ => rfl) rfl rfl (leq3_run hc _ _ _) rfl ?_
  refine wl_pick (.tmp 106) (.tmp 110) (.const (.bool false)) true (.bool true) (fun _ => rfl) rfl rfl rfl ?_
  refine wl_mv (.tmp 111) (.bool true) (fun _ => rfl) rfl rfl ?_
  refine w_nil ?_
  refine xn_then ?_
  refine w_ret ?_
  exact w_ret1 _ (.bool true) rfl rfl ⟨rfl, M⟩
end Go.Proofs.Ytoiiekmkcpcbgaa
/-
  exciselaw02.DecimalRounds answers true for every number, scale and policy.
-/
namespace Go.Proofs.Ytoiiekmkcpcbgaa
open Go.RowKit
/-- How far what is rounded lies from the number. -/
theorem ro_near {u p : Int} {b : Bool} (k : Nat) (pol : Int) (hp : p = 10 ^ k) (hb : b = decide (u < 0)) :
    ab (sv b (ro b (ab u) k pol) * p - u) < p ∧ (pol = 1 ∨ pol = 2 → 2 * ab (sv b (ro b (ab u) k pol) * p - u) ≤ p) := by
  have pk : (0 : Int) < p := by rw [hp]; exact Int.pow_pos (by decide)
  have key : ab (ro b (ab u) k pol * p - ab u) < p ∧ (pol = 1 ∨ pol = 2 → 2 * ab (ro b (ab u) k pol * p - ab u) ≤ p) := by
    unfold ro
    rw [← hp]
    have hd := Int.mul_ediv_add_emod (ab u) p
    have hr0 := Int.emod_nonneg (ab u) (b := p) (by omega)
    have hr1 := Int.emod_lt_of_pos (ab u) pk
    generalize ab u / p = q at *
    generalize ab u % p = r at *
    cases hw : aw b q r p pol with
    | false =>
      have e : (q + if false = true then 1 else 0) * p - ab u = -r := by
        simp only [Bool.false_eq_true, if_false, Int.add_zero]; rw [Int.mul_comm q p]; omega
      rw [e, ab_neg]
      have c := ab_c r
      refine ⟨by omega, fun h => ?_⟩
      have : r + r ≤ p := by
        unfold aw at hw
        by_cases z : r = 0
        · omega
        · rcases h with rfl | rfl
          · simp [z] at hw; omega
          · simp [z] at hw; omega
      omega
    | true =>
      have e : (q + if true = true then 1 else 0) * p - ab u = p - r := by
        simp only [if_true]; rw [Int.add_mul, Int.one_mul, Int.mul_comm q p]; omega
      rw [e]
      have c := ab_c (p - r)
      have hz : r ≠ 0 := by intro z; unfold aw at hw; simp [z] at hw
      refine ⟨by omega, fun h => ?_⟩
      have : p ≤ r + r := by
        unfold aw at hw
        rcases h with rfl | rfl
        · simp [hz] at hw; omega
        · simp [hz] at hw; omega
      omega
  have e : ab (sv b (ro b (ab u) k pol) * p - u) = ab (ro b (ab u) k pol * p - ab u) := by
    generalize ro b (ab u) k pol = R
    have cu := ab_c u
    subst hb
    unfold sv
    rcases cu with ⟨c1, c2⟩ | ⟨c1, c2⟩
    · rw [decide_eq_true c1, if_pos rfl, c2, Int.neg_mul, ← ab_neg]
      congr 1; omega
    · rw [decide_eq_false (by omega), if_neg (by decide), c2]
  rw [e]; exact key
theorem pw_le {k : Int} (h : k ≤ 18) : pw k ≤ 1000000000000000000 := by
  unfold pw
  have h1 : (10 : Nat) ^ k.toNat ≤ 10 ^ 18 := Nat.pow_le_pow_right (by decide) (by omega)
  have h3 : ((10 ^ k.toNat : Nat) : Int) = (10 : Int) ^ k.toNat := by rw [Int.natCast_pow]; rfl
  rw [← h3]; omega
theorem cm_lt {a b : Int} (h : a < b) : cm a b = -1 := by unfold cm; rw [if_pos h]
theorem cm_le {a b : Int} (h : a ≤ b) : decide (cm a b ≤ 0) = true := by
  unfold cm
  by_cases h1 : a < b
  · rw [if_pos h1]; decide
  · rw [if_neg h1, if_neg (by omega)]; decide
theorem rounds_n (b : Bool) (n s S p : Int) (w : World) (hn0 : 0 ≤ n) (hn : n < MM) :
    Calls Try.prog 12 #[dc b n s, .int .i64 S, .int .i64 p] w fun e w' => e = .returned (.bool true) ∧ Mo w w' := by
  by_cases h : ck b n s = 0
  · cases hS : sc S with
    | false => exact rounds_err _ _ _ _ _ _ _ _ _ _ _ _ S p 21 w (fun w => rescale_e2 b n s S p w hn0 hn h hS) rfl
    | true =>
      by_cases hp : p < 1 ∨ 5 < p
      · exact rounds_err _ _ _ _ _ _ _ _ _ _ _ _ S p 22 w (fun w => rescale_e3 b n s S p w hn0 hn h hS hp) rfl
      · have hp1 : 1 ≤ p := by omega
        have hp5 : p ≤ 5 := by omega
        obtain ⟨hs, u, rfl, rfl⟩ := dz_of hn0 h
        obtain ⟨s0, s1⟩ := sc_iff.1 hs
        obtain ⟨S0, S1⟩ := sc_iff.1 hS
        have r1 := fun w => rescale_z u s S p w hn hs hS hp1 hp5
        by_cases hX : ab (rsV u s S p) < MM
        · rw [fz_yes hX] at r1
          have r2 := fun w => rescale_z (rsV u s S p) S S p w hX hS hS hp1 hp5
          have e2 : rsV (rsV u s S p) S S p = rsV u s S p := by
            unfold rsV; rw [if_neg (Int.lt_irrefl S), Int.sub_self, pw_zero, Int.mul_one]
          rw [e2, fz_yes hX] at r2
          have d1 := fun w => sub_z (rsV u s S p) S u s w hX hn hS hs
          by_cases hd : ab (addV (rsV u s S p) S (-u) s) < MM
          · rw [fz_yes hd] at d1
            have hmx := sc_max hS hs
            have a1 := fun w => abs_z (addV (rsV u s S p) S (-u) s) (max S s) w hd hmx
            have o1 := fun w => ofInt_ok 1 S w hS (by decide) (by decide)
            -- the distance
            have near : ab (addV (rsV u s S p) S (-u) s) < pw (max S s - S) ∧ (p = 1 ∨ p = 2 → 2 * ab (addV (rsV u s S p) S (-u) s) ≤ pw (max S s - S)) ∧ (S ≥ s → ab (addV (rsV u s S p) S (-u) s) = 0) := by
              unfold addV rsV
              by_cases hlt : S < s
              · rw [if_pos hlt, show max S s = s by omega, Int.sub_self, pw_zero, Int.mul_one]
                have := ro_near (u := u) (p := pw (s - S)) (s - S).toNat p rfl rfl
                refine ⟨this.1, this.2, fun h => ?_⟩
                omega
              · rw [if_neg hlt, show max S s = S by omega, Int.sub_self, pw_zero, Int.mul_one, Int.neg_mul, show u * pw (S - s) + -(u * pw (S - s)) = 0 by omega]
                exact ⟨by decide, fun _ => by decide, fun _ => rfl⟩
            generalize hD : addV (rsV u s S p) S (-u) s = D at *
            obtain ⟨n1, n2, n3⟩ := near
            have aD : ab (ab D) = ab D := by have := ab_nn D; have c := ab_c (ab D); omega
            have bD : ab (ab D) < MM := by rw [aD]; exact hd
            have c1 := fun w => cmp_z (ab D) (max S s) 1 S w bD (by decide) hmx hS
            rw [show max (max S s) S = max S s by omega, Int.sub_self, pw_zero, Int.mul_one, Int.one_mul, cm_lt n1] at c1
            have b2 : 2 * ab D < MM := by
              have h1 := pw_le (k := max S s - S) (by omega)
              unfold MM; omega
            have a2 : addV (ab D) (max S s) (ab D) (max S s) = 2 * ab D := by
              unfold addV; rw [Int.max_self, Int.sub_self, pw_zero, Int.mul_one]; omega
            have aT : ab (2 * ab D) = 2 * ab D := by have := ab_nn D; have c := ab_c (2 * ab D); omega
            have t1 := fun w => add_z (ab D) (max S s) (ab D) (max S s) w bD bD hmx hmx
            rw [a2, Int.max_self, fz_yes (by rw [aT]; exact b2)] at t1
            have c2 := fun w => cmp_z (2 * ab D) (max S s) 1 S w (by rw [aT]; exact b2) (by decide) hmx hS
            rw [show max (max S s) S = max S s by omega, Int.sub_self, pw_zero, Int.mul_one, Int.one_mul] at c2
            have g1 : S ≥ s → ∀ w, Calls Try.prog 31 #[dz (ab D) (max S s)] w fun e w' => e = .returned (.int .i64 0) ∧ Mo w w' := fun hge w => by
              have := sign_n (decide (ab D < 0)) (ab (ab D)) (max S s) w (ab_nn _) bD
              have e : sg (decide (ab D < 0)) (ab (ab D)) = 0 := by rw [aD, n3 hge]; rfl
              rw [e] at this
              exact this
            by_cases hge : S ≥ s
            · have q1 : decide (S ≥ s) = true := decide_eq_true hge
              by_cases h1 : p = 1
              · subst h1
                exact rounds_ge_1 _ _ _ _ _ _ _ _ _ _ _ _ _ _ _ _ _ _ _ _ _ _ _ _ _ _ _ _ _ _ _ _ _ _ _ _ S w r1 r2 d1 a1 o1 c1 q1 (g1 hge) t1 c2 (cm_le (n2 (Or.inl rfl)))
              · by_cases h2 : p = 2
                · subst h2
                  exact rounds_ge_2 _ _ _ _ _ _ _ _ _ _ _ _ _ _ _ _ _ _ _ _ _ _ _ _ _ _ _ _ _ _ _ _ _ _ _ _ S w r1 r2 d1 a1 o1 c1 q1 (g1 hge) t1 c2 (cm_le (n2 (Or.inr rfl)))
                · exact rounds_ge_p _ _ _ _ _ _ _ _ _ _ _ _ _ _ _ _ _ _ _ _ _ _ _ _ _ _ _ _ _ S p w r1 r2 d1 a1 o1 c1 q1 (g1 hge) (by simpa using h1) (by simpa using h2)
            · have q1 : decide (S ≥ s) = false := decide_eq_false hge
              by_cases h1 : p = 1
              · subst h1
                exact rounds_lt_1 _ _ _ _ _ _ _ _ _ _ _ _ _ _ _ _ _ _ _ _ _ _ _ _ _ _ _ _ _ _ _ _ _ _ _ _ S w r1 r2 d1 a1 o1 c1 q1 t1 c2 (cm_le (n2 (Or.inl rfl)))
              · by_cases h2 : p = 2
                · subst h2
                  exact rounds_lt_2 _ _ _ _ _ _ _ _ _ _ _ _ _ _ _ _ _ _ _ _ _ _ _ _ _ _ _ _ _ _ _ _ _ _ _ _ S w r1 r2 d1 a1 o1 c1 q1 t1 c2 (cm_le (n2 (Or.inr rfl)))
                · exact rounds_lt_p _ _ _ _ _ _ _ _ _ _ _ _ _ _ _ _ _ _ _ _ _ _ _ _ _ _ _ _ _ S p w r1 r2 d1 a1 o1 c1 q1 (by simpa using h1) (by simpa using h2)
          · rw [fz_no hd] at d1
            exact rounds_over _ _ _ _ _ _ _ _ _ _ _ _ _ _ _ _ _ S p w r1 r2 d1
        · rw [fz_no hX] at r1
          exact rounds_err _ _ _ _ _ _ _ _ _ _ _ _ S p 7 w r1 rfl
  · exact rounds_err _ _ _ _ _ _ _ _ _ _ _ _ S p 20 w (fun w => rescale_e1 b n s S p w hn0 hn h) rfl
end Go.Proofs.Ytoiiekmkcpcbgaa
namespace Go.Proofs.Ytoiiekmkcpcbgaa
open Go.ChangeShapes Go.WideShapes Go.ChangeAt Go.RowKit

set_option maxHeartbeats 1000000 in
set_option maxRecDepth 100000 in
theorem decimalRounds_lifted (os : Os) (started : os.Started) (H : Type) (enc : TypeId × Value → H) :
    ReturnsInHanded {} Try.checked os 12 .any (Rows.decimalRoundsSpec.pre6 enc Try.prog Try.f12 Rows.decimalRoundsRow.domain false) (Rows.decimalRoundsSpec.post enc Try.prog Try.f12 false true false false) := by
  refine returnsInHanded_of_change (C := Try.checked) Try.own started (by kernel_rfl) Try.func12
    (ChangeSpec.witness6 (enc := enc) (C := Try.checked) false ⟨#[], #[.agg #[.bool false, .int .u64 0, .int .u64 0, .int .u64 0, .int .u64 0, .int .i64 0], .int .i64 0, .int .i64 0], []⟩ 12 (by kernel_rfl) (by kernel_rfl) (by kernel_rfl) (by kernel_rfl)) ?_
  intro W base args ds gs before hval0 hW hcnd _
  have hval : ∀ (j : Nat) t v, Try.f12.params[j]? = some t → args[j]? = some v → Value.okWide Try.prog W .any base t v := hval0
  have hW' := hW
  obtain ⟨p, q, hA0, hV, rfl, hfz, hnd⟩ := hW
  have hA : DataW.TrodAll enc Try.prog W 0 (fun _ => true) true Try.f12.params.toList args.toList ds p := hA0
  rw [Try.params12] at hA hval
  obtain ⟨v0, v1, v2, d0, d1, d2, p0, p1, p2, rfl, rfl, rfl, h0, h1, h2⟩ := trodAll_three hA
  obtain ⟨rfl, rfl⟩ := trodVars_none hV
  obtain ⟨ab, a0, a1, a2, a3, az, rfl, rfl, ua, sa, ra⟩ := open_dec (hval 0 40 v0 rfl rfl) h0
  obtain ⟨bx, rfl, rfl, sb, rb⟩ := open_i64 Try.underlying3 (hval 1 3 v1 rfl rfl) h1
  obtain ⟨cx, rfl, rfl, sc, rc⟩ := open_i64 Try.underlying3 (hval 2 3 v2 rfl rfl) h2
  clear hA0 hval0
  simp only [List.append_nil] at hW'
  rw [← dc_vl ua] at *
  refine (rounds_n ab (vl a0 a1 a2 a3) az bx cx W (vl_bd ua).1 (vl_bd ua).2).mono fun e W' ⟨he, hg⟩ => ?_
  subst he
  exact ⟨_, rfl, post_of_same (pa := []) (pv := []) hW' (fun _ _ _ => trodAll_mk1 (shut_bool Try.underlying4 _)) (fun sp _ => trodAll_mk3 (ra _ sp) (rb _ sp) (rc _ sp)) (fun _ _ => rfl) rfl
    (hg.1.frame _) hg.2 (ok_one (by kernel_rfl) rfl (okWide_bool_mk Try.underlying4 _))⟩

theorem decimalRounds_holds : Rows.DecimalRoundsSaid :=
  OpenClaim.holds_of_wide 12 Try.f12 rfl rfl rfl rfl rfl rfl rfl ⟨rfl, rfl, rfl, rfl, rfl⟩ rfl rfl rfl rfl rfl (by kernel_rfl) Try.func12 (by kernel_rfl)
    (of_decide_eq_true (by kernel_rfl)) (by unfold Func.isWrapper; rw [if_neg (of_decide_eq_false (by kernel_rfl))]; exact ⟨rfl, rfl⟩)
    (fun os started H enc _ => decimalRounds_lifted os started H enc)
#print axioms decimalRounds_holds
end Go.Proofs.Ytoiiekmkcpcbgaa
