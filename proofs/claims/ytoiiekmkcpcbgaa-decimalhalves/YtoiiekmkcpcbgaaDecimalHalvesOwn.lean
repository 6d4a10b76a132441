/-
  For every decimal and every scale exciselaw02.DecimalHalves returns true, and its arguments read behind the call as they read before; no conditions.
-/
import Derived.Carry
import Derived.Test.YtoiiekmkcpcbgaaB6
/-
  exciselaw02.DecimalHalves answers true for every number.
-/
namespace Go.Proofs.Ytoiiekmkcpcbgaa
open Go.RowKit
theorem dz_ne {X Y S : Int} (hX : ab X < MM) (hY : ab Y < MM) (h : X ≠ Y) : (decide (X < 0) == decide (Y < 0) && (l0 (ab X) == l0 (ab Y) && (l1 (ab X) == l1 (ab Y) && (l2 (ab X) == l2 (ab Y) && (l3 (ab X) == l3 (ab Y) && S == S))))) = false := by
  cases hh : (decide (X < 0) == decide (Y < 0) && (l0 (ab X) == l0 (ab Y) && (l1 (ab X) == l1 (ab Y) && (l2 (ab X) == l2 (ab Y) && (l3 (ab X) == l3 (ab Y) && S == S))))) with
  | false => rfl
  | true =>
    exfalso
    simp at hh
    obtain ⟨a, b, c, d, e⟩ := hh
    have := nv_inj (ab_nn X) hX (ab_nn Y) hY ⟨b, c, d, e⟩
    have cx := ab_c X
    have cy := ab_c Y
    omega
/-- Where the two halves part, the number lies half-way. -/
theorem halves_mid {u p : Int} {b : Bool} (hb : b = decide (u < 0)) (k : Nat) (hp : p = 10 ^ k) (hne : ro b (ab u) k 1 ≠ ro b (ab u) k 2) : (sv b (ro b (ab u) k 1) + sv b (ro b (ab u) k 2)) * p = 2 * u := by
  have pk : (0 : Int) < p := by rw [hp]; exact Int.pow_pos (by decide)
  unfold ro at *
  rw [← hp] at *
  have hd := Int.mul_ediv_add_emod (ab u) p
  have hr0 := Int.emod_nonneg (ab u) (b := p) (by omega)
  generalize ab u / p = q at *
  generalize hr : ab u % p = r at *
  have h1 : aw b q r p 1 = true ∧ aw b q r p 2 = false ∨ aw b q r p 1 = false ∧ aw b q r p 2 = true := by
    cases e1 : aw b q r p 1 <;> cases e2 : aw b q r p 2 <;> simp [e1, e2] at hne ⊢
  have h2 : r + r = p ∧ aw b q r p 1 = true ∧ aw b q r p 2 = false := by
    unfold aw at h1 ⊢
    by_cases z : r = 0
    · simp [z] at h1
    · by_cases x : p ≤ r + r
      · by_cases y : p < r + r
        · simp [z, x, y] at h1
        · have e : r + r = p := by omega
          simp [z, e] at h1 ⊢
          exact h1
      · have y : ¬ p < r + r := by omega
        have e : ¬ r + r = p := by omega
        simp [z, x, y, e] at h1
  obtain ⟨e, a1, a2⟩ := h2
  rw [a1, a2]
  have cu := ab_c u
  have hq : (q + 1 + q) * p = 2 * ab u := by
    have : (q + 1 + q) * p = p * q + p * q + p := by rw [Int.add_mul, Int.add_mul, Int.one_mul, Int.mul_comm q p]; omega
    rw [this]; omega
  unfold sv
  simp only [if_true, Bool.false_eq_true, if_false, Int.add_zero]
  subst hb
  rcases cu with ⟨c1, c2⟩ | ⟨c1, c2⟩
  · rw [decide_eq_true c1]
    simp only [if_true]
    rw [show -(q + 1) + -q = -(q + 1 + q) by omega, Int.neg_mul, hq]; omega
  · rw [decide_eq_false (by omega)]
    simp only [Bool.false_eq_true, if_false]
    rw [hq]; omega
theorem halves_n (b : Bool) (n s S : Int) (w : World) (hn0 : 0 ≤ n) (hn : n < MM) :
    Calls Try.prog 13 #[dc b n s, .int .i64 S] w fun e w' => e = .returned (.bool true) ∧ Mo w w' := by
  by_cases h : ck b n s = 0
  · cases hS : sc S with
    | false => exact halves_e1 _ _ _ _ _ _ _ _ _ _ _ _ _ _ _ _ _ _ S 21 21 w (fun w => rescale_e2 b n s S 1 w hn0 hn h hS) (fun w => rescale_e2 b n s S 2 w hn0 hn h hS) rfl
    | true =>
      obtain ⟨hs, u, rfl, rfl⟩ := dz_of hn0 h
      have r1 := fun w => rescale_z u s S 1 w hn hs hS (by decide) (by decide)
      have r2 := fun w => rescale_z u s S 2 w hn hs hS (by decide) (by decide)
      by_cases h1 : ab (rsV u s S 1) < MM
      · rw [fz_yes h1] at r1
        by_cases h2 : ab (rsV u s S 2) < MM
        · rw [fz_yes h2] at r2
          by_cases hne : rsV u s S 1 = rsV u s S 2
          · rw [← hne] at r2
            exact halves_same _ _ _ _ _ _ _ _ _ _ _ _ S w r1 r2
          · obtain ⟨s0, s1⟩ := sc_iff.1 hs
            obtain ⟨S0, S1⟩ := sc_iff.1 hS
            have hlt : S < s := by
              rcases Int.lt_or_le S s with hh | hh
              · exact hh
              · exfalso; apply hne; unfold rsV; rw [if_neg (by omega), if_neg (by omega)]
            have hk : s - S = ((s - S).toNat : Int) := by omega
            have hmid := halves_mid (u := u) (p := pw (s - S)) rfl (s - S).toNat rfl (by
              intro e; apply hne; unfold rsV; rw [if_pos hlt, if_pos hlt, e])
            have e1 : rsV u s S 1 = sv (decide (u < 0)) (ro (decide (u < 0)) (ab u) (s - S).toNat 1) := by unfold rsV; rw [if_pos hlt]
            have e2 : rsV u s S 2 = sv (decide (u < 0)) (ro (decide (u < 0)) (ab u) (s - S).toNat 2) := by unfold rsV; rw [if_pos hlt]
            rw [← e1, ← e2] at hmid
            have d1 := fun w => sub_z u s (rsV u s S 2) S w hn h2 hs hS
            have d2 := fun w => sub_z (rsV u s S 1) S u s w h1 hn hS hs
            have m1 : max s S = s := by omega
            have m2 : max S s = s := by omega
            have ev : addV (rsV u s S 1) S (-u) s = addV u s (-(rsV u s S 2)) S := by
              unfold addV
              rw [m1, m2, Int.sub_self, pw_zero, Int.mul_one, Int.mul_one, Int.neg_mul]
              rw [Int.add_mul] at hmid
              omega
            rw [ev, m2] at d2
            rw [m1] at d1
            by_cases hr : ab (addV u s (-(rsV u s S 2)) S) < MM
            · rw [fz_yes hr] at d1 d2
              have k1 := fun w => cmp_z (addV u s (-(rsV u s S 2)) S) s (addV u s (-(rsV u s S 2)) S) s w hr hr hs hs
              rw [cm_self] at k1
              exact halves_ok _ _ _ _ _ _ _ _ _ _ _ _ _ _ _ _ _ _ _ _ _ _ _ _ _ _ _ _ _ _ S w r1 r2 (dz_ne h1 h2 hne) d1 d2 k1
            · rw [fz_no hr] at d1 d2
              exact halves_o1 _ _ _ _ _ _ _ _ _ _ _ _ _ _ _ _ _ _ _ _ _ _ _ _ _ _ _ _ _ _ S 7 w r1 r2 (dz_ne h1 h2 hne) d1 d2
        · rw [fz_no h2] at r2
          exact halves_e2 _ _ _ _ _ _ _ _ _ _ _ _ _ _ _ _ _ _ S 7 w r1 r2 rfl
      · rw [fz_no h1] at r1
        obtain ⟨b', p0, p1, p2, p3, p4, g, hM⟩ := isD_fz (rsV u s S 2) S
        rw [hM] at r2
        exact halves_e1 _ _ _ _ _ _ _ _ _ _ _ _ _ _ _ _ _ _ S 7 g w r1 r2 rfl
  · exact halves_e1 _ _ _ _ _ _ _ _ _ _ _ _ _ _ _ _ _ _ S 20 20 w (fun w => rescale_e1 b n s S 1 w hn0 hn h) (fun w => rescale_e1 b n s S 2 w hn0 hn h) rfl
end Go.Proofs.Ytoiiekmkcpcbgaa
namespace Go.Proofs.Ytoiiekmkcpcbgaa
open Go.ChangeShapes Go.WideShapes Go.ChangeAt Go.RowKit

set_option maxHeartbeats 1000000 in
set_option maxRecDepth 100000 in
theorem decimalHalves_lifted (os : Os) (started : os.Started) (H : Type) (enc : TypeId × Value → H) :
    ReturnsInHanded {} Try.checked os 13 .any (Rows.decimalHalvesSpec.pre6 enc Try.prog Try.f13 Rows.decimalHalvesRow.domain false) (Rows.decimalHalvesSpec.post enc Try.prog Try.f13 false true false false) := by
  refine returnsInHanded_of_change (C := Try.checked) Try.own started (by kernel_rfl) Try.func13
    (ChangeSpec.witness6 (enc := enc) (C := Try.checked) false ⟨#[], #[.agg #[.bool false, .int .u64 0, .int .u64 0, .int .u64 0, .int .u64 0, .int .i64 0], .int .i64 0], []⟩ 13 (by kernel_rfl) (by kernel_rfl) (by kernel_rfl) (by kernel_rfl)) ?_
  intro W base args ds gs before hval0 hW hcnd _
  have hval : ∀ (j : Nat) t v, Try.f13.params[j]? = some t → args[j]? = some v → Value.okWide Try.prog W .any base t v := hval0
  have hW' := hW
  obtain ⟨p, q, hA0, hV, rfl, hfz, hnd⟩ := hW
  have hA : DataW.TrodAll enc Try.prog W 0 (fun _ => true) true Try.f13.params.toList args.toList ds p := hA0
  rw [Try.params13] at hA hval
  obtain ⟨v0, v1, d0, d1, p0, p1, rfl, rfl, rfl, h0, h1⟩ := trodAll_two hA
  obtain ⟨rfl, rfl⟩ := trodVars_none hV
  obtain ⟨ab, a0, a1, a2, a3, az, rfl, rfl, ua, sa, ra⟩ := open_dec (hval 0 40 v0 rfl rfl) h0
  obtain ⟨bx, rfl, rfl, sb, rb⟩ := open_i64 Try.underlying3 (hval 1 3 v1 rfl rfl) h1
  clear hA0 hval0
  simp only [List.append_nil] at hW'
  rw [← dc_vl ua] at *
  refine (halves_n ab (vl a0 a1 a2 a3) az bx W (vl_bd ua).1 (vl_bd ua).2).mono fun e W' ⟨he, hg⟩ => ?_
  subst he
  exact ⟨_, rfl, post_of_same (pa := []) (pv := []) hW' (fun _ _ _ => trodAll_mk1 (shut_bool Try.underlying4 _)) (fun sp _ => trodAll_mk2 (ra _ sp) (rb _ sp)) (fun _ _ => rfl) rfl
    (hg.1.frame _) hg.2 (ok_one (by kernel_rfl) rfl (okWide_bool_mk Try.underlying4 _))⟩

theorem decimalHalves_holds : Rows.DecimalHalvesSaid :=
  OpenClaim.holds_of_wide 13 Try.f13 rfl rfl rfl rfl rfl rfl rfl ⟨rfl, rfl, rfl, rfl, rfl⟩ rfl rfl rfl rfl rfl (by kernel_rfl) Try.func13 (by kernel_rfl)
    (of_decide_eq_true (by kernel_rfl)) (by unfold Func.isWrapper; rw [if_neg (of_decide_eq_false (by kernel_rfl))]; exact ⟨rfl, rfl⟩)
    (fun os started H enc _ => decimalHalves_lifted os started H enc)
#print axioms decimalHalves_holds
end Go.Proofs.Ytoiiekmkcpcbgaa
