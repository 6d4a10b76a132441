/-
  decimal.cmpHalf, checkRounding, isAway, OfInt, cmp.Compare: the walks.
-/
import Derived.Test.YtdcojpbgijkmgaaDoorOpq
namespace Go.Proofs.YtdcojpbgijkmgaaDoor
open Go.RowKit
set_option maxHeartbeats 4000000 in
theorem cmpHalf_n (r d : Int) (w : World) (hr0 : 0 ≤ r) (hr : r + r < MM) (hd0 : 0 ≤ d) (hd : d < MM) :
    Calls Tryd.prog 113 #[nv r, nv d] w fun e w' => e = .returned (.int .i64 (cm (r + r) d)) ∧ Mo w w' := by
  go_enter Tryd.func113, Tryd.ntmps113
  go_wp2_with fail
  refine (add_n r r _ hr0 (by omega) hr0 (by omega)).mono ?_
  rintro e w1 ⟨rfl, hm1⟩
  have mz : Mo w w1 := Mo.trans (by repeat (first | with_reducible exact Mo.refl _ | with_reducible apply Mo.drew | with_reducible apply Mo.alloc)) hm1
  have M := mz
  have Qd : AtN w1 (w.heap.size + 1) d := AtN.mo ⟨by simp [At4, go_sem], fun o => by simp [go_sem], by simp <;> omega⟩ hm1
  clear hm1 mz
  have Od := Qd
  obtain ⟨⟨cd0, cd1, cd2, cd3⟩, fd, sd⟩ := Od
  have fd := fun o => fd o
  have sxd : w.heap.size + 1 < w1.heap.size + 1 := by omega
  have syd : w.heap.size + 1 < w1.heap.size + 1 + 1 := by omega
  go_wp2_with fail
  refine (cmp_n (r + r) d _ (by omega) hr hd0 hd).mono ?_
  rintro e w2 ⟨rfl, hm2⟩
  have mz : Mo w1 w2 := Mo.trans (by repeat (first | with_reducible exact Mo.refl _ | with_reducible apply Mo.drew | with_reducible apply Mo.alloc)) hm2
  clear cd0 cd1 cd2 cd3 fd sd sxd syd
  have Qd := Qd.mo mz
  have M := M.trans mz
  clear hm2 mz
  have Od := Qd
  obtain ⟨⟨cd0, cd1, cd2, cd3⟩, fd, sd⟩ := Od
  have fd := fun o => fd o
  have sxd : w.heap.size + 1 < w2.heap.size + 1 := by omega
  have syd : w.heap.size + 1 < w2.heap.size + 1 + 1 := by omega
  go_wp2
  go_ret
  exact ⟨rfl, M⟩
theorem cr_no (s p : Int) (w : World) (h : sc s = false) : Calls Tryd.prog 83 #[.int .i64 s, .int .i64 p] w fun e w' => e = .returned (.int .i64 21) ∧ Mo w w' := by
  go_enter Tryd.func83, Tryd.ntmps83
  go_wp2_with fail
  refine (isScale_n s _).mono ?_
  rintro e w1 ⟨rfl, hm1⟩
  go_wp2
  go_ret
  exact ⟨rfl, hm1⟩
set_option maxHeartbeats 4000000 in
theorem cr_ok (s p : Int) (w : World) (h : sc s = true) (hp1 : 1 ≤ p) (hp5 : p ≤ 5) : Calls Tryd.prog 83 #[.int .i64 s, .int .i64 p] w fun e w' => e = .returned (.int .i64 0) ∧ Mo w w' := by
  have hp : p = 1 ∨ p = 2 ∨ p = 3 ∨ p = 4 ∨ p = 5 := by omega
  clear hp1 hp5
  rcases hp with rfl | rfl | rfl | rfl | rfl
  all_goals
    go_enter Tryd.func83, Tryd.ntmps83
    go_wp2_with fail
    refine (isScale_n s _).mono ?_
    rintro e w1 ⟨rfl, hm1⟩
    go_wp2
    go_ret
    exact ⟨rfl, hm1⟩
set_option maxHeartbeats 4000000 in
theorem cr_pol (s p : Int) (w : World) (h : sc s = true) (hp : p < 1 ∨ 5 < p) : Calls Tryd.prog 83 #[.int .i64 s, .int .i64 p] w fun e w' => e = .returned (.int .i64 22) ∧ Mo w w' := by
  have h1 : (p == 1) = false := by simp; omega
  have h2 : (p == 2) = false := by simp; omega
  have h3 : (p == 3) = false := by simp; omega
  have h4 : (p == 4) = false := by simp; omega
  have h5 : (p == 5) = false := by simp; omega
  clear hp
  go_enter Tryd.func83, Tryd.ntmps83
  go_wp2_with fail
  refine (isScale_n s _).mono ?_
  rintro e w1 ⟨rfl, hm1⟩
  go_wp2
  go_ret
  exact ⟨rfl, hm1⟩
/-- Whether the policy takes the number farther from 0. -/
def aw (b : Bool) (q r d p : Int) : Bool := if r = 0 then false else if p = 1 then decide (d ≤ r + r) else if p = 2 then (decide (d < r + r) || (decide (r + r = d) && decide (q % 2 = 1))) else if p = 4 then true else if p = 5 then b else false
theorem cm_ge {a b : Int} : decide (cm a b ≥ 0) = decide (b ≤ a) := by
  unfold cm
  by_cases h : a < b
  · rw [if_pos h, decide_eq_false (by decide), decide_eq_false (by omega)]
  · rw [if_neg h, decide_eq_true (p := b ≤ a) (by omega)]
    split <;> decide
theorem cm_gt {a b : Int} : decide (cm a b > 0) = decide (b < a) := by
  unfold cm
  by_cases h : a < b
  · rw [if_pos h, decide_eq_false (by decide), decide_eq_false (by omega)]
  · rw [if_neg h]
    by_cases h2 : b < a
    · rw [if_pos h2, decide_eq_true (by decide), decide_eq_true h2]
    · rw [if_neg h2, decide_eq_false (by decide), decide_eq_false h2]
theorem cm_eq {a b : Int} : (cm a b == 0) = decide (a = b) := by
  unfold cm
  by_cases h : a < b
  · rw [if_pos h, decide_eq_false (by omega)]; rfl
  · rw [if_neg h]
    by_cases h2 : b < a
    · rw [if_pos h2, decide_eq_false (by omega)]; rfl
    · rw [if_neg h2, decide_eq_true (by omega)]; rfl
set_option maxHeartbeats 4000000 in
theorem aw_zero (b : Bool) (q r d : Int) (p : Int) (w : World) (_hq0 : 0 ≤ q) (_hq : q < MM) (hr0 : 0 ≤ r) (_hr : r + r < MM) (_hd0 : 0 ≤ d) (_hd : d < MM) (hz : r = 0) :
    Calls Tryd.prog 104 #[.bool b, nv q, nv r, nv d, .int .i64 p] w fun e w' => e = .returned (.bool false) ∧ Mo w w' := by
  have q4 := eq4
  have z4 := zb hr0 (show r < MM by omega)
  rw [decide_eq_true hz] at z4
  clear hz
  go_enter Tryd.func104, Tryd.ntmps104
  go_wp2
  go_ret
  exact ⟨rfl, (((Mo.refl _).alloc _ _).alloc _ _).alloc _ _⟩
set_option maxHeartbeats 4000000 in
theorem aw_1 (b : Bool) (q r d : Int) (w : World) (_hq0 : 0 ≤ q) (_hq : q < MM) (hr0 : 0 ≤ r) (_hr : r + r < MM) (_hd0 : 0 ≤ d) (_hd : d < MM) (hz : r ≠ 0) :
    Calls Tryd.prog 104 #[.bool b, nv q, nv r, nv d, .int .i64 1] w fun e w' => e = .returned (.bool (decide (cm (r + r) d ≥ 0))) ∧ Mo w w' := by
  have q4 := eq4
  have z4 := zb hr0 (show r < MM by omega)
  rw [decide_eq_false hz] at z4
  clear hz
  go_enter Tryd.func104, Tryd.ntmps104
  go_wp2_with fail
  refine (cmpHalf_n r d _ hr0 _hr _hd0 _hd).mono ?_
  rintro e w1 ⟨rfl, hm1⟩
  have mz : Mo w w1 := Mo.trans (by repeat (first | with_reducible exact Mo.refl _ | with_reducible apply Mo.drew | with_reducible apply Mo.alloc)) hm1
  have M := mz
  clear hm1 mz
  go_wp2
  go_ret
  exact ⟨rfl, M⟩
set_option maxHeartbeats 4000000 in
theorem aw_2a (b : Bool) (q r d : Int) (w : World) (_hq0 : 0 ≤ q) (_hq : q < MM) (hr0 : 0 ≤ r) (_hr : r + r < MM) (_hd0 : 0 ≤ d) (_hd : d < MM) (hz : r ≠ 0) (hc : d < r + r) :
    Calls Tryd.prog 104 #[.bool b, nv q, nv r, nv d, .int .i64 2] w fun e w' => e = .returned (.bool true) ∧ Mo w w' := by
  have q4 := eq4
  have z4 := zb hr0 (show r < MM by omega)
  rw [decide_eq_false hz] at z4
  have c1 : decide (cm (r + r) d > 0) = true := by rw [cm_gt]; exact decide_eq_true hc
  clear hz hc
  go_enter Tryd.func104, Tryd.ntmps104
  go_wp2_with fail
  refine (cmpHalf_n r d _ hr0 _hr _hd0 _hd).mono ?_
  rintro e w1 ⟨rfl, hm1⟩
  have mz : Mo w w1 := Mo.trans (by repeat (first | with_reducible exact Mo.refl _ | with_reducible apply Mo.drew | with_reducible apply Mo.alloc)) hm1
  have M := mz
  clear hm1 mz
  go_wp2
  go_ret
  exact ⟨rfl, M⟩
set_option maxHeartbeats 4000000 in
theorem aw_2b (b : Bool) (q r d : Int) (w : World) (_hq0 : 0 ≤ q) (_hq : q < MM) (hr0 : 0 ≤ r) (_hr : r + r < MM) (_hd0 : 0 ≤ d) (_hd : d < MM) (hz : r ≠ 0) (hc : r + r = d) :
    Calls Tryd.prog 104 #[.bool b, nv q, nv r, nv d, .int .i64 2] w fun e w' => e = .returned (.bool (l0 q % 2 == 1)) ∧ Mo w w' := by
  have q4 := eq4
  have z4 := zb hr0 (show r < MM by omega)
  rw [decide_eq_false hz] at z4
  have c1 : decide (cm (r + r) d > 0) = false := by rw [cm_gt]; exact decide_eq_false (by omega)
  have c2 : (cm (r + r) d == 0) = true := by rw [cm_eq]; exact decide_eq_true hc
  clear hz hc
  go_enter Tryd.func104, Tryd.ntmps104
  go_wp2_with fail
  refine (cmpHalf_n r d _ hr0 _hr _hd0 _hd).mono ?_
  rintro e w1 ⟨rfl, hm1⟩
  have mz : Mo w w1 := Mo.trans (by repeat (first | with_reducible exact Mo.refl _ | with_reducible apply Mo.drew | with_reducible apply Mo.alloc)) hm1
  have M := mz
  have Qq : AtN w1 (w.heap.size) q := AtN.mo ⟨by simp [At4, go_sem], fun o => by simp [go_sem], by simp <;> omega⟩ hm1
  clear hm1 mz
  have Oq := Qq
  obtain ⟨⟨cq0, cq1, cq2, cq3⟩, fq, sq⟩ := Oq
  have fq := fun o => fq o
  have sxq : w.heap.size < w1.heap.size + 1 := by omega
  have syq : w.heap.size < w1.heap.size + 1 + 1 := by omega
  go_wp2_with fail
  refine (odd_any (l0 q) (l1 q) (l2 q) (l3 q) _ (u4_lb q)).mono ?_
  rintro e w2 ⟨rfl, hm2⟩
  have mz : Mo w1 w2 := Mo.trans (by repeat (first | with_reducible exact Mo.refl _ | with_reducible apply Mo.drew | with_reducible apply Mo.alloc)) hm2
  clear cq0 cq1 cq2 cq3 fq sq sxq syq
  have Qq := Qq.mo mz
  have M := M.trans mz
  clear hm2 mz
  have Oq := Qq
  obtain ⟨⟨cq0, cq1, cq2, cq3⟩, fq, sq⟩ := Oq
  have fq := fun o => fq o
  have sxq : w.heap.size < w2.heap.size + 1 := by omega
  have syq : w.heap.size < w2.heap.size + 1 + 1 := by omega
  go_wp2
  go_ret
  exact ⟨rfl, M⟩
set_option maxHeartbeats 4000000 in
theorem aw_2c (b : Bool) (q r d : Int) (w : World) (_hq0 : 0 ≤ q) (_hq : q < MM) (hr0 : 0 ≤ r) (_hr : r + r < MM) (_hd0 : 0 ≤ d) (_hd : d < MM) (hz : r ≠ 0) (hc : r + r < d) :
    Calls Tryd.prog 104 #[.bool b, nv q, nv r, nv d, .int .i64 2] w fun e w' => e = .returned (.bool false) ∧ Mo w w' := by
  have q4 := eq4
  have z4 := zb hr0 (show r < MM by omega)
  rw [decide_eq_false hz] at z4
  have c1 : decide (cm (r + r) d > 0) = false := by rw [cm_gt]; exact decide_eq_false (by omega)
  have c2 : (cm (r + r) d == 0) = false := by rw [cm_eq]; exact decide_eq_false (by omega)
  clear hz hc
  go_enter Tryd.func104, Tryd.ntmps104
  go_wp2_with fail
  refine (cmpHalf_n r d _ hr0 _hr _hd0 _hd).mono ?_
  rintro e w1 ⟨rfl, hm1⟩
  have mz : Mo w w1 := Mo.trans (by repeat (first | with_reducible exact Mo.refl _ | with_reducible apply Mo.drew | with_reducible apply Mo.alloc)) hm1
  have M := mz
  clear hm1 mz
  go_wp2
  go_ret
  exact ⟨rfl, M⟩
set_option maxHeartbeats 4000000 in
theorem aw_4 (b : Bool) (q r d : Int) (w : World) (_hq0 : 0 ≤ q) (_hq : q < MM) (hr0 : 0 ≤ r) (_hr : r + r < MM) (_hd0 : 0 ≤ d) (_hd : d < MM) (hz : r ≠ 0) :
    Calls Tryd.prog 104 #[.bool b, nv q, nv r, nv d, .int .i64 4] w fun e w' => e = .returned (.bool true) ∧ Mo w w' := by
  have q4 := eq4
  have z4 := zb hr0 (show r < MM by omega)
  rw [decide_eq_false hz] at z4
  clear hz
  go_enter Tryd.func104, Tryd.ntmps104
  go_wp2
  go_ret
  exact ⟨rfl, (((Mo.refl _).alloc _ _).alloc _ _).alloc _ _⟩
set_option maxHeartbeats 4000000 in
theorem aw_5 (b : Bool) (q r d : Int) (w : World) (_hq0 : 0 ≤ q) (_hq : q < MM) (hr0 : 0 ≤ r) (_hr : r + r < MM) (_hd0 : 0 ≤ d) (_hd : d < MM) (hz : r ≠ 0) :
    Calls Tryd.prog 104 #[.bool b, nv q, nv r, nv d, .int .i64 5] w fun e w' => e = .returned (.bool b) ∧ Mo w w' := by
  have q4 := eq4
  have z4 := zb hr0 (show r < MM by omega)
  rw [decide_eq_false hz] at z4
  clear hz
  go_enter Tryd.func104, Tryd.ntmps104
  go_wp2
  go_ret
  exact ⟨rfl, (((Mo.refl _).alloc _ _).alloc _ _).alloc _ _⟩
set_option maxHeartbeats 4000000 in
theorem aw_3 (b : Bool) (q r d : Int) (w : World) (_hq0 : 0 ≤ q) (_hq : q < MM) (hr0 : 0 ≤ r) (_hr : r + r < MM) (_hd0 : 0 ≤ d) (_hd : d < MM) (hz : r ≠ 0) :
    Calls Tryd.prog 104 #[.bool b, nv q, nv r, nv d, .int .i64 3] w fun e w' => e = .returned (.bool false) ∧ Mo w w' := by
  have q4 := eq4
  have z4 := zb hr0 (show r < MM by omega)
  rw [decide_eq_false hz] at z4
  clear hz
  go_enter Tryd.func104, Tryd.ntmps104
  go_wp2
  go_ret
  exact ⟨rfl, (((Mo.refl _).alloc _ _).alloc _ _).alloc _ _⟩
theorem isAway_n (b : Bool) (q r d p : Int) (w : World) (hq0 : 0 ≤ q) (hq : q < MM) (hr0 : 0 ≤ r) (hr : r + r < MM) (hd0 : 0 ≤ d) (hd : d < MM) (hp1 : 1 ≤ p) (hp5 : p ≤ 5) :
    Calls Tryd.prog 104 #[.bool b, nv q, nv r, nv d, .int .i64 p] w fun e w' => e = .returned (.bool (aw b q r d p)) ∧ Mo w w' := by
  unfold aw
  by_cases hz : r = 0
  · rw [if_pos hz]; exact aw_zero b q r d p w hq0 hq hr0 hr hd0 hd hz
  · rw [if_neg hz]
    have hp : p = 1 ∨ p = 2 ∨ p = 3 ∨ p = 4 ∨ p = 5 := by omega
    rcases hp with rfl | rfl | rfl | rfl | rfl
    · rw [if_pos rfl, ← cm_ge]; exact aw_1 b q r d w hq0 hq hr0 hr hd0 hd hz
    · rw [if_neg (by decide), if_pos rfl]
      by_cases h1 : d < r + r
      · rw [decide_eq_true h1]; exact aw_2a b q r d w hq0 hq hr0 hr hd0 hd hz h1
      · rw [decide_eq_false h1]
        by_cases h2 : r + r = d
        · rw [decide_eq_true h2]
          have e : (l0 q % 2 == 1) = decide (q % 2 = 1) := by unfold l0; rw [Bool.eq_iff_iff]; simp
          rw [← e]
          exact aw_2b b q r d w hq0 hq hr0 hr hd0 hd hz h2
        · rw [decide_eq_false h2]; exact aw_2c b q r d w hq0 hq hr0 hr hd0 hd hz (by omega)
    · rw [if_neg (by decide), if_neg (by decide), if_neg (by decide), if_neg (by decide)]; exact aw_3 b q r d w hq0 hq hr0 hr hd0 hd hz
    · rw [if_neg (by decide), if_neg (by decide), if_pos rfl]; exact aw_4 b q r d w hq0 hq hr0 hr hd0 hd hz
    · rw [if_neg (by decide), if_neg (by decide), if_neg (by decide), if_pos rfl]; exact aw_5 b q r d w hq0 hq hr0 hr hd0 hd hz
end Go.Proofs.YtdcojpbgijkmgaaDoor
