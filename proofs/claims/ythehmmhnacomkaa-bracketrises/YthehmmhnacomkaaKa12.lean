/-
  A part of the proof.
-/
import Derived.Test.YthehmmhnacomkaaKa10
import Derived.Test.YthehmmhnacomkaaKa9
import Derived.Test.YthehmmhnacomkaaKa8
import Derived.Test.YthehmmhnacomkaaKa5
import Derived.Test.YthehmmhnacomkaaKa3
import Derived.Test.YthehmmhnacomkaaKa1
import Derived.Test.YthehmmhnacomkaaProg
import Derived.WalkKit
import Derived.WalkSpells
import Derived.Handy
import Derived.BigQuiet
import Derived.Deep.RegionHeld3
import Derived.Test.YthehmmhnacomkaaKa4
import Derived.Shelf.Small.Bits
import Derived.Shelf.Strconv.Itoa0
import Derived.Shelf.Bits.Mul64
import Derived.Deep.CutBlock
import Derived.Deep.CutRange
import Derived.Test.YthehmmhnacomkaaKa7
import Derived.Test.YthehmmhnacomkaaKa6
import Derived.ChangeKeysEq
import Derived.ScopeJumps
import Derived.WalkMore
import Derived.Laws.StructEq
import Derived.Deep.MidRow
namespace Go.Proofs.Ythehmmhnacomkaa
open Go.RowKit
set_option maxHeartbeats 4000000 in
theorem cmpHalf_n (r d : Int) (w : World) (hr0 : 0 ≤ r) (hr : r + r < MM) (hd0 : 0 ≤ d) (hd : d < MM) :
  Calls Try.prog 101 #[nv r, nv d] w fun e w' => e = .returned (.int .i64 (cm (r + r) d)) ∧ Mo w w' := by
 go_enter Try.func101, Try.ntmps101
 go_wp2_with fail
 refine (add_n r r _ hr0 (by omega) hr0 (by omega)).mono ?_
 rintro e w1 ⟨rfl, hm1⟩
 have mz : Mo w w1 := Mo.trans (by repeat (first | with_reducible exact Mo.refl _ | with_reducible apply Mo.drew | with_reducible apply Mo.alloc)) hm1
 have M := mz
 have Qd : AtN w1 (w.heap.size + 1) d := AtN.mo ⟨by simp [At4, go_sem], fun o => by simp [go_sem], by simp <;> omega⟩ hm1
 clear hm1 mz
 have Od := Qd
 obtain ⟨⟨cd0, cd1, cd2, cd3⟩, fd, sd⟩ := Od
 have fd := fun o => fd o
 have sxd : w.heap.size + 1 < w1.heap.size + 1 := by omega
 have syd : w.heap.size + 1 < w1.heap.size + 1 + 1 := by omega
 go_wp2_with fail
 refine (cmp_n (r + r) d _ (by omega) hr hd0 hd).mono ?_
 rintro e w2 ⟨rfl, hm2⟩
 have mz : Mo w1 w2 := Mo.trans (by repeat (first | with_reducible exact Mo.refl _ | with_reducible apply Mo.drew | with_reducible apply Mo.alloc)) hm2
 clear cd0 cd1 cd2 cd3 fd sd sxd syd
 have Qd := Qd.mo mz
 have M := M.trans mz
 clear hm2 mz
 have Od := Qd
 obtain ⟨⟨cd0, cd1, cd2, cd3⟩, fd, sd⟩ := Od
 have fd := fun o => fd o
 have sxd : w.heap.size + 1 < w2.heap.size + 1 := by omega
 have syd : w.heap.size + 1 < w2.heap.size + 1 + 1 := by omega
 go_wp2
 go_ret
 exact ⟨rfl, M⟩
set_option maxHeartbeats 4000000 in
theorem cr_ok (s p : Int) (w : World) (h : sc s = true) (hp1 : 1 ≤ p) (hp5 : p ≤ 5) : Calls Try.prog 70 #[.int .i64 s, .int .i64 p] w fun e w' => e = .returned (.int .i64 0) ∧ Mo w w' := by
 have hp : p = 1 ∨ p = 2 ∨ p = 3 ∨ p = 4 ∨ p = 5 := by omega
 clear hp1 hp5
 rcases hp with rfl | rfl | rfl | rfl | rfl
 all_goals
  go_enter Try.func70, Try.ntmps70
  go_wp2_with fail
  refine (isScale_n s _).mono ?_
  rintro e w1 ⟨rfl, hm1⟩
  go_wp2
  go_ret
  exact ⟨rfl, hm1⟩
def aw (b : Bool) (q r d p : Int) : Bool := if r = 0 then false else if p = 1 then decide (d ≤ r + r) else if p = 2 then (decide (d < r + r) || (decide (r + r = d) && decide (q % 2 = 1))) else if p = 4 then true else if p = 5 then b else false
theorem cm_ge {a b : Int} : decide (cm a b ≥ 0) = decide (b ≤ a) := by
 unfold cm
 by_cases h : a < b
 ·rw [if_pos h, decide_eq_false (by decide), decide_eq_false (by omega)]
 ·rw [if_neg h, decide_eq_true (p := b ≤ a) (by omega)]
  split <;> decide
theorem cm_gt {a b : Int} : decide (cm a b > 0) = decide (b < a) := by
 unfold cm
 by_cases h : a < b
 ·rw [if_pos h, decide_eq_false (by decide), decide_eq_false (by omega)]
 ·rw [if_neg h]
  by_cases h2 : b < a
  ·rw [if_pos h2, decide_eq_true (by decide), decide_eq_true h2]
  ·rw [if_neg h2, decide_eq_false (by decide), decide_eq_false h2]
theorem cm_eq {a b : Int} : (cm a b == 0) = decide (a = b) := by
 unfold cm
 by_cases h : a < b
 ·rw [if_pos h, decide_eq_false (by omega)]; rfl
 ·rw [if_neg h]
  by_cases h2 : b < a
  ·rw [if_pos h2, decide_eq_false (by omega)]; rfl
  ·rw [if_neg h2, decide_eq_true (by omega)]; rfl
set_option maxHeartbeats 4000000 in
theorem aw_zero (b : Bool) (q r d : Int) (p : Int) (w : World) (_hq0 : 0 ≤ q) (_hq : q < MM) (hr0 : 0 ≤ r) (_hr : r + r < MM) (_hd0 : 0 ≤ d) (_hd : d < MM) (hz : r = 0) :
  Calls Try.prog 86 #[.bool b, nv q, nv r, nv d, .int .i64 p] w fun e w' => e = .returned (.bool false) ∧ Mo w w' := by
 have q4 := eq4
 have z4 := zb hr0 (show r < MM by omega)
 rw [decide_eq_true hz] at z4
 clear hz
 go_enter Try.func86, Try.ntmps86
 go_wp2
 go_ret
 exact ⟨rfl, (((Mo.refl _).alloc _ _).alloc _ _).alloc _ _⟩
set_option maxHeartbeats 4000000 in
theorem aw_1 (b : Bool) (q r d : Int) (w : World) (_hq0 : 0 ≤ q) (_hq : q < MM) (hr0 : 0 ≤ r) (_hr : r + r < MM) (_hd0 : 0 ≤ d) (_hd : d < MM) (hz : r ≠ 0) :
  Calls Try.prog 86 #[.bool b, nv q, nv r, nv d, .int .i64 1] w fun e w' => e = .returned (.bool (decide (cm (r + r) d ≥ 0))) ∧ Mo w w' := by
 have q4 := eq4
 have z4 := zb hr0 (show r < MM by omega)
 rw [decide_eq_false hz] at z4
 clear hz
 go_enter Try.func86, Try.ntmps86
 go_wp2_with fail
 refine (cmpHalf_n r d _ hr0 _hr _hd0 _hd).mono ?_
 rintro e w1 ⟨rfl, hm1⟩
 have mz : Mo w w1 := Mo.trans (by repeat (first | with_reducible exact Mo.refl _ | with_reducible apply Mo.drew | with_reducible apply Mo.alloc)) hm1
 have M := mz
 clear hm1 mz
 go_wp2
 go_ret
 exact ⟨rfl, M⟩
set_option maxHeartbeats 4000000 in
theorem aw_2a (b : Bool) (q r d : Int) (w : World) (_hq0 : 0 ≤ q) (_hq : q < MM) (hr0 : 0 ≤ r) (_hr : r + r < MM) (_hd0 : 0 ≤ d) (_hd : d < MM) (hz : r ≠ 0) (hc : d < r + r) :
  Calls Try.prog 86 #[.bool b, nv q, nv r, nv d, .int .i64 2] w fun e w' => e = .returned (.bool true) ∧ Mo w w' := by
 have q4 := eq4
 have z4 := zb hr0 (show r < MM by omega)
 rw [decide_eq_false hz] at z4
 have c1 : decide (cm (r + r) d > 0) = true := by rw [cm_gt]; exact decide_eq_true hc
 clear hz hc
 go_enter Try.func86, Try.ntmps86
 go_wp2_with fail
 refine (cmpHalf_n r d _ hr0 _hr _hd0 _hd).mono ?_
 rintro e w1 ⟨rfl, hm1⟩
 have mz : Mo w w1 := Mo.trans (by repeat (first | with_reducible exact Mo.refl _ | with_reducible apply Mo.drew | with_reducible apply Mo.alloc)) hm1
 have M := mz
 clear hm1 mz
 go_wp2
 go_ret
 exact ⟨rfl, M⟩
set_option maxHeartbeats 4000000 in
theorem aw_2b (b : Bool) (q r d : Int) (w : World) (_hq0 : 0 ≤ q) (_hq : q < MM) (hr0 : 0 ≤ r) (_hr : r + r < MM) (_hd0 : 0 ≤ d) (_hd : d < MM) (hz : r ≠ 0) (hc : r + r = d) :
  Calls Try.prog 86 #[.bool b, nv q, nv r, nv d, .int .i64 2] w fun e w' => e = .returned (.bool (l0 q % 2 == 1)) ∧ Mo w w' := by
 have q4 := eq4
 have z4 := zb hr0 (show r < MM by omega)
 rw [decide_eq_false hz] at z4
 have c1 : decide (cm (r + r) d > 0) = false := by rw [cm_gt]; exact decide_eq_false (by omega)
 have c2 : (cm (r + r) d == 0) = true := by rw [cm_eq]; exact decide_eq_true hc
 clear hz hc
 go_enter Try.func86, Try.ntmps86
 go_wp2_with fail
 refine (cmpHalf_n r d _ hr0 _hr _hd0 _hd).mono ?_
 rintro e w1 ⟨rfl, hm1⟩
 have mz : Mo w w1 := Mo.trans (by repeat (first | with_reducible exact Mo.refl _ | with_reducible apply Mo.drew | with_reducible apply Mo.alloc)) hm1
 have M := mz
 have Qq : AtN w1 (w.heap.size) q := AtN.mo ⟨by simp [At4, go_sem], fun o => by simp [go_sem], by simp <;> omega⟩ hm1
 clear hm1 mz
 have Oq := Qq
 obtain ⟨⟨cq0, cq1, cq2, cq3⟩, fq, sq⟩ := Oq
 have fq := fun o => fq o
 have sxq : w.heap.size < w1.heap.size + 1 := by omega
 have syq : w.heap.size < w1.heap.size + 1 + 1 := by omega
 go_wp2_with fail
 refine (odd_any (l0 q) (l1 q) (l2 q) (l3 q) _ (u4_lb q)).mono ?_
 rintro e w2 ⟨rfl, hm2⟩
 have mz : Mo w1 w2 := Mo.trans (by repeat (first | with_reducible exact Mo.refl _ | with_reducible apply Mo.drew | with_reducible apply Mo.alloc)) hm2
 clear cq0 cq1 cq2 cq3 fq sq sxq syq
 have Qq := Qq.mo mz
 have M := M.trans mz
 clear hm2 mz
 have Oq := Qq
 obtain ⟨⟨cq0, cq1, cq2, cq3⟩, fq, sq⟩ := Oq
 have fq := fun o => fq o
 have sxq : w.heap.size < w2.heap.size + 1 := by omega
 have syq : w.heap.size < w2.heap.size + 1 + 1 := by omega
 go_wp2
 go_ret
 exact ⟨rfl, M⟩
set_option maxHeartbeats 4000000 in
theorem aw_2c (b : Bool) (q r d : Int) (w : World) (_hq0 : 0 ≤ q) (_hq : q < MM) (hr0 : 0 ≤ r) (_hr : r + r < MM) (_hd0 : 0 ≤ d) (_hd : d < MM) (hz : r ≠ 0) (hc : r + r < d) :
  Calls Try.prog 86 #[.bool b, nv q, nv r, nv d, .int .i64 2] w fun e w' => e = .returned (.bool false) ∧ Mo w w' := by
 have q4 := eq4
 have z4 := zb hr0 (show r < MM by omega)
 rw [decide_eq_false hz] at z4
 have c1 : decide (cm (r + r) d > 0) = false := by rw [cm_gt]; exact decide_eq_false (by omega)
 have c2 : (cm (r + r) d == 0) = false := by rw [cm_eq]; exact decide_eq_false (by omega)
 clear hz hc
 go_enter Try.func86, Try.ntmps86
 go_wp2_with fail
 refine (cmpHalf_n r d _ hr0 _hr _hd0 _hd).mono ?_
 rintro e w1 ⟨rfl, hm1⟩
 have mz : Mo w w1 := Mo.trans (by repeat (first | with_reducible exact Mo.refl _ | with_reducible apply Mo.drew | with_reducible apply Mo.alloc)) hm1
 have M := mz
 clear hm1 mz
 go_wp2
 go_ret
 exact ⟨rfl, M⟩
set_option maxHeartbeats 4000000 in
theorem aw_4 (b : Bool) (q r d : Int) (w : World) (_hq0 : 0 ≤ q) (_hq : q < MM) (hr0 : 0 ≤ r) (_hr : r + r < MM) (_hd0 : 0 ≤ d) (_hd : d < MM) (hz : r ≠ 0) :
  Calls Try.prog 86 #[.bool b, nv q, nv r, nv d, .int .i64 4] w fun e w' => e = .returned (.bool true) ∧ Mo w w' := by
 have q4 := eq4
 have z4 := zb hr0 (show r < MM by omega)
 rw [decide_eq_false hz] at z4
 clear hz
 go_enter Try.func86, Try.ntmps86
 go_wp2
 go_ret
 exact ⟨rfl, (((Mo.refl _).alloc _ _).alloc _ _).alloc _ _⟩
set_option maxHeartbeats 4000000 in
theorem aw_5 (b : Bool) (q r d : Int) (w : World) (_hq0 : 0 ≤ q) (_hq : q < MM) (hr0 : 0 ≤ r) (_hr : r + r < MM) (_hd0 : 0 ≤ d) (_hd : d < MM) (hz : r ≠ 0) :
  Calls Try.prog 86 #[.bool b, nv q, nv r, nv d, .int .i64 5] w fun e w' => e = .returned (.bool b) ∧ Mo w w' := by
 have q4 := eq4
 have z4 := zb hr0 (show r < MM by omega)
 rw [decide_eq_false hz] at z4
 clear hz
 go_enter Try.func86, Try.ntmps86
 go_wp2
 go_ret
 exact ⟨rfl, (((Mo.refl _).alloc _ _).alloc _ _).alloc _ _⟩
set_option maxHeartbeats 4000000 in
theorem aw_3 (b : Bool) (q r d : Int) (w : World) (_hq0 : 0 ≤ q) (_hq : q < MM) (hr0 : 0 ≤ r) (_hr : r + r < MM) (_hd0 : 0 ≤ d) (_hd : d < MM) (hz : r ≠ 0) :
  Calls Try.prog 86 #[.bool b, nv q, nv r, nv d, .int .i64 3] w fun e w' => e = .returned (.bool false) ∧ Mo w w' := by
 have q4 := eq4
 have z4 := zb hr0 (show r < MM by omega)
 rw [decide_eq_false hz] at z4
 clear hz
 go_enter Try.func86, Try.ntmps86
 go_wp2
 go_ret
 exact ⟨rfl, (((Mo.refl _).alloc _ _).alloc _ _).alloc _ _⟩
theorem isAway_n (b : Bool) (q r d p : Int) (w : World) (hq0 : 0 ≤ q) (hq : q < MM) (hr0 : 0 ≤ r) (hr : r + r < MM) (hd0 : 0 ≤ d) (hd : d < MM) (hp1 : 1 ≤ p) (hp5 : p ≤ 5) :
  Calls Try.prog 86 #[.bool b, nv q, nv r, nv d, .int .i64 p] w fun e w' => e = .returned (.bool (aw b q r d p)) ∧ Mo w w' := by
 unfold aw
 by_cases hz : r = 0
 ·rw [if_pos hz]; exact aw_zero b q r d p w hq0 hq hr0 hr hd0 hd hz
 ·rw [if_neg hz]
  have hp : p = 1 ∨ p = 2 ∨ p = 3 ∨ p = 4 ∨ p = 5 := by omega
  rcases hp with rfl | rfl | rfl | rfl | rfl
  ·rw [if_pos rfl, ← cm_ge]; exact aw_1 b q r d w hq0 hq hr0 hr hd0 hd hz
  ·rw [if_neg (by decide), if_pos rfl]
   by_cases h1 : d < r + r
   ·rw [decide_eq_true h1]; exact aw_2a b q r d w hq0 hq hr0 hr hd0 hd hz h1
   ·rw [decide_eq_false h1]
    by_cases h2 : r + r = d
    ·rw [decide_eq_true h2]
     have e : (l0 q % 2 == 1) = decide (q % 2 = 1) := by unfold l0; rw [Bool.eq_iff_iff]; simp
     rw [← e]
     exact aw_2b b q r d w hq0 hq hr0 hr hd0 hd hz h2
    ·rw [decide_eq_false h2]; exact aw_2c b q r d w hq0 hq hr0 hr hd0 hd hz (by omega)
  ·rw [if_neg (by decide), if_neg (by decide), if_neg (by decide), if_neg (by decide)]; exact aw_3 b q r d w hq0 hq hr0 hr hd0 hd hz
  ·rw [if_neg (by decide), if_neg (by decide), if_pos rfl]; exact aw_4 b q r d w hq0 hq hr0 hr hd0 hd hz
  ·rw [if_neg (by decide), if_neg (by decide), if_neg (by decide), if_pos rfl]; exact aw_5 b q r d w hq0 hq hr0 hr hd0 hd hz
end Go.Proofs.Ythehmmhnacomkaa

namespace Go.Proofs.Ythehmmhnacomkaa
open Go.RowKit
theorem AtD.setD {w : World} {k j : Nat} {b : Bool} {n s : Int} (h : AtD w j b n s) (hk : j ≠ k) (o : Nat) (v : Value) : AtD (w.setCell ⟨k, o, none⟩ v) j b n s := by
 obtain ⟨⟨a0, a1, a2, a3, a4, a5⟩, f, z⟩ := h
 refine ⟨by simp [go_sem, *], fun o => by simp [World.frozen?_setCell, f o], by simpa [World.setCell] using z⟩
theorem div_x (X d : Int) (w : World) (hX0 : 0 ≤ X) (hX : X < MM * MM) (hd0 : 0 ≤ d) (hd : d < MM) :
  Calls Try.prog 85 #[nv (X / MM), nv X, nv d] w fun e w' => e = .returned (.tuple #[nv (dq (X / MM) (X % MM) d), nv (dr (X / MM) (X % MM) d), .bool (dok (X / MM) d)]) ∧ Mo w w' := by
 have p : (0 : Int) < MM := by decide
 have h := div_n (X / MM) (X % MM) d w (Int.ediv_nonneg hX0 (by omega)) (Int.ediv_lt_of_lt_mul p hX) (Int.emod_nonneg _ (by omega)) (Int.emod_lt_of_pos _ p) hd0 hd
 rw [nv_mod X] at h
 exact h
theorem wide_join (X : Int) : X / MM * MM + X % MM = X := by rw [Int.mul_comm]; exact Int.mul_ediv_add_emod X MM
theorem div_x_ok (X d : Int) (w : World) (hX0 : 0 ≤ X) (hX : X < MM * MM) (hd0 : 0 ≤ d) (hd : d < MM) (h : X / MM < d) :
  Calls Try.prog 85 #[nv (X / MM), nv X, nv d] w fun e w' => e = .returned (.tuple #[nv (X / d), nv (X % d), .bool true]) ∧ Mo w w' := by
 have hh := div_x X d w hX0 hX hd0 hd
 unfold dq dr dok at hh
 rw [if_neg (by omega), if_neg (by omega), wide_join, decide_eq_true h] at hh
 exact hh
theorem div_x_no (X d : Int) (w : World) (hX0 : 0 ≤ X) (hX : X < MM * MM) (hd0 : 0 ≤ d) (hd : d < MM) (h : d ≤ X / MM) :
  Calls Try.prog 85 #[nv (X / MM), nv X, nv d] w fun e w' => e = .returned (.tuple #[nv 0, nv 0, .bool false]) ∧ Mo w w' := by
 have hh := div_x X d w hX0 hX hd0 hd
 unfold dq dr dok at hh
 rw [if_pos h, if_pos h, decide_eq_false (by omega)] at hh
 exact hh
set_option maxHeartbeats 4000000 in
theorem shorten_no (b : Bool) (X S p : Int) (k : Nat) (w : World) (hX0 : 0 ≤ X) (hX : X < MM * MM) (hk : k ≤ 77) (_hp1 : 1 ≤ p) (_hp5 : p ≤ 5) (h : 10 ^ k ≤ X / MM) :
  Calls Try.prog 71 #[.bool b, dw X, .int .i64 (k : Int), .int .i64 S, .int .i64 p] w fun e w' => e = .returned (er 7) ∧ Mo w w' := by
 obtain ⟨d, hd⟩ : ∃ d : Int, d = 10 ^ k := ⟨_, rfl⟩
 have t := ten_bd k hk
 rw [← hd] at t h
 have T := dten_n k w hk
 have HD : Hid _ := hd
 obtain ⟨t0, t1⟩ := t
 have hten : ∀ w, Calls Try.prog 68 #[.int .i64 (k : Int)] w fun e w' => e = .returned (nv d) ∧ Mo w w' := fun w => by rw [hd]; exact dten_n k w hk
 clear hd T
 go_enter Try.func71, Try.ntmps71
 go_wp2_with fail
 refine (hten _).mono ?_
 rintro e w1 ⟨rfl, hm1⟩
 have mz : Mo w w1 := Mo.trans (by repeat (first | with_reducible exact Mo.refl _ | with_reducible apply Mo.drew | with_reducible apply Mo.alloc)) hm1
 have M := mz
 have Qx : AtW w1 (w.heap.size) X := AtW.mo ⟨by simp [go_sem], fun o => by simp [go_sem], by simp <;> omega⟩ hm1
 have Qr : AtD w1 (w.heap.size + 1) false 0 0 := AtD.mo ⟨by simp [go_sem, zl0, zl1, zl2, zl3], fun o => by simp [go_sem], by simp <;> omega⟩ hm1
 clear hm1 mz
 have Ox := Qx
 obtain ⟨⟨cx0, cx1, cx2, cx3, cx4, cx5, cx6, cx7⟩, fx, sx⟩ := Ox
 have fx := fun o => fx o
 have sxx : w.heap.size < w1.heap.size + 1 := by omega
 have syx : w.heap.size < w1.heap.size + 1 + 1 := by omega
 have Or := Qr
 obtain ⟨⟨cr0, cr1, cr2, cr3, cr4, cr5⟩, fr, sr⟩ := Or
 have fr := fun o => fr o
 have sxr : w.heap.size + 1 < w1.heap.size + 1 := by omega
 have syr : w.heap.size + 1 < w1.heap.size + 1 + 1 := by omega
 go_wp2_with fail
 refine (div_x_no X d _ hX0 hX (by omega) t1 h).mono ?_
 rintro e w2 ⟨rfl, hm2⟩
 have mz : Mo w1 w2 := Mo.trans (by repeat (first | with_reducible exact Mo.refl _ | with_reducible apply Mo.drew | with_reducible apply Mo.alloc)) hm2
 have zw1x := sx
 have zw1r := sr
 clear cx0 cx1 cx2 cx3 cx4 cx5 cx6 cx7 fx sx sxx syx cr0 cr1 cr2 cr3 cr4 cr5 fr sr sxr syr
 clear Qx
 have Qr := Qr.mo mz
 have M := M.trans mz
 clear hm2 mz
 have Or := Qr
 obtain ⟨⟨cr0, cr1, cr2, cr3, cr4, cr5⟩, fr, sr⟩ := Or
 have fr := fun o => fr o
 have sxr : w.heap.size + 1 < w2.heap.size + 1 := by omega
 have syr : w.heap.size + 1 < w2.heap.size + 1 + 1 := by omega
 have a : Mo w2 ((((w2).alloc (.cells #[.int .u64 (l0 (0)), .int .u64 (l1 (0)), .int .u64 (l2 (0)), .int .u64 (l3 (0))] 31))).alloc (.cells #[.int .u64 (l0 (0)), .int .u64 (l1 (0)), .int .u64 (l2 (0)), .int .u64 (l3 (0))] 31)) := by repeat (first | with_reducible exact Mo.refl _ | with_reducible apply Mo.alloc)
 have zW0r := sr
 clear cr0 cr1 cr2 cr3 cr4 cr5 fr sr sxr syr
 have Qr := Qr.mo a
 have M := M.trans a
 clear a
 go_upto_region 4 with fail
 generalize ((((w2).alloc (.cells #[.int .u64 (l0 (0)), .int .u64 (l1 (0)), .int .u64 (l2 (0)), .int .u64 (l3 (0))] 31))).alloc (.cells #[.int .u64 (l0 (0)), .int .u64 (l1 (0)), .int .u64 (l2 (0)), .int .u64 (l3 (0))] 31)) = W0 at *
 have Or := Qr
 obtain ⟨⟨cr0, cr1, cr2, cr3, cr4, cr5⟩, fr, sr⟩ := Or
 have fr := fun o => fr o
 have sxr : w.heap.size + 1 < W0.heap.size + 1 := by omega
 have syr : w.heap.size + 1 < W0.heap.size + 1 + 1 := by omega
 go_wp2
 refine bodyPost_ret (v := er 7) (by simp [results, Try.results71, go_sem, *]) rfl ?_
 refine ⟨rfl, ?_⟩
 repeat (first | with_reducible exact M | with_reducible exact Mo.refl _ | with_reducible apply Mo.drew | with_reducible apply Mo.drewN | with_reducible apply Mo.alloc | with_reducible refine Mo.setCell ?_ (by simp <;> omega) _)
set_option maxHeartbeats 4000000 in
theorem shorten_stay (b : Bool) (X S p : Int) (k : Nat) (w : World) (hX0 : 0 ≤ X) (hX : X < MM * MM) (hk : k ≤ 36) (_hp1 : 1 ≤ p) (_hp5 : p ≤ 5) (h : X / MM < 10 ^ k) (ha : aw b (X / 10 ^ k) (X % 10 ^ k) (10 ^ k) p = false) :
  Calls Try.prog 71 #[.bool b, dw X, .int .i64 (k : Int), .int .i64 S, .int .i64 p] w fun e w' => e = .returned (.tuple #[dc (b && !decide (X / 10 ^ k = 0)) (X / 10 ^ k) S, .int .i64 0]) ∧ Mo w w' := by
 have t := ten_bd k (by omega)
 have t2 : (10 : Int) ^ k + 10 ^ k < MM := by
  have h1 : (10 : Nat) ^ k ≤ 10 ^ 36 := Nat.pow_le_pow_right (by decide) hk
  have h2 : (10 : Nat) ^ 36 + 10 ^ 36 < 115792089237316195423570985008687907853269984665640564039457584007913129639936 := by decide
  have h3 : ((10 ^ k : Nat) : Int) = (10 : Int) ^ k := by rw [Int.natCast_pow]; rfl
  rw [← h3]
  unfold MM
  omega
 have hten0 : ∀ w, Calls Try.prog 68 #[.int .i64 (k : Int)] w fun e w' => e = .returned (nv (10 ^ k)) ∧ Mo w w' := fun w => dten_n k w (by omega)
 generalize (10 : Int) ^ k = d at *
 have hten := hten0
 clear hten0
 obtain ⟨t0, t1⟩ := t
 have hdiv : ∀ w, Calls Try.prog 85 #[nv (X / MM), nv X, nv d] w fun e w' => e = .returned (.tuple #[nv (X / d), nv (X % d), .bool true]) ∧ Mo w w' := fun w => div_x_ok X d w hX0 hX (by omega) t1 h
 have q0 : 0 ≤ X / d := Int.ediv_nonneg hX0 (by omega)
 have q1 : X / d < MM := by
  apply Int.ediv_lt_of_lt_mul t0
  have a := Int.lt_ediv_add_one_mul_self X (show (0 : Int) < MM by decide)
  have b := Int.mul_le_mul_of_nonneg_right (show X / MM + 1 ≤ d by omega) (show (0 : Int) ≤ MM by decide)
  rw [Int.mul_comm MM]
  omega
 have r0 : 0 ≤ X % d := Int.emod_nonneg _ (by omega)
 have r1 : X % d < d := Int.emod_lt_of_pos _ t0
 generalize X / d = q at *
 generalize X % d = r at *
 have haw : ∀ w, Calls Try.prog 86 #[.bool b, nv q, nv r, nv d, .int .i64 p] w fun e w' => e = .returned (.bool false) ∧ Mo w w' := fun w => by
  have := isAway_n b q r d p w q0 q1 r0 (by omega) (by omega) t1 _hp1 _hp5
  rw [ha] at this
  exact this
 clear ha h
 go_enter Try.func71, Try.ntmps71
 go_wp2_with fail
 refine (hten _).mono ?_
 rintro e w1 ⟨rfl, hm1⟩
 have mz : Mo w w1 := Mo.trans (by repeat (first | with_reducible exact Mo.refl _ | with_reducible apply Mo.drew | with_reducible apply Mo.alloc)) hm1
 have M := mz
 have Qx : AtW w1 (w.heap.size) X := AtW.mo ⟨by simp [go_sem], fun o => by simp [go_sem], by simp <;> omega⟩ hm1
 have Qr : AtD w1 (w.heap.size + 1) false 0 0 := AtD.mo ⟨by simp [go_sem, zl0, zl1, zl2, zl3], fun o => by simp [go_sem], by simp <;> omega⟩ hm1
 clear hm1 mz
 have Ox := Qx
 obtain ⟨⟨cx0, cx1, cx2, cx3, cx4, cx5, cx6, cx7⟩, fx, sx⟩ := Ox
 have fx := fun o => fx o
 have sxx : w.heap.size < w1.heap.size + 1 := by omega
 have syx : w.heap.size < w1.heap.size + 1 + 1 := by omega
 have Or := Qr
 obtain ⟨⟨cr0, cr1, cr2, cr3, cr4, cr5⟩, fr, sr⟩ := Or
 have fr := fun o => fr o
 have sxr : w.heap.size + 1 < w1.heap.size + 1 := by omega
 have syr : w.heap.size + 1 < w1.heap.size + 1 + 1 := by omega
 go_wp2_with fail
 refine (hdiv _).mono ?_
 rintro e w2 ⟨rfl, hm2⟩
 have mz : Mo w1 w2 := Mo.trans (by repeat (first | with_reducible exact Mo.refl _ | with_reducible apply Mo.drew | with_reducible apply Mo.alloc)) hm2
 have zw1x := sx
 have zw1r := sr
 clear cx0 cx1 cx2 cx3 cx4 cx5 cx6 cx7 fx sx sxx syx cr0 cr1 cr2 cr3 cr4 cr5 fr sr sxr syr
 clear Qx
 have Qr := Qr.mo mz
 have M := M.trans mz
 have Qd : AtN w2 (w1.heap.size) d := AtN.mo ⟨by simp [At4, go_sem], fun o => by simp [go_sem], by simp <;> omega⟩ hm2
 clear hm2 mz
 have Or := Qr
 obtain ⟨⟨cr0, cr1, cr2, cr3, cr4, cr5⟩, fr, sr⟩ := Or
 have fr := fun o => fr o
 have sxr : w.heap.size + 1 < w2.heap.size + 1 := by omega
 have syr : w.heap.size + 1 < w2.heap.size + 1 + 1 := by omega
 have Od := Qd
 obtain ⟨⟨cd0, cd1, cd2, cd3⟩, fd, sd⟩ := Od
 have fd := fun o => fd o
 have sxd : w1.heap.size < w2.heap.size + 1 := by omega
 have syd : w1.heap.size < w2.heap.size + 1 + 1 := by omega
 go_wp2_with fail
 refine (haw _).mono ?_
 rintro e w3 ⟨rfl, hm3⟩
 have mz : Mo w2 w3 := Mo.trans (by repeat (first | with_reducible exact Mo.refl _ | with_reducible apply Mo.drew | with_reducible apply Mo.alloc)) hm3
 have zw2r := sr
 have zw2d := sd
 clear cr0 cr1 cr2 cr3 cr4 cr5 fr sr sxr syr cd0 cd1 cd2 cd3 fd sd sxd syd
 have Qr := Qr.mo mz
 have Qd := Qd.mo mz
 have M := M.trans mz
 have Qq : AtN w3 (w2.heap.size) q := AtN.mo ⟨by simp [At4, go_sem], fun o => by simp [go_sem], by simp <;> omega⟩ hm3
 have Qt : AtN w3 (w2.heap.size + 1) r := AtN.mo ⟨by simp [At4, go_sem], fun o => by simp [go_sem], by simp <;> omega⟩ hm3
 clear hm3 mz
 have Or := Qr
 obtain ⟨⟨cr0, cr1, cr2, cr3, cr4, cr5⟩, fr, sr⟩ := Or
 have fr := fun o => fr o
 have sxr : w.heap.size + 1 < w3.heap.size + 1 := by omega
 have syr : w.heap.size + 1 < w3.heap.size + 1 + 1 := by omega
 have Od := Qd
 obtain ⟨⟨cd0, cd1, cd2, cd3⟩, fd, sd⟩ := Od
 have fd := fun o => fd o
 have sxd : w1.heap.size < w3.heap.size + 1 := by omega
 have syd : w1.heap.size < w3.heap.size + 1 + 1 := by omega
 have Oq := Qq
 obtain ⟨⟨cq0, cq1, cq2, cq3⟩, fq, sq⟩ := Oq
 have fq := fun o => fq o
 have sxq : w2.heap.size < w3.heap.size + 1 := by omega
 have syq : w2.heap.size < w3.heap.size + 1 + 1 := by omega
 have Ot := Qt
 obtain ⟨⟨ct0, ct1, ct2, ct3⟩, ft, st⟩ := Ot
 have ft := fun o => ft o
 have sxt : w2.heap.size + 1 < w3.heap.size + 1 := by omega
 have syt : w2.heap.size + 1 < w3.heap.size + 1 + 1 := by omega
 go_wp2_with fail
 refine (signed_n b q S _ q0 q1).mono ?_
 rintro e w4 ⟨rfl, hm4⟩
 have mz : Mo w3 w4 := Mo.trans (by repeat (first | with_reducible exact Mo.refl _ | with_reducible apply Mo.drew | with_reducible apply Mo.alloc)) hm4
 have zw3r := sr
 have zw3d := sd
 have zw3q := sq
 have zw3t := st
 clear cr0 cr1 cr2 cr3 cr4 cr5 fr sr sxr syr cd0 cd1 cd2 cd3 fd sd sxd syd cq0 cq1 cq2 cq3 fq sq sxq syq ct0 ct1 ct2 ct3 ft st sxt syt
 have Qr := Qr.mo mz
 have Qd := Qd.mo mz
 have Qq := Qq.mo mz
 have Qt := Qt.mo mz
 have M := M.trans mz
 clear hm4 mz
 have Or := Qr
 obtain ⟨⟨cr0, cr1, cr2, cr3, cr4, cr5⟩, fr, sr⟩ := Or
 have fr := fun o => fr o
 have sxr : w.heap.size + 1 < w4.heap.size + 1 := by omega
 have syr : w.heap.size + 1 < w4.heap.size + 1 + 1 := by omega
 have Od := Qd
 obtain ⟨⟨cd0, cd1, cd2, cd3⟩, fd, sd⟩ := Od
 have fd := fun o => fd o
 have sxd : w1.heap.size < w4.heap.size + 1 := by omega
 have syd : w1.heap.size < w4.heap.size + 1 + 1 := by omega
 have Oq := Qq
 obtain ⟨⟨cq0, cq1, cq2, cq3⟩, fq, sq⟩ := Oq
 have fq := fun o => fq o
 have sxq : w2.heap.size < w4.heap.size + 1 := by omega
 have syq : w2.heap.size < w4.heap.size + 1 + 1 := by omega
 have Ot := Qt
 obtain ⟨⟨ct0, ct1, ct2, ct3⟩, ft, st⟩ := Ot
 have ft := fun o => ft o
 have sxt : w2.heap.size + 1 < w4.heap.size + 1 := by omega
 have syt : w2.heap.size + 1 < w4.heap.size + 1 + 1 := by omega
 go_wp2
 refine bodyPost_ret (v := .tuple #[dc (b && !decide (q = 0)) q S, .int .i64 0]) (by simp [results, Try.results71, go_sem, *]) rfl ?_
 refine ⟨rfl, ?_⟩
 repeat (first | with_reducible exact M | with_reducible exact Mo.refl _ | with_reducible apply Mo.drew | with_reducible apply Mo.drewN | with_reducible apply Mo.alloc | with_reducible refine Mo.setCell ?_ (by simp <;> omega) _)
set_option maxHeartbeats 4000000 in
theorem shorten_up (b : Bool) (X S p : Int) (k : Nat) (w : World) (hX0 : 0 ≤ X) (hX : X < MM * MM) (hk : k ≤ 36) (_hp1 : 1 ≤ p) (_hp5 : p ≤ 5) (h : X / MM < 10 ^ k) (ha : aw b (X / 10 ^ k) (X % 10 ^ k) (10 ^ k) p = true) (hq1 : X / 10 ^ k + 1 < MM) :
  Calls Try.prog 71 #[.bool b, dw X, .int .i64 (k : Int), .int .i64 S, .int .i64 p] w fun e w' => e = .returned (.tuple #[dc (b && !decide (X / 10 ^ k + 1 = 0)) (X / 10 ^ k + 1) S, .int .i64 0]) ∧ Mo w w' := by
 have t := ten_bd k (by omega)
 have t2 : (10 : Int) ^ k + 10 ^ k < MM := by
  have h1 : (10 : Nat) ^ k ≤ 10 ^ 36 := Nat.pow_le_pow_right (by decide) hk
  have h2 : (10 : Nat) ^ 36 + 10 ^ 36 < 115792089237316195423570985008687907853269984665640564039457584007913129639936 := by decide
  have h3 : ((10 ^ k : Nat) : Int) = (10 : Int) ^ k := by rw [Int.natCast_pow]; rfl
  rw [← h3]
  unfold MM
  omega
 have hten0 : ∀ w, Calls Try.prog 68 #[.int .i64 (k : Int)] w fun e w' => e = .returned (nv (10 ^ k)) ∧ Mo w w' := fun w => dten_n k w (by omega)
 generalize (10 : Int) ^ k = d at *
 have hten := hten0
 clear hten0
 obtain ⟨t0, t1⟩ := t
 have hdiv : ∀ w, Calls Try.prog 85 #[nv (X / MM), nv X, nv d] w fun e w' => e = .returned (.tuple #[nv (X / d), nv (X % d), .bool true]) ∧ Mo w w' := fun w => div_x_ok X d w hX0 hX (by omega) t1 h
 have q0 : 0 ≤ X / d := Int.ediv_nonneg hX0 (by omega)
 have q1 : X / d < MM := by
  apply Int.ediv_lt_of_lt_mul t0
  have a := Int.lt_ediv_add_one_mul_self X (show (0 : Int) < MM by decide)
  have b := Int.mul_le_mul_of_nonneg_right (show X / MM + 1 ≤ d by omega) (show (0 : Int) ≤ MM by decide)
  rw [Int.mul_comm MM]
  omega
 have r0 : 0 ≤ X % d := Int.emod_nonneg _ (by omega)
 have r1 : X % d < d := Int.emod_lt_of_pos _ t0
 generalize X / d = q at *
 generalize X % d = r at *
 have haw : ∀ w, Calls Try.prog 86 #[.bool b, nv q, nv r, nv d, .int .i64 p] w fun e w' => e = .returned (.bool true) ∧ Mo w w' := fun w => by
  have := isAway_n b q r d p w q0 q1 r0 (by omega) (by omega) t1 _hp1 _hp5
  rw [ha] at this
  exact this
 clear ha h
 go_enter Try.func71, Try.ntmps71
 go_wp2_with fail
 refine (hten _).mono ?_
 rintro e w1 ⟨rfl, hm1⟩
 have mz : Mo w w1 := Mo.trans (by repeat (first | with_reducible exact Mo.refl _ | with_reducible apply Mo.drew | with_reducible apply Mo.alloc)) hm1
 have M := mz
 have Qx : AtW w1 (w.heap.size) X := AtW.mo ⟨by simp [go_sem], fun o => by simp [go_sem], by simp <;> omega⟩ hm1
 have Qr : AtD w1 (w.heap.size + 1) false 0 0 := AtD.mo ⟨by simp [go_sem, zl0, zl1, zl2, zl3], fun o => by simp [go_sem], by simp <;> omega⟩ hm1
 clear hm1 mz
 have Ox := Qx
 obtain ⟨⟨cx0, cx1, cx2, cx3, cx4, cx5, cx6, cx7⟩, fx, sx⟩ := Ox
 have fx := fun o => fx o
 have sxx : w.heap.size < w1.heap.size + 1 := by omega
 have syx : w.heap.size < w1.heap.size + 1 + 1 := by omega
 have Or := Qr
 obtain ⟨⟨cr0, cr1, cr2, cr3, cr4, cr5⟩, fr, sr⟩ := Or
 have fr := fun o => fr o
 have sxr : w.heap.size + 1 < w1.heap.size + 1 := by omega
 have syr : w.heap.size + 1 < w1.heap.size + 1 + 1 := by omega
 go_wp2_with fail
 refine (hdiv _).mono ?_
 rintro e w2 ⟨rfl, hm2⟩
 have mz : Mo w1 w2 := Mo.trans (by repeat (first | with_reducible exact Mo.refl _ | with_reducible apply Mo.drew | with_reducible apply Mo.alloc)) hm2
 have zw1x := sx
 have zw1r := sr
 clear cx0 cx1 cx2 cx3 cx4 cx5 cx6 cx7 fx sx sxx syx cr0 cr1 cr2 cr3 cr4 cr5 fr sr sxr syr
 clear Qx
 have Qr := Qr.mo mz
 have M := M.trans mz
 have Qd : AtN w2 (w1.heap.size) d := AtN.mo ⟨by simp [At4, go_sem], fun o => by simp [go_sem], by simp <;> omega⟩ hm2
 clear hm2 mz
 have Or := Qr
 obtain ⟨⟨cr0, cr1, cr2, cr3, cr4, cr5⟩, fr, sr⟩ := Or
 have fr := fun o => fr o
 have sxr : w.heap.size + 1 < w2.heap.size + 1 := by omega
 have syr : w.heap.size + 1 < w2.heap.size + 1 + 1 := by omega
 have Od := Qd
 obtain ⟨⟨cd0, cd1, cd2, cd3⟩, fd, sd⟩ := Od
 have fd := fun o => fd o
 have sxd : w1.heap.size < w2.heap.size + 1 := by omega
 have syd : w1.heap.size < w2.heap.size + 1 + 1 := by omega
 go_wp2_with fail
 refine (haw _).mono ?_
 rintro e w3 ⟨rfl, hm3⟩
 have mz : Mo w2 w3 := Mo.trans (by repeat (first | with_reducible exact Mo.refl _ | with_reducible apply Mo.drew | with_reducible apply Mo.alloc)) hm3
 have zw2r := sr
 have zw2d := sd
 clear cr0 cr1 cr2 cr3 cr4 cr5 fr sr sxr syr cd0 cd1 cd2 cd3 fd sd sxd syd
 have Qr := Qr.mo mz
 have Qd := Qd.mo mz
 have M := M.trans mz
 have Qq : AtN w3 (w2.heap.size) q := AtN.mo ⟨by simp [At4, go_sem], fun o => by simp [go_sem], by simp <;> omega⟩ hm3
 have Qt : AtN w3 (w2.heap.size + 1) r := AtN.mo ⟨by simp [At4, go_sem], fun o => by simp [go_sem], by simp <;> omega⟩ hm3
 clear hm3 mz
 have Or := Qr
 obtain ⟨⟨cr0, cr1, cr2, cr3, cr4, cr5⟩, fr, sr⟩ := Or
 have fr := fun o => fr o
 have sxr : w.heap.size + 1 < w3.heap.size + 1 := by omega
 have syr : w.heap.size + 1 < w3.heap.size + 1 + 1 := by omega
 have Od := Qd
 obtain ⟨⟨cd0, cd1, cd2, cd3⟩, fd, sd⟩ := Od
 have fd := fun o => fd o
 have sxd : w1.heap.size < w3.heap.size + 1 := by omega
 have syd : w1.heap.size < w3.heap.size + 1 + 1 := by omega
 have Oq := Qq
 obtain ⟨⟨cq0, cq1, cq2, cq3⟩, fq, sq⟩ := Oq
 have fq := fun o => fq o
 have sxq : w2.heap.size < w3.heap.size + 1 := by omega
 have syq : w2.heap.size < w3.heap.size + 1 + 1 := by omega
 have Ot := Qt
 obtain ⟨⟨ct0, ct1, ct2, ct3⟩, ft, st⟩ := Ot
 have ft := fun o => ft o
 have sxt : w2.heap.size + 1 < w3.heap.size + 1 := by omega
 have syt : w2.heap.size + 1 < w3.heap.size + 1 + 1 := by omega
 go_upto_region 7 with fail
 have HO : Hid (ov (q + 1) = false) := decide_eq_false (by omega)
 go_cut [16] from 43 to 48 (fun s16 wx => s16 = .bool false ∧ Mo w wx ∧ AtN wx w2.heap.size (q + 1) ∧ AtD wx (w.heap.size + 1) false 0 0)
 case first =>
  go_region_with
   (first | (go_at_call 88; refine (from20_any 1 _ ⟨by decide, by decide⟩).mono ?_; rintro e w5 ⟨rfl, hm5⟩; have m5 : Mo w3 w5 := Mo.trans (by repeat (first | with_reducible exact Mo.refl _ | with_reducible apply Mo.drew | with_reducible apply Mo.alloc)) hm5; obtain ⟨⟨x0, x1, x2, x3⟩, _, xs⟩ := Qq.mo m5) | (go_at_call 87; refine (add_n q 1 _ q0 q1 (by decide) (by decide)).mono ?_; rintro e w6 ⟨rfl, hm6⟩; have m6 : Mo w5 w6 := Mo.trans (by repeat (first | with_reducible exact Mo.refl _ | with_reducible apply Mo.drew | with_reducible apply Mo.alloc)) hm6; have m7 := m5.trans m6; obtain ⟨⟨z0, z1, z2, z3⟩, zf, zs⟩ := Qq.mo m7; have zf := fun o => zf o))
  all_goals
   go_wp2
   go_meet
   case rel => exact ⟨by rw [HO.out], (M.trans m7).st4 (by omega) _, (Qq.mo m7).same _, ((((Qr.mo m7).setD (by omega) _ _).setD (by omega) _ _).setD (by omega) _ _).setD (by omega) _ _⟩
 case rest =>
  clear cr0 cr1 cr2 cr3 cr4 cr5 fr sr sxr syr cd0 cd1 cd2 cd3 fd sd sxd syd cq0 cq1 cq2 cq3 fq sq sxq syq ct0 ct1 ct2 ct3 ft st sxt syt Qr Qd Qq Qt M
  obtain ⟨rfl, M, Qq, Qr⟩ := hcut
  have zr := Qr.2.2
  have zq := Qq.2.2
  have Oq := Qq
  obtain ⟨⟨cq0, cq1, cq2, cq3⟩, fq, sq⟩ := Oq
  have fq := fun o => fq o
  have sxq : w2.heap.size < wc.heap.size + 1 := by omega
  have syq : w2.heap.size < wc.heap.size + 1 + 1 := by omega
  have Or := Qr
  obtain ⟨⟨cr0, cr1, cr2, cr3, cr4, cr5⟩, fr, sr⟩ := Or
  have fr := fun o => fr o
  have sxr : w.heap.size + 1 < wc.heap.size + 1 := by omega
  have syr : w.heap.size + 1 < wc.heap.size + 1 + 1 := by omega
  go_wp2_with fail
  refine (signed_n b (q + 1) S _ (by omega) hq1).mono ?_
  rintro e w7 ⟨rfl, hm7⟩
  have mz : Mo wc w7 := Mo.trans (by repeat (first | with_reducible exact Mo.refl _ | with_reducible apply Mo.drew | with_reducible apply Mo.alloc)) hm7
  have zwcq := sq
  have zwcr := sr
  clear cq0 cq1 cq2 cq3 fq sq sxq syq cr0 cr1 cr2 cr3 cr4 cr5 fr sr sxr syr
  have Qq := Qq.mo mz
  have Qr := Qr.mo mz
  have M := M.trans mz
  clear hm7 mz
  have Oq := Qq
  obtain ⟨⟨cq0, cq1, cq2, cq3⟩, fq, sq⟩ := Oq
  have fq := fun o => fq o
  have sxq : w2.heap.size < w7.heap.size + 1 := by omega
  have syq : w2.heap.size < w7.heap.size + 1 + 1 := by omega
  have Or := Qr
  obtain ⟨⟨cr0, cr1, cr2, cr3, cr4, cr5⟩, fr, sr⟩ := Or
  have fr := fun o => fr o
  have sxr : w.heap.size + 1 < w7.heap.size + 1 := by omega
  have syr : w.heap.size + 1 < w7.heap.size + 1 + 1 := by omega
  go_wp2
  refine bodyPost_ret (v := .tuple #[dc (b && !decide (q + 1 = 0)) (q + 1) S, .int .i64 0]) (by simp [results, Try.results71, go_sem, *]) rfl ?_
  refine ⟨rfl, ?_⟩
  repeat (first | with_reducible exact M | with_reducible exact Mo.refl _ | with_reducible apply Mo.drew | with_reducible apply Mo.drewN | with_reducible apply Mo.alloc | with_reducible refine Mo.setCell ?_ (by simp <;> omega) _)
set_option maxHeartbeats 4000000 in
theorem shorten_over (b : Bool) (X S p : Int) (k : Nat) (w : World) (hX0 : 0 ≤ X) (hX : X < MM * MM) (hk : k ≤ 36) (_hp1 : 1 ≤ p) (_hp5 : p ≤ 5) (h : X / MM < 10 ^ k) (ha : aw b (X / 10 ^ k) (X % 10 ^ k) (10 ^ k) p = true) (hq1 : MM ≤ X / 10 ^ k + 1) :
  Calls Try.prog 71 #[.bool b, dw X, .int .i64 (k : Int), .int .i64 S, .int .i64 p] w fun e w' => e = .returned (er 7) ∧ Mo w w' := by
 have t := ten_bd k (by omega)
 have t2 : (10 : Int) ^ k + 10 ^ k < MM := by
  have h1 : (10 : Nat) ^ k ≤ 10 ^ 36 := Nat.pow_le_pow_right (by decide) hk
  have h2 : (10 : Nat) ^ 36 + 10 ^ 36 < 115792089237316195423570985008687907853269984665640564039457584007913129639936 := by decide
  have h3 : ((10 ^ k : Nat) : Int) = (10 : Int) ^ k := by rw [Int.natCast_pow]; rfl
  rw [← h3]
  unfold MM
  omega
 have hten0 : ∀ w, Calls Try.prog 68 #[.int .i64 (k : Int)] w fun e w' => e = .returned (nv (10 ^ k)) ∧ Mo w w' := fun w => dten_n k w (by omega)
 generalize (10 : Int) ^ k = d at *
 have hten := hten0
 clear hten0
 obtain ⟨t0, t1⟩ := t
 have hdiv : ∀ w, Calls Try.prog 85 #[nv (X / MM), nv X, nv d] w fun e w' => e = .returned (.tuple #[nv (X / d), nv (X % d), .bool true]) ∧ Mo w w' := fun w => div_x_ok X d w hX0 hX (by omega) t1 h
 have q0 : 0 ≤ X / d := Int.ediv_nonneg hX0 (by omega)
 have q1 : X / d < MM := by
  apply Int.ediv_lt_of_lt_mul t0
  have a := Int.lt_ediv_add_one_mul_self X (show (0 : Int) < MM by decide)
  have b := Int.mul_le_mul_of_nonneg_right (show X / MM + 1 ≤ d by omega) (show (0 : Int) ≤ MM by decide)
  rw [Int.mul_comm MM]
  omega
 have r0 : 0 ≤ X % d := Int.emod_nonneg _ (by omega)
 have r1 : X % d < d := Int.emod_lt_of_pos _ t0
 generalize X / d = q at *
 generalize X % d = r at *
 have haw : ∀ w, Calls Try.prog 86 #[.bool b, nv q, nv r, nv d, .int .i64 p] w fun e w' => e = .returned (.bool true) ∧ Mo w w' := fun w => by
  have := isAway_n b q r d p w q0 q1 r0 (by omega) (by omega) t1 _hp1 _hp5
  rw [ha] at this
  exact this
 clear ha h
 go_enter Try.func71, Try.ntmps71
 go_wp2_with fail
 refine (hten _).mono ?_
 rintro e w1 ⟨rfl, hm1⟩
 have mz : Mo w w1 := Mo.trans (by repeat (first | with_reducible exact Mo.refl _ | with_reducible apply Mo.drew | with_reducible apply Mo.alloc)) hm1
 have M := mz
 have Qx : AtW w1 (w.heap.size) X := AtW.mo ⟨by simp [go_sem], fun o => by simp [go_sem], by simp <;> omega⟩ hm1
 have Qr : AtD w1 (w.heap.size + 1) false 0 0 := AtD.mo ⟨by simp [go_sem, zl0, zl1, zl2, zl3], fun o => by simp [go_sem], by simp <;> omega⟩ hm1
 clear hm1 mz
 have Ox := Qx
 obtain ⟨⟨cx0, cx1, cx2, cx3, cx4, cx5, cx6, cx7⟩, fx, sx⟩ := Ox
 have fx := fun o => fx o
 have sxx : w.heap.size < w1.heap.size + 1 := by omega
 have syx : w.heap.size < w1.heap.size + 1 + 1 := by omega
 have Or := Qr
 obtain ⟨⟨cr0, cr1, cr2, cr3, cr4, cr5⟩, fr, sr⟩ := Or
 have fr := fun o => fr o
 have sxr : w.heap.size + 1 < w1.heap.size + 1 := by omega
 have syr : w.heap.size + 1 < w1.heap.size + 1 + 1 := by omega
 go_wp2_with fail
 refine (hdiv _).mono ?_
 rintro e w2 ⟨rfl, hm2⟩
 have mz : Mo w1 w2 := Mo.trans (by repeat (first | with_reducible exact Mo.refl _ | with_reducible apply Mo.drew | with_reducible apply Mo.alloc)) hm2
 have zw1x := sx
 have zw1r := sr
 clear cx0 cx1 cx2 cx3 cx4 cx5 cx6 cx7 fx sx sxx syx cr0 cr1 cr2 cr3 cr4 cr5 fr sr sxr syr
 clear Qx
 have Qr := Qr.mo mz
 have M := M.trans mz
 have Qd : AtN w2 (w1.heap.size) d := AtN.mo ⟨by simp [At4, go_sem], fun o => by simp [go_sem], by simp <;> omega⟩ hm2
 clear hm2 mz
 have Or := Qr
 obtain ⟨⟨cr0, cr1, cr2, cr3, cr4, cr5⟩, fr, sr⟩ := Or
 have fr := fun o => fr o
 have sxr : w.heap.size + 1 < w2.heap.size + 1 := by omega
 have syr : w.heap.size + 1 < w2.heap.size + 1 + 1 := by omega
 have Od := Qd
 obtain ⟨⟨cd0, cd1, cd2, cd3⟩, fd, sd⟩ := Od
 have fd := fun o => fd o
 have sxd : w1.heap.size < w2.heap.size + 1 := by omega
 have syd : w1.heap.size < w2.heap.size + 1 + 1 := by omega
 go_wp2_with fail
 refine (haw _).mono ?_
 rintro e w3 ⟨rfl, hm3⟩
 have mz : Mo w2 w3 := Mo.trans (by repeat (first | with_reducible exact Mo.refl _ | with_reducible apply Mo.drew | with_reducible apply Mo.alloc)) hm3
 have zw2r := sr
 have zw2d := sd
 clear cr0 cr1 cr2 cr3 cr4 cr5 fr sr sxr syr cd0 cd1 cd2 cd3 fd sd sxd syd
 have Qr := Qr.mo mz
 have Qd := Qd.mo mz
 have M := M.trans mz
 have Qq : AtN w3 (w2.heap.size) q := AtN.mo ⟨by simp [At4, go_sem], fun o => by simp [go_sem], by simp <;> omega⟩ hm3
 have Qt : AtN w3 (w2.heap.size + 1) r := AtN.mo ⟨by simp [At4, go_sem], fun o => by simp [go_sem], by simp <;> omega⟩ hm3
 clear hm3 mz
 have Or := Qr
 obtain ⟨⟨cr0, cr1, cr2, cr3, cr4, cr5⟩, fr, sr⟩ := Or
 have fr := fun o => fr o
 have sxr : w.heap.size + 1 < w3.heap.size + 1 := by omega
 have syr : w.heap.size + 1 < w3.heap.size + 1 + 1 := by omega
 have Od := Qd
 obtain ⟨⟨cd0, cd1, cd2, cd3⟩, fd, sd⟩ := Od
 have fd := fun o => fd o
 have sxd : w1.heap.size < w3.heap.size + 1 := by omega
 have syd : w1.heap.size < w3.heap.size + 1 + 1 := by omega
 have Oq := Qq
 obtain ⟨⟨cq0, cq1, cq2, cq3⟩, fq, sq⟩ := Oq
 have fq := fun o => fq o
 have sxq : w2.heap.size < w3.heap.size + 1 := by omega
 have syq : w2.heap.size < w3.heap.size + 1 + 1 := by omega
 have Ot := Qt
 obtain ⟨⟨ct0, ct1, ct2, ct3⟩, ft, st⟩ := Ot
 have ft := fun o => ft o
 have sxt : w2.heap.size + 1 < w3.heap.size + 1 := by omega
 have syt : w2.heap.size + 1 < w3.heap.size + 1 + 1 := by omega
 go_upto_region 7 with fail
 have HO : Hid (ov (q + 1) = true) := decide_eq_true (by omega)
 go_cut [16] from 43 to 48 (fun s16 wx => s16 = .bool true ∧ Mo w wx ∧ AtN wx w2.heap.size (q + 1) ∧ AtD wx (w.heap.size + 1) false 0 0)
 case first =>
  go_region_with
   (first | (go_at_call 88; refine (from20_any 1 _ ⟨by decide, by decide⟩).mono ?_; rintro e w5 ⟨rfl, hm5⟩; have m5 : Mo w3 w5 := Mo.trans (by repeat (first | with_reducible exact Mo.refl _ | with_reducible apply Mo.drew | with_reducible apply Mo.alloc)) hm5; obtain ⟨⟨x0, x1, x2, x3⟩, _, xs⟩ := Qq.mo m5) | (go_at_call 87; refine (add_n q 1 _ q0 q1 (by decide) (by decide)).mono ?_; rintro e w6 ⟨rfl, hm6⟩; have m6 : Mo w5 w6 := Mo.trans (by repeat (first | with_reducible exact Mo.refl _ | with_reducible apply Mo.drew | with_reducible apply Mo.alloc)) hm6; have m7 := m5.trans m6; obtain ⟨⟨z0, z1, z2, z3⟩, zf, zs⟩ := Qq.mo m7; have zf := fun o => zf o))
  all_goals
   go_wp2
   go_meet
   case rel => exact ⟨by rw [HO.out], (M.trans m7).st4 (by omega) _, (Qq.mo m7).same _, ((((Qr.mo m7).setD (by omega) _ _).setD (by omega) _ _).setD (by omega) _ _).setD (by omega) _ _⟩
 case rest =>
  clear cr0 cr1 cr2 cr3 cr4 cr5 fr sr sxr syr cd0 cd1 cd2 cd3 fd sd sxd syd cq0 cq1 cq2 cq3 fq sq sxq syq ct0 ct1 ct2 ct3 ft st sxt syt Qr Qd Qq Qt M
  obtain ⟨rfl, M, Qq, Qr⟩ := hcut
  have zr := Qr.2.2
  have zq := Qq.2.2
  have Oq := Qq
  obtain ⟨⟨cq0, cq1, cq2, cq3⟩, fq, sq⟩ := Oq
  have fq := fun o => fq o
  have sxq : w2.heap.size < wc.heap.size + 1 := by omega
  have syq : w2.heap.size < wc.heap.size + 1 + 1 := by omega
  have Or := Qr
  obtain ⟨⟨cr0, cr1, cr2, cr3, cr4, cr5⟩, fr, sr⟩ := Or
  have fr := fun o => fr o
  have sxr : w.heap.size + 1 < wc.heap.size + 1 := by omega
  have syr : w.heap.size + 1 < wc.heap.size + 1 + 1 := by omega
  go_wp2
  refine bodyPost_ret (v := er 7) (by simp [results, Try.results71, go_sem, *]) rfl ?_
  refine ⟨rfl, ?_⟩
  repeat (first | with_reducible exact M | with_reducible exact Mo.refl _ | with_reducible apply Mo.drew | with_reducible apply Mo.drewN | with_reducible apply Mo.alloc | with_reducible refine Mo.setCell ?_ (by simp <;> omega) _)
end Go.Proofs.Ythehmmhnacomkaa

namespace Go.Proofs.Ythehmmhnacomkaa
open Go.RowKit
def sv (b : Bool) (V : Int) : Int := if b then -V else V
theorem ab_sv {b : Bool} {V : Int} (h : 0 ≤ V) : ab (sv b V) = V := by unfold ab sv; cases b <;> simp <;> omega
theorem neg_sv {b : Bool} {V : Int} (h : 0 ≤ V) : decide (sv b V < 0) = (b && !decide (V = 0)) := by
 unfold sv
 cases b
 ·simp; omega
 ·rw [Bool.eq_iff_iff]; simp; omega
def ro (b : Bool) (X : Int) (k : Nat) (p : Int) : Int := X / 10 ^ k + if aw b (X / 10 ^ k) (X % 10 ^ k) (10 ^ k) p then 1 else 0
theorem ro_nn {b : Bool} {X : Int} {k : Nat} {p : Int} (h : 0 ≤ X) : 0 ≤ ro b X k p := by
 have := Int.ediv_nonneg h (show (0 : Int) ≤ 10 ^ k from Int.le_of_lt (Int.pow_pos (by decide)))
 unfold ro; split <;> omega
theorem dc_sv {b : Bool} {V s : Int} (h : 0 ≤ V) : dc (b && !decide (V = 0)) V s = dz (sv b V) s := by rw [dz, ab_sv h, neg_sv h]
theorem shorten_room (b : Bool) (X S p : Int) (k : Nat) (w : World) (hX0 : 0 ≤ X) (hX : X < MM * MM) (hk : k ≤ 36) (hp1 : 1 ≤ p) (hp5 : p ≤ 5) (h : ro b X k p < MM) :
  Calls Try.prog 71 #[.bool b, dx X, .int .i64 (k : Int), .int .i64 S, .int .i64 p] w fun e w' => e = .returned (.tuple #[dz (sv b (ro b X k p)) S, .int .i64 0]) ∧ Mo w w' := by
 have t := (ten_bd k (by omega)).1
 have hq : X / 10 ^ k < MM := by unfold ro at h; split at h <;> omega
 have hl : X / MM < 10 ^ k := by
  apply Int.ediv_lt_of_lt_mul (by decide)
  have a := Int.lt_ediv_add_one_mul_self X t
  have b := Int.mul_le_mul_of_nonneg_right (show X / 10 ^ k + 1 ≤ MM by omega) (Int.le_of_lt t)
  rw [Int.mul_comm (10 ^ k)]
  omega
 rw [← dc_sv (ro_nn hX0)]
 unfold ro at h ⊢
 cases ha : aw b (X / 10 ^ k) (X % 10 ^ k) (10 ^ k) p
 ·simp only [Bool.false_eq_true, if_false, Int.add_zero]
  exact shorten_stay b X S p k w hX0 hX hk hp1 hp5 hl ha
 ·rw [ha] at h
  simp only [if_true] at h ⊢
  exact shorten_up b X S p k w hX0 hX hk hp1 hp5 hl ha h
theorem shorten_full (b : Bool) (X S p : Int) (k : Nat) (w : World) (hX0 : 0 ≤ X) (hX : X < MM * MM) (hk : k ≤ 36) (hp1 : 1 ≤ p) (hp5 : p ≤ 5) (h : MM ≤ ro b X k p) :
  Calls Try.prog 71 #[.bool b, dx X, .int .i64 (k : Int), .int .i64 S, .int .i64 p] w fun e w' => e = .returned (er 7) ∧ Mo w w' := by
 have t := (ten_bd k (by omega)).1
 by_cases hl : X / MM < 10 ^ k
 ·have hq : X / 10 ^ k < MM := by
   apply Int.ediv_lt_of_lt_mul t
   have a := Int.lt_ediv_add_one_mul_self X (show (0 : Int) < MM by decide)
   have b := Int.mul_le_mul_of_nonneg_right (show X / MM + 1 ≤ 10 ^ k by omega) (show (0 : Int) ≤ MM by decide)
   rw [Int.mul_comm MM]
   omega
  unfold ro at h
  cases ha : aw b (X / 10 ^ k) (X % 10 ^ k) (10 ^ k) p
  ·rw [ha] at h
   simp at h
   omega
  ·rw [ha] at h
   simp only [if_true] at h
   exact shorten_over b X S p k w hX0 hX hk hp1 hp5 hl ha h
 ·exact shorten_no b X S p k w hX0 hX (by omega) hp1 hp5 (by omega)
theorem fit_room (b : Bool) (X s : Int) (w : World) (hX0 : 0 ≤ X) (hX : X < MM) :
  Calls Try.prog 72 #[.bool b, dx X, .int .i64 s] w fun e w' => e = .returned (.tuple #[dz (sv b X) s, .int .i64 0]) ∧ Mo w w' := by
 rw [← dc_sv hX0]; exact fit_yes b X s w hX0 hX
theorem fit_full (b : Bool) (X s : Int) (w : World) (hX0 : MM ≤ X) (hX : X < MM * MM) :
  Calls Try.prog 72 #[.bool b, dx X, .int .i64 s] w fun e w' => e = .returned (er 7) ∧ Mo w w' := fit_no b X s w hX0 hX
theorem AtX.cells {w : World} {k : Nat} {X : Int} (h : AtX w k X) : w.cell? ⟨k, 0, none⟩ = some (.int .u64 (l0 (X / MM))) ∧ w.cell? ⟨k, 1, none⟩ = some (.int .u64 (l1 (X / MM))) ∧ w.cell? ⟨k, 2, none⟩ = some (.int .u64 (l2 (X / MM))) ∧ w.cell? ⟨k, 3, none⟩ = some (.int .u64 (l3 (X / MM))) ∧ w.cell? ⟨k, 4, none⟩ = some (.int .u64 (l0 X)) ∧ w.cell? ⟨k, 5, none⟩ = some (.int .u64 (l1 X)) ∧ w.cell? ⟨k, 6, none⟩ = some (.int .u64 (l2 X)) ∧ w.cell? ⟨k, 7, none⟩ = some (.int .u64 (l3 X)) := by
 have c := fun j v hv => h.1 j v hv
 simp only [Nat.zero_add] at c
 exact ⟨c 0 _ rfl, c 1 _ rfl, c 2 _ rfl, c 3 _ rfl, c 4 _ rfl, c 5 _ rfl, c 6 _ rfl, c 7 _ rfl⟩
end Go.Proofs.Ythehmmhnacomkaa

