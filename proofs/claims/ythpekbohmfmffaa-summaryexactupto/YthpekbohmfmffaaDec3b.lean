/-
  decimal.checkBoth, Neg, Abs, Sign: the walks.
-/
import Derived.Test.YthpekbohmfmffaaDec3a
namespace Go.Proofs.Ythpekbohmfmffaa
open Go.RowKit
theorem ck_20 {b : Bool} {n s : Int} (h : ck b n s ≠ 0) : ck b n s = 20 := by unfold ck at *; split at h <;> simp_all
theorem check_ok (b : Bool) (n s : Int) (w : World) (hn0 : 0 ≤ n) (hn : n < MM) (h : ck b n s = 0) : Calls Try.prog 26 #[dc b n s] w fun e w' => e = .returned (.int .i64 0) ∧ Mo w w' := by
  have := check_n b n s w hn0 hn
  rw [h] at this
  exact this
theorem check_no (b : Bool) (n s : Int) (w : World) (hn0 : 0 ≤ n) (hn : n < MM) (h : ck b n s ≠ 0) : Calls Try.prog 26 #[dc b n s] w fun e w' => e = .returned (.int .i64 20) ∧ Mo w w' := by
  have := check_n b n s w hn0 hn
  rw [ck_20 h] at this
  exact this
set_option maxHeartbeats 4000000 in
theorem both_ok (b : Bool) (n s : Int) (c : Bool) (m t : Int) (w : World) (hn0 : 0 ≤ n) (hn : n < MM) (hm0 : 0 ≤ m) (hm : m < MM) (h1 : ck b n s = 0) (h2 : ck c m t = 0) :
    Calls Try.prog 47 #[dc b n s, dc c m t] w fun e w' => e = .returned (.int .i64 0) ∧ Mo w w' := by
  go_enter Try.func47, Try.ntmps47
  go_wp2_with fail
  refine (check_ok b n s _ hn0 hn h1).mono ?_
  rintro e w1 ⟨rfl, hm1⟩
  have mz : Mo w w1 := Mo.trans (by repeat (first | with_reducible exact Mo.refl _ | with_reducible apply Mo.drew | with_reducible apply Mo.alloc)) hm1
  have M := mz
  have Qa : AtD w1 (w.heap.size) b n s := AtD.mo ⟨by simp [go_sem], fun o => by simp [go_sem], by simp <;> omega⟩ hm1
  have Qb : AtD w1 (w.heap.size + 1) c m t := AtD.mo ⟨by simp [go_sem], fun o => by simp [go_sem], by simp <;> omega⟩ hm1
  clear hm1 mz
  have Oa := Qa
  obtain ⟨⟨ca0, ca1, ca2, ca3, ca4, ca5⟩, fa, sa⟩ := Oa
  have fa := fun o => fa o
  have sxa : w.heap.size < w1.heap.size + 1 := by omega
  have sya : w.heap.size < w1.heap.size + 1 + 1 := by omega
  have Ob := Qb
  obtain ⟨⟨cb0, cb1, cb2, cb3, cb4, cb5⟩, fb, sb⟩ := Ob
  have fb := fun o => fb o
  have sxb : w.heap.size + 1 < w1.heap.size + 1 := by omega
  have syb : w.heap.size + 1 < w1.heap.size + 1 + 1 := by omega
  go_wp2_with fail
  refine (check_ok c m t _ hm0 hm h2).mono ?_
  rintro e w2 ⟨rfl, hm2⟩
  have mz : Mo w1 w2 := Mo.trans (by repeat (first | with_reducible exact Mo.refl _ | with_reducible apply Mo.drew | with_reducible apply Mo.alloc)) hm2
  clear ca0 ca1 ca2 ca3 ca4 ca5 fa sa sxa sya cb0 cb1 cb2 cb3 cb4 cb5 fb sb sxb syb
  have Qa := Qa.mo mz
  have Qb := Qb.mo mz
  have M := M.trans mz
  clear hm2 mz
  have Oa := Qa
  obtain ⟨⟨ca0, ca1, ca2, ca3, ca4, ca5⟩, fa, sa⟩ := Oa
  have fa := fun o => fa o
  have sxa : w.heap.size < w2.heap.size + 1 := by omega
  have sya : w.heap.size < w2.heap.size + 1 + 1 := by omega
  have Ob := Qb
  obtain ⟨⟨cb0, cb1, cb2, cb3, cb4, cb5⟩, fb, sb⟩ := Ob
  have fb := fun o => fb o
  have sxb : w.heap.size + 1 < w2.heap.size + 1 := by omega
  have syb : w.heap.size + 1 < w2.heap.size + 1 + 1 := by omega
  go_wp2
  go_ret
  exact ⟨rfl, M⟩
set_option maxHeartbeats 4000000 in
theorem both_no1 (b : Bool) (n s : Int) (c : Bool) (m t : Int) (w : World) (hn0 : 0 ≤ n) (hn : n < MM) (_hm0 : 0 ≤ m) (_hm : m < MM) (h1 : ck b n s ≠ 0)  :
    Calls Try.prog 47 #[dc b n s, dc c m t] w fun e w' => e = .returned (.int .i64 20) ∧ Mo w w' := by
  go_enter Try.func47, Try.ntmps47
  go_wp2_with fail
  refine (check_no b n s _ hn0 hn h1).mono ?_
  rintro e w1 ⟨rfl, hm1⟩
  have mz : Mo w w1 := Mo.trans (by repeat (first | with_reducible exact Mo.refl _ | with_reducible apply Mo.drew | with_reducible apply Mo.alloc)) hm1
  have M := mz
  have Qa : AtD w1 (w.heap.size) b n s := AtD.mo ⟨by simp [go_sem], fun o => by simp [go_sem], by simp <;> omega⟩ hm1
  have Qb : AtD w1 (w.heap.size + 1) c m t := AtD.mo ⟨by simp [go_sem], fun o => by simp [go_sem], by simp <;> omega⟩ hm1
  clear hm1 mz
  have Oa := Qa
  obtain ⟨⟨ca0, ca1, ca2, ca3, ca4, ca5⟩, fa, sa⟩ := Oa
  have fa := fun o => fa o
  have sxa : w.heap.size < w1.heap.size + 1 := by omega
  have sya : w.heap.size < w1.heap.size + 1 + 1 := by omega
  have Ob := Qb
  obtain ⟨⟨cb0, cb1, cb2, cb3, cb4, cb5⟩, fb, sb⟩ := Ob
  have fb := fun o => fb o
  have sxb : w.heap.size + 1 < w1.heap.size + 1 := by omega
  have syb : w.heap.size + 1 < w1.heap.size + 1 + 1 := by omega
  go_wp2
  go_ret
  exact ⟨rfl, M⟩
set_option maxHeartbeats 4000000 in
theorem both_no2 (b : Bool) (n s : Int) (c : Bool) (m t : Int) (w : World) (hn0 : 0 ≤ n) (hn : n < MM) (hm0 : 0 ≤ m) (hm : m < MM) (h1 : ck b n s = 0) (h2 : ck c m t ≠ 0) :
    Calls Try.prog 47 #[dc b n s, dc c m t] w fun e w' => e = .returned (.int .i64 20) ∧ Mo w w' := by
  go_enter Try.func47, Try.ntmps47
  go_wp2_with fail
  refine (check_ok b n s _ hn0 hn h1).mono ?_
  rintro e w1 ⟨rfl, hm1⟩
  have mz : Mo w w1 := Mo.trans (by repeat (first | with_reducible exact Mo.refl _ | with_reducible apply Mo.drew | with_reducible apply Mo.alloc)) hm1
  have M := mz
  have Qa : AtD w1 (w.heap.size) b n s := AtD.mo ⟨by simp [go_sem], fun o => by simp [go_sem], by simp <;> omega⟩ hm1
  have Qb : AtD w1 (w.heap.size + 1) c m t := AtD.mo ⟨by simp [go_sem], fun o => by simp [go_sem], by simp <;> omega⟩ hm1
  clear hm1 mz
  have Oa := Qa
  obtain ⟨⟨ca0, ca1, ca2, ca3, ca4, ca5⟩, fa, sa⟩ := Oa
  have fa := fun o => fa o
  have sxa : w.heap.size < w1.heap.size + 1 := by omega
  have sya : w.heap.size < w1.heap.size + 1 + 1 := by omega
  have Ob := Qb
  obtain ⟨⟨cb0, cb1, cb2, cb3, cb4, cb5⟩, fb, sb⟩ := Ob
  have fb := fun o => fb o
  have sxb : w.heap.size + 1 < w1.heap.size + 1 := by omega
  have syb : w.heap.size + 1 < w1.heap.size + 1 + 1 := by omega
  go_wp2_with fail
  refine (check_no c m t _ hm0 hm h2).mono ?_
  rintro e w2 ⟨rfl, hm2⟩
  have mz : Mo w1 w2 := Mo.trans (by repeat (first | with_reducible exact Mo.refl _ | with_reducible apply Mo.drew | with_reducible apply Mo.alloc)) hm2
  clear ca0 ca1 ca2 ca3 ca4 ca5 fa sa sxa sya cb0 cb1 cb2 cb3 cb4 cb5 fb sb sxb syb
  have Qa := Qa.mo mz
  have Qb := Qb.mo mz
  have M := M.trans mz
  clear hm2 mz
  have Oa := Qa
  obtain ⟨⟨ca0, ca1, ca2, ca3, ca4, ca5⟩, fa, sa⟩ := Oa
  have fa := fun o => fa o
  have sxa : w.heap.size < w2.heap.size + 1 := by omega
  have sya : w.heap.size < w2.heap.size + 1 + 1 := by omega
  have Ob := Qb
  obtain ⟨⟨cb0, cb1, cb2, cb3, cb4, cb5⟩, fb, sb⟩ := Ob
  have fb := fun o => fb o
  have sxb : w.heap.size + 1 < w2.heap.size + 1 := by omega
  have syb : w.heap.size + 1 < w2.heap.size + 1 + 1 := by omega
  go_wp2
  go_ret
  exact ⟨rfl, M⟩
theorem both_no (b : Bool) (n s : Int) (c : Bool) (m t : Int) (w : World) (hn0 : 0 ≤ n) (hn : n < MM) (hm0 : 0 ≤ m) (hm : m < MM) (h : ¬ (ck b n s = 0 ∧ ck c m t = 0)) :
    Calls Try.prog 47 #[dc b n s, dc c m t] w fun e w' => e = .returned (.int .i64 20) ∧ Mo w w' := by
  by_cases h1 : ck b n s = 0
  · exact both_no2 b n s c m t w hn0 hn hm0 hm h1 (fun h2 => h ⟨h1, h2⟩)
  · exact both_no1 b n s c m t w hn0 hn hm0 hm h1
/-- A number's sign. -/
def sg (b : Bool) (n : Int) : Int := if n = 0 then 0 else if b then -1 else 1
set_option maxHeartbeats 4000000 in
theorem sign_n (b : Bool) (n s : Int) (w : World) (hn0 : 0 ≤ n) (hn : n < MM) : Calls Try.prog 49 #[dc b n s] w fun e w' => e = .returned (.int .i64 (sg b n)) ∧ Mo w w' := by
  have q4 := eq4
  have z4 := zb hn0 hn
  cases hz : decide (n = 0) <;> cases hb : b
  all_goals
    rw [hz] at z4
    have hz2 : Hid _ := hz
    clear hz
    go_enter Try.func49, Try.ntmps49
    go_wp2
    go_ret
    exact ⟨by have := hz2.out; simp at this; simp [sg, this], (Mo.refl _).alloc _ _⟩
end Go.Proofs.Ythpekbohmfmffaa
