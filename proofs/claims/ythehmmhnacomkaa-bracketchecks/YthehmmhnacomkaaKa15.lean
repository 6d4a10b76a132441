/-
  A part of the proof.
-/
import Derived.Test.YthehmmhnacomkaaKa9
import Derived.Test.YthehmmhnacomkaaKa8
import Derived.Test.YthehmmhnacomkaaKa5
import Derived.Test.YthehmmhnacomkaaKa3
import Derived.Test.YthehmmhnacomkaaKa1
import Derived.Test.YthehmmhnacomkaaProg
import Derived.WalkKit
import Derived.WalkSpells
import Derived.Handy
import Derived.BigQuiet
import Derived.Deep.RegionHeld3
import Derived.Test.YthehmmhnacomkaaKa4
import Derived.Shelf.Small.Bits
import Derived.Shelf.Strconv.Itoa0
import Derived.Shelf.Bits.Mul64
import Derived.Deep.CutBlock
import Derived.Deep.CutRange
import Derived.Test.YthehmmhnacomkaaKa7
import Derived.Test.YthehmmhnacomkaaKa6
import Derived.ChangeKeysEq
import Derived.ScopeJumps
import Derived.WalkMore
import Derived.Laws.StructEq
import Derived.Test.YthehmmhnacomkaaKa14
import Derived.Test.YthehmmhnacomkaaKa11
import Derived.Test.YthehmmhnacomkaaKa10
import Derived.Test.YthehmmhnacomkaaKa2
import Derived.RegionTactic
import Derived.Deep.MidRow
import Derived.BigCall
import Derived.Test.YthehmmhnacomkaaKa13
import Derived.Test.YthehmmhnacomkaaKa12
namespace Go.Proofs.Ythehmmhnacomkaa
open Go.RowKit
set_option maxHeartbeats 2000000 in
theorem rcheck_n (b : Bool) (n s : Int) (w : World) (hn0 : 0 ≤ n) (hn : n < MM) : Calls Try.prog 23 #[dc b n s] w fun e w' => e = .returned (.int .i64 (ck b n s)) ∧ Mo w w' := by
 have q4 := eq4
 have z4 := zb hn0 hn
 by_cases h1 : s < 0
 ·have d1 : decide (s < 0) = true := decide_eq_true h1
  have e : Hid (ck b n s = 20) := by show _ = _; unfold ck sc; rw [decide_eq_false (p := 0 ≤ s) (by omega)]; rfl
  clear h1
  go_enter Try.func23, Try.ntmps23
  go_wp2
  go_ret
  exact ⟨by rw [e.out]; rfl, (Mo.refl _).alloc _ _⟩
 ·by_cases h2 : s > 18
  ·have d1 : decide (s < 0) = false := decide_eq_false h1
   have d2 : decide (s > 18) = true := decide_eq_true h2
   have e : Hid (ck b n s = 20) := by show _ = _; unfold ck sc; rw [decide_eq_false (p := s ≤ 18) (by omega)]; simp
   clear h1 h2
   go_enter Try.func23, Try.ntmps23
   go_wp2
   go_ret
   exact ⟨by rw [e.out]; rfl, (Mo.refl _).alloc _ _⟩
  ·have d1 : decide (s < 0) = false := decide_eq_false h1
   have d2 : decide (s > 18) = false := decide_eq_false h2
   have e : Hid (sc s = true) := by show _ = _; unfold sc; rw [decide_eq_true (p := 0 ≤ s) (by omega), decide_eq_true (p := s ≤ 18) (by omega)]; rfl
   clear h1 h2
   cases hb : b <;> cases hz : decide (n = 0)
   all_goals
    rw [hz] at z4
    have HZ : Hid _ := hz
    clear hz
    go_enter Try.func23, Try.ntmps23
    go_wp2
    go_ret
    exact ⟨by rw [ck, e.out, HZ.out]; rfl, (Mo.refl _).alloc _ _⟩
theorem rcheck_ok (b : Bool) (n s : Int) (w : World) (hn0 : 0 ≤ n) (hn : n < MM) (h : ck b n s = 0) : Calls Try.prog 23 #[dc b n s] w fun e w' => e = .returned (.int .i64 0) ∧ Mo w w' := by
 have := rcheck_n b n s w hn0 hn
 rw [h] at this
 exact this
set_option maxHeartbeats 4000000 in
theorem rboth_ok (b : Bool) (n s : Int) (c : Bool) (m t : Int) (w : World) (hn0 : 0 ≤ n) (hn : n < MM) (hm0 : 0 ≤ m) (hm : m < MM) (h1 : ck b n s = 0) (h2 : ck c m t = 0) :
  Calls Try.prog 40 #[dc b n s, dc c m t] w fun e w' => e = .returned (.int .i64 0) ∧ Mo w w' := by
 go_enter Try.func40, Try.ntmps40
 go_wp2_with fail
 refine (rcheck_ok b n s _ hn0 hn h1).mono ?_
 rintro e w1 ⟨rfl, hm1⟩
 have mz : Mo w w1 := Mo.trans (by repeat (first | with_reducible exact Mo.refl _ | with_reducible apply Mo.drew | with_reducible apply Mo.alloc)) hm1
 have M := mz
 have Qa : AtD w1 (w.heap.size) b n s := AtD.mo ⟨by simp [go_sem], fun o => by simp [go_sem], by simp <;> omega⟩ hm1
 have Qb : AtD w1 (w.heap.size + 1) c m t := AtD.mo ⟨by simp [go_sem], fun o => by simp [go_sem], by simp <;> omega⟩ hm1
 clear hm1 mz
 have Oa := Qa
 obtain ⟨⟨ca0, ca1, ca2, ca3, ca4, ca5⟩, fa, sa⟩ := Oa
 have fa := fun o => fa o
 have sxa : w.heap.size < w1.heap.size + 1 := by omega
 have sya : w.heap.size < w1.heap.size + 1 + 1 := by omega
 have Ob := Qb
 obtain ⟨⟨cb0, cb1, cb2, cb3, cb4, cb5⟩, fb, sb⟩ := Ob
 have fb := fun o => fb o
 have sxb : w.heap.size + 1 < w1.heap.size + 1 := by omega
 have syb : w.heap.size + 1 < w1.heap.size + 1 + 1 := by omega
 go_wp2_with fail
 refine (rcheck_ok c m t _ hm0 hm h2).mono ?_
 rintro e w2 ⟨rfl, hm2⟩
 have mz : Mo w1 w2 := Mo.trans (by repeat (first | with_reducible exact Mo.refl _ | with_reducible apply Mo.drew | with_reducible apply Mo.alloc)) hm2
 clear ca0 ca1 ca2 ca3 ca4 ca5 fa sa sxa sya cb0 cb1 cb2 cb3 cb4 cb5 fb sb sxb syb
 have Qa := Qa.mo mz
 have Qb := Qb.mo mz
 have M := M.trans mz
 clear hm2 mz
 have Oa := Qa
 obtain ⟨⟨ca0, ca1, ca2, ca3, ca4, ca5⟩, fa, sa⟩ := Oa
 have fa := fun o => fa o
 have sxa : w.heap.size < w2.heap.size + 1 := by omega
 have sya : w.heap.size < w2.heap.size + 1 + 1 := by omega
 have Ob := Qb
 obtain ⟨⟨cb0, cb1, cb2, cb3, cb4, cb5⟩, fb, sb⟩ := Ob
 have fb := fun o => fb o
 have sxb : w.heap.size + 1 < w2.heap.size + 1 := by omega
 have syb : w.heap.size + 1 < w2.heap.size + 1 + 1 := by omega
 go_wp2
 go_ret
 exact ⟨rfl, M⟩
set_option maxHeartbeats 4000000 in
theorem shift_n (n : Int) (k : Nat) (w : World) (hn0 : 0 ≤ n) (hn : n < MM) (hk : k ≤ 77) :
  Calls Try.prog 41 #[nv n, .int .i64 (k : Int)] w fun e w' => e = .returned (dw (n * 10 ^ k)) ∧ Mo w w' := by
 have t := pow_lt k hk
 have hten : ∀ w, Calls Try.prog 61 #[.int .i64 (k : Int)] w fun e w' => e = .returned (.tuple #[nv (10 ^ k), .bool true]) ∧ Mo w w' := fun w => rten_yes k w hk
 generalize (10 : Int) ^ k = T at *
 go_enter Try.func41, Try.ntmps41
 go_wp2_with fail
 refine (hten _).mono ?_
 rintro e w1 ⟨rfl, hm1⟩
 have mz : Mo w w1 := Mo.trans (by repeat (first | with_reducible exact Mo.refl _ | with_reducible apply Mo.drew | with_reducible apply Mo.alloc)) hm1
 have M := mz
 have Qn : AtN w1 (w.heap.size) n := AtN.mo ⟨by simp [At4, go_sem], fun o => by simp [go_sem], by simp <;> omega⟩ hm1
 have Qr : AtW w1 (w.heap.size + 1) 0 := AtW.mo ⟨by simp [go_sem, zl0, zl1, zl2, zl3], fun o => by simp [go_sem], by simp <;> omega⟩ hm1
 clear hm1 mz
 have On := Qn
 obtain ⟨⟨cn0, cn1, cn2, cn3⟩, fn, sn⟩ := On
 have fn := fun o => fn o
 have sxn : w.heap.size < w1.heap.size + 1 := by omega
 have syn : w.heap.size < w1.heap.size + 1 + 1 := by omega
 have Or := Qr
 obtain ⟨⟨cr0, cr1, cr2, cr3, cr4, cr5, cr6, cr7⟩, fr, sr⟩ := Or
 have fr := fun o => fr o
 have sxr : w.heap.size + 1 < w1.heap.size + 1 := by omega
 have syr : w.heap.size + 1 < w1.heap.size + 1 + 1 := by omega
 go_wp2_with fail
 refine (rmul_n n T _ hn0 hn (by omega) t.2).mono ?_
 rintro e w2 ⟨rfl, hm2⟩
 have mz : Mo w1 w2 := Mo.trans (by repeat (first | with_reducible exact Mo.refl _ | with_reducible apply Mo.drew | with_reducible apply Mo.alloc)) hm2
 have zw1n := sn
 have zw1r := sr
 clear cn0 cn1 cn2 cn3 fn sn sxn syn cr0 cr1 cr2 cr3 cr4 cr5 cr6 cr7 fr sr sxr syr
 have Qn := Qn.mo mz
 have Qr := Qr.mo mz
 have M := M.trans mz
 clear hm2 mz
 have On := Qn
 obtain ⟨⟨cn0, cn1, cn2, cn3⟩, fn, sn⟩ := On
 have fn := fun o => fn o
 have sxn : w.heap.size < w2.heap.size + 1 := by omega
 have syn : w.heap.size < w2.heap.size + 1 + 1 := by omega
 have Or := Qr
 obtain ⟨⟨cr0, cr1, cr2, cr3, cr4, cr5, cr6, cr7⟩, fr, sr⟩ := Or
 have fr := fun o => fr o
 have sxr : w.heap.size + 1 < w2.heap.size + 1 := by omega
 have syr : w.heap.size + 1 < w2.heap.size + 1 + 1 := by omega
 have a : Mo w2 ((((w2).alloc (.cells #[.int .u64 (l0 (n * T / MM)), .int .u64 (l1 (n * T / MM)), .int .u64 (l2 (n * T / MM)), .int .u64 (l3 (n * T / MM))] 31))).alloc (.cells #[.int .u64 (l0 (n * T)), .int .u64 (l1 (n * T)), .int .u64 (l2 (n * T)), .int .u64 (l3 (n * T))] 31)) := by repeat (first | with_reducible exact Mo.refl _ | with_reducible apply Mo.alloc)
 have zW0n := sn
 have zW0r := sr
 clear cn0 cn1 cn2 cn3 fn sn sxn syn cr0 cr1 cr2 cr3 cr4 cr5 cr6 cr7 fr sr sxr syr
 have Qn := Qn.mo a
 have Qr := Qr.mo a
 have M := M.trans a
 have Qh : AtN ((((w2).alloc (.cells #[.int .u64 (l0 (n * T / MM)), .int .u64 (l1 (n * T / MM)), .int .u64 (l2 (n * T / MM)), .int .u64 (l3 (n * T / MM))] 31))).alloc (.cells #[.int .u64 (l0 (n * T)), .int .u64 (l1 (n * T)), .int .u64 (l2 (n * T)), .int .u64 (l3 (n * T))] 31)) (w2.heap.size) (n * T / MM) := ⟨by simp [At4, go_sem], fun o => by simp [go_sem], by simp <;> omega⟩
 have Ql : AtN ((((w2).alloc (.cells #[.int .u64 (l0 (n * T / MM)), .int .u64 (l1 (n * T / MM)), .int .u64 (l2 (n * T / MM)), .int .u64 (l3 (n * T / MM))] 31))).alloc (.cells #[.int .u64 (l0 (n * T)), .int .u64 (l1 (n * T)), .int .u64 (l2 (n * T)), .int .u64 (l3 (n * T))] 31)) (w2.heap.size + 1) (n * T) := ⟨by simp [At4, go_sem], fun o => by simp [go_sem], by simp <;> omega⟩
 clear a
 go_upto_region 3 with fail
 generalize ((((w2).alloc (.cells #[.int .u64 (l0 (n * T / MM)), .int .u64 (l1 (n * T / MM)), .int .u64 (l2 (n * T / MM)), .int .u64 (l3 (n * T / MM))] 31))).alloc (.cells #[.int .u64 (l0 (n * T)), .int .u64 (l1 (n * T)), .int .u64 (l2 (n * T)), .int .u64 (l3 (n * T))] 31)) = W0 at *
 have On := Qn
 obtain ⟨⟨cn0, cn1, cn2, cn3⟩, fn, sn⟩ := On
 have fn := fun o => fn o
 have sxn : w.heap.size < W0.heap.size + 1 := by omega
 have syn : w.heap.size < W0.heap.size + 1 + 1 := by omega
 have Or := Qr
 obtain ⟨⟨cr0, cr1, cr2, cr3, cr4, cr5, cr6, cr7⟩, fr, sr⟩ := Or
 have fr := fun o => fr o
 have sxr : w.heap.size + 1 < W0.heap.size + 1 := by omega
 have syr : w.heap.size + 1 < W0.heap.size + 1 + 1 := by omega
 have Oh := Qh
 obtain ⟨⟨ch0, ch1, ch2, ch3⟩, fh, sh⟩ := Oh
 have fh := fun o => fh o
 have sxh : w2.heap.size < W0.heap.size + 1 := by omega
 have syh : w2.heap.size < W0.heap.size + 1 + 1 := by omega
 have Ol := Ql
 obtain ⟨⟨cl0, cl1, cl2, cl3⟩, fl, sl⟩ := Ol
 have fl := fun o => fl o
 have sxl : w2.heap.size + 1 < W0.heap.size + 1 := by omega
 have syl : w2.heap.size + 1 < W0.heap.size + 1 + 1 := by omega
 go_wp2
 refine bodyPost_ret (v := dw (n * T)) (by simp [results, Try.results41, go_sem, *]) rfl ?_
 refine ⟨rfl, ?_⟩
 repeat (first | with_reducible exact M | with_reducible exact Mo.refl _ | with_reducible apply Mo.drew | with_reducible apply Mo.drewN | with_reducible apply Mo.alloc | with_reducible refine Mo.setCell ?_ (by simp <;> omega) _)
end Go.Proofs.Ythehmmhnacomkaa

namespace Go.Proofs.Ythehmmhnacomkaa
open Go.RowKit
abbrev dcl (b : Bool) (n s : Int) : List Value := [.bool b, .int .u64 (l0 n), .int .u64 (l1 n), .int .u64 (l2 n), .int .u64 (l3 n), .int .i64 s]
abbrev dcr (b : Bool) (n s : Int) : Array Value := #[.bool b, .int .u64 (l0 n), .int .u64 (l1 n), .int .u64 (l2 n), .int .u64 (l3 n), .int .i64 s]
theorem Ds.two {sp : List Sp} {f : Nat → Value} {w : World} (i j : Nat) (h : ∀ q, spNew (spAt sp q) = true → q = i ∨ q = j) (h1 : ∀ k, f i = pt k 0 → k < w.heap.size) (h2 : ∀ k, f j = pt k 0 → k < w.heap.size) (h3 : ∀ k, f i = pt k 0 → f j ≠ pt k 0) : Ds sp f w := by
 refine ⟨fun q hq k hk => ?_, fun q r hq hr hne k hk hk2 => ?_⟩
 ·rcases h q hq with rfl | rfl
  ·exact h1 k hk
  ·exact h2 k hk
 ·rcases h q hq with rfl | rfl <;> rcases h r hr with rfl | rfl
  ·exact hne rfl
  ·exact h3 k hk hk2
  ·exact h3 k hk2 hk
  ·exact hne rfl
end Go.Proofs.Ythehmmhnacomkaa

namespace Go.Proofs.Ythehmmhnacomkaa
open Go.RowKit
theorem rcmp_m (A B : Int) (w : World) : Calls Try.prog 63 #[nv A, nv B] w fun e w' => e = .returned (.int .i64 (cm (A % MM) (B % MM))) ∧ Mo w w' := by
 have h := cmp16_any (l0 A) (l1 A) (l2 A) (l3 A) (l0 B) (l1 B) (l2 B) (l3 B) w (u4_lb A) (u4_lb B)
 rw [vl_nv, vl_nv] at h
 exact h
set_option maxHeartbeats 4000000 in
theorem rcmpw_n (X Y : Int) (w : World) (hX0 : 0 ≤ X) (hX : X < MM * MM) (hY0 : 0 ≤ Y) (hY : Y < MM * MM) :
  Calls Try.prog 42 #[dw X, dw Y] w fun e w' => e = .returned (.int .i64 (cm X Y)) ∧ Mo w w' := by
 have p : (0 : Int) < MM := by decide
 have a1 : X / MM % MM = X / MM := Int.emod_eq_of_lt (Int.ediv_nonneg hX0 (by omega)) (Int.ediv_lt_of_lt_mul p hX)
 have b1 : Y / MM % MM = Y / MM := Int.emod_eq_of_lt (Int.ediv_nonneg hY0 (by omega)) (Int.ediv_lt_of_lt_mul p hY)
 have A1 : Hid _ := a1
 have B1 : Hid _ := b1
 have e : Hid _ := cm_wide (X := X) (Y := Y)
 clear a1 b1 p
 go_enter Try.func42, Try.ntmps42
 go_wp2_with fail
 refine (rcmp_m (X / MM) (Y / MM) _).mono ?_
 rintro e w1 ⟨rfl, hm1⟩
 rw [A1.out, B1.out]
 have mz : Mo w w1 := Mo.trans (by repeat (first | with_reducible exact Mo.refl _ | with_reducible apply Mo.drew | with_reducible apply Mo.alloc)) hm1
 have M := mz
 have Qx : AtW w1 (w.heap.size) X := AtW.mo ⟨by simp [go_sem], fun o => by simp [go_sem], by simp <;> omega⟩ hm1
 have Qy : AtW w1 (w.heap.size + 1) Y := AtW.mo ⟨by simp [go_sem], fun o => by simp [go_sem], by simp <;> omega⟩ hm1
 clear hm1 mz
 have Ox := Qx
 obtain ⟨⟨cx0, cx1, cx2, cx3, cx4, cx5, cx6, cx7⟩, fx, sx⟩ := Ox
 have fx := fun o => fx o
 have sxx : w.heap.size < w1.heap.size + 1 := by omega
 have syx : w.heap.size < w1.heap.size + 1 + 1 := by omega
 have Oy := Qy
 obtain ⟨⟨cy0, cy1, cy2, cy3, cy4, cy5, cy6, cy7⟩, fy, sy⟩ := Oy
 have fy := fun o => fy o
 have sxy : w.heap.size + 1 < w1.heap.size + 1 := by omega
 have syy : w.heap.size + 1 < w1.heap.size + 1 + 1 := by omega
 by_cases hz : cm (X / MM) (Y / MM) = 0
 ·have hb : (cm (X / MM) (Y / MM) == 0) = true := by rw [hz]; rfl
  have hb2 : (cm (X / MM) (Y / MM) != 0) = false := by simp [hz]
  have e2 := e.out
  rw [if_pos hz] at e2
  have E2 : Hid _ := e2
  clear e2 hz
  go_wp2_with fail
  refine (rcmp_m X Y _).mono ?_
  rintro e w2 ⟨rfl, hm2⟩
  have mz : Mo w1 w2 := Mo.trans (by repeat (first | with_reducible exact Mo.refl _ | with_reducible apply Mo.drew | with_reducible apply Mo.alloc)) hm2
  have zw1x := sx
  have zw1y := sy
  clear cx0 cx1 cx2 cx3 cx4 cx5 cx6 cx7 fx sx sxx syx cy0 cy1 cy2 cy3 cy4 cy5 cy6 cy7 fy sy sxy syy
  have Qx := Qx.mo mz
  have Qy := Qy.mo mz
  have M := M.trans mz
  clear hm2 mz
  have Ox := Qx
  obtain ⟨⟨cx0, cx1, cx2, cx3, cx4, cx5, cx6, cx7⟩, fx, sx⟩ := Ox
  have fx := fun o => fx o
  have sxx : w.heap.size < w2.heap.size + 1 := by omega
  have syx : w.heap.size < w2.heap.size + 1 + 1 := by omega
  have Oy := Qy
  obtain ⟨⟨cy0, cy1, cy2, cy3, cy4, cy5, cy6, cy7⟩, fy, sy⟩ := Oy
  have fy := fun o => fy o
  have sxy : w.heap.size + 1 < w2.heap.size + 1 := by omega
  have syy : w.heap.size + 1 < w2.heap.size + 1 + 1 := by omega
  go_wp2
  go_ret
  exact ⟨by rw [E2.out]; rfl, M⟩
 ·have hb : (cm (X / MM) (Y / MM) == 0) = false := by simp [hz]
  have hb2 : (cm (X / MM) (Y / MM) != 0) = true := by simp [hz]
  have e2 := e.out
  rw [if_neg hz] at e2
  have E2 : Hid _ := e2
  clear e2 hz
  go_wp2
  go_ret
  exact ⟨by rw [E2.out]; rfl, M⟩
end Go.Proofs.Ythehmmhnacomkaa

