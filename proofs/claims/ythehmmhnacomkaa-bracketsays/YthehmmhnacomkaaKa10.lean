/-
  A part of the proof.
-/
import Derived.Test.YthehmmhnacomkaaKa9
import Derived.Test.YthehmmhnacomkaaKa8
import Derived.Test.YthehmmhnacomkaaKa5
import Derived.Test.YthehmmhnacomkaaKa3
import Derived.Test.YthehmmhnacomkaaKa1
import Derived.Test.YthehmmhnacomkaaProg
import Derived.WalkKit
import Derived.WalkSpells
import Derived.Handy
import Derived.BigQuiet
import Derived.Deep.RegionHeld3
import Derived.Test.YthehmmhnacomkaaKa4
import Derived.Shelf.Small.Bits
import Derived.Shelf.Strconv.Itoa0
import Derived.Shelf.Bits.Mul64
import Derived.Deep.CutBlock
import Derived.Deep.CutRange
import Derived.Test.YthehmmhnacomkaaKa7
import Derived.Test.YthehmmhnacomkaaKa6
import Derived.ChangeKeysEq
import Derived.ScopeJumps
import Derived.WalkMore
import Derived.Laws.StructEq
import Derived.Deep.MidRow
import Derived.Test.YthehmmhnacomkaaKa2
import Derived.RegionTactic
import Derived.BigCall
namespace Go.Proofs.Ythehmmhnacomkaa
open Go.RowKit
def dwa (X : Int) : Array Value := #[.int .u64 (l0 (X / MM)), .int .u64 (l1 (X / MM)), .int .u64 (l2 (X / MM)), .int .u64 (l3 (X / MM)), .int .u64 (l0 X), .int .u64 (l1 X), .int .u64 (l2 X), .int .u64 (l3 X)]
abbrev dx (X : Int) : Value := .agg (dwa X)
theorem dwa_size (X : Int) : (dwa X).size = 8 := rfl
theorem dwa_len (X : Int) : (dwa X).toList.length = 8 := rfl
def AtX (w : World) (k : Nat) (X : Int) : Prop := w.rangeAt k 0 (dwa X).toList ∧ w.there k 0 8 ∧ k < w.heap.size
theorem Mo.there {w w' : World} {k n : Nat} (m : Mo w w') (h : w.there k 0 n) (hk : k < w.heap.size) : w'.there k 0 n := fun j hj => by
 rw [m.cell k _ hk, m.2]; exact h j hj
theorem AtX.mo {w w' : World} {k : Nat} {X : Int} (h : AtX w k X) (m : Mo w w') : AtX w' k X :=
 ⟨fun j v hv => (m.cell k _ h.2.2).trans (h.1 j v hv), m.there h.2.1 h.2.2, Nat.lt_of_lt_of_le h.2.2 m.size⟩
theorem size_setCells (k : Nat) : ∀ (l : List Value) (o : Nat) (w : World), (w.setCells k o l).heap.size = w.heap.size
 | [], _, _ => rfl
 | v :: r, o, w => by rw [World.setCells, size_setCells k r]; simp [World.setCell]
theorem Mo.setCells {a : World} {k : Nat} (hk : a.heap.size ≤ k) : ∀ (l : List Value) (o : Nat) (b : World), Mo a b → Mo a (b.setCells k o l)
 | [], _, _, h => h
 | v :: r, o, b, h => by rw [World.setCells]; exact Mo.setCells hk r (o + 1) _ (h.setCell hk v)
theorem AtX.same {w : World} {k : Nat} (X : Int) (h : w.there k 0 8) (hk : k < w.heap.size) : AtX (w.setCells k 0 (dwa X).toList) k X :=
 ⟨World.rangeAt_setCells_same w k 0 _ (by rw [dwa_len]; exact h), World.there_setCells h k 0 _, by rw [size_setCells]; exact hk⟩
theorem AtX.other {w : World} {k j : Nat} {X : Int} (h : AtX w j X) (hk : j ≠ k) (l : List Value) : AtX (w.setCells k 0 l) j X :=
 ⟨World.rangeAt_setCells_apart h.1 k 0 l (Or.inl hk), World.there_setCells h.2.1 k 0 _, by rw [size_setCells]; exact h.2.2⟩
theorem AtD.other {w : World} {k j : Nat} {b : Bool} {n s : Int} (h : AtD w j b n s) (hk : j ≠ k) (l : List Value) : AtD (w.setCells k 0 l) j b n s := by
 obtain ⟨⟨a0, a1, a2, a3, a4, a5⟩, f, z⟩ := h
 have e : ∀ o, (w.setCells k 0 l).cell? ⟨j, o, none⟩ = w.cell? ⟨j, o, none⟩ := fun o => World.cell?_setCells_out k l 0 w _ (fun hb _ => absurd hb hk)
 exact ⟨by simp only [e]; exact ⟨a0, a1, a2, a3, a4, a5⟩, fun o => by rw [World.frozen?_setCells]; exact f o, by rw [size_setCells]; exact z⟩
theorem there_new (w : World) : (w.alloc (.cells #[.int .u64 0, .int .u64 0, .int .u64 0, .int .u64 0, .int .u64 0, .int .u64 0, .int .u64 0, .int .u64 0] 74)).there w.heap.size 0 8 := fun j hj => by
 have hq : j = 0 ∨ j = 1 ∨ j = 2 ∨ j = 3 ∨ j = 4 ∨ j = 5 ∨ j = 6 ∨ j = 7 := by omega
 rcases hq with rfl | rfl | rfl | rfl | rfl | rfl | rfl | rfl <;> simp [go_sem]
theorem st81 (w : World) (k : Nat) (X : Int) (h : w.there k 0 8) : (storeCells ⟨k, 0, none⟩ (dwa X).toList 0).run Try.prog w = .ok () (w.setCells k 0 (dwa X).toList) := by
 have hh := run_storeAt_mid (P := Try.prog) w k 0 74 (dwa X) (by rw [dwa_size]; exact h) (by rw [dwa_size]; kernel_rfl) (by
  rw [Array.all_eq_true_iff_forall_mem]; intro v hv; simp [dwa] at hv; rcases hv with rfl | rfl | rfl | rfl | rfl | rfl | rfl | rfl <;> rfl)
 have e : (Instr.storeAt 74 (.pointer (some ⟨k, 0, none⟩)) (.agg (dwa X))).run Try.prog w = (storeCells ⟨k, 0, none⟩ (dwa X).toList 0).run Try.prog w := by
  simp [Instr.storeAt, Instr.sureAddr, storeVar, Sem.run_bind, go_sem, Value.cells, dwa_size]
 rw [← e]; exact hh
theorem ld81 (w : World) (k : Nat) (X : Int) (h : w.rangeAt k 0 (dwa X).toList) : (loadCellsFrom ⟨k, 0, none⟩ 0 8 #[]).run Try.prog w = .ok (dwa X) w := by
 have := run_loadCells_list (P := Try.prog) w ⟨k, 0, none⟩ (dwa X).toList (fun j v hv => by rw [Addr.add_mid]; exact h j v hv)
 simpa [loadCells, dwa_len, dwa_size] using this
theorem lift_x (b : Bool) (n s S : Int) (k : Nat) (w : World) (hn0 : 0 ≤ n) (hn : n < MM) (hk : S - s = (k : Int)) (hk7 : k ≤ 77) :
  Calls Try.prog 48 #[dc b n s, .int .i64 S] w fun e w' => e = .returned (dx (n * 10 ^ k)) ∧ Mo w w' := lift_n b n s S k w hn0 hn hk hk7
theorem addDouble_x (X Y : Int) (w : World) (hX0 : 0 ≤ X) (hX : X < MM * MM) (hY0 : 0 ≤ Y) (hY : Y < MM * MM) :
  Calls Try.prog 73 #[dx X, dx Y] w fun e w' => e = .returned (dx (X + Y)) ∧ Mo w w' := addDouble_n X Y w hX0 hX hY0 hY
theorem subDouble_x (X Y : Int) (w : World) (hX0 : 0 ≤ X) (hX : X < MM * MM) (hY0 : 0 ≤ Y) (hY : Y < MM * MM) :
  Calls Try.prog 74 #[dx X, dx Y] w fun e w' => e = .returned (dx (X - Y)) ∧ Mo w w' := subDouble_n X Y w hX0 hX hY0 hY
theorem cmpDouble_x (X Y : Int) (w : World) (hX0 : 0 ≤ X) (hX : X < MM * MM) (hY0 : 0 ≤ Y) (hY : Y < MM * MM) :
  Calls Try.prog 47 #[dx X, dx Y] w fun e w' => e = .returned (.int .i64 (cm X Y)) ∧ Mo w w' := cmpDouble_n X Y w hX0 hX hY0 hY
theorem mulDouble_x (A B : Int) (w : World) (hA0 : 0 ≤ A) (hAM : A < MM) (hB0 : 0 ≤ B) (hBM : B < MM) :
  Calls Try.prog 67 #[nv A, nv B] w fun e w' => e = .returned (dx (A * B)) ∧ Mo w w' := mulDouble_n A B w hA0 hAM hB0 hBM
theorem fit_x (b : Bool) (X s v : Int) (w : World) (hX : X = ab v) (hX2 : X < MM * MM) (hb : X ≠ 0 → b = decide (v < 0)) :
  Calls Try.prog 72 #[.bool b, dx X, .int .i64 s] w fun e w' => e = .returned (fz v s) ∧ Mo w w' := fit_z b X s v w hX hX2 hb
end Go.Proofs.Ythehmmhnacomkaa

namespace Go.Proofs.Ythehmmhnacomkaa
theorem sz24 : (Try.prog.info? 31).map (·.size) = some 4 := by kernel_rfl
theorem sz40 : (Try.prog.info? 33).map (·.size) = some 6 := by kernel_rfl
theorem sz81 : (Try.prog.info? 74).map (·.size) = some 8 := by kernel_rfl
theorem sz87 : (Try.prog.info? 65).map (·.size) = some 8 := by kernel_rfl
theorem max_run (ρ : Operand → Value) (x y : Operand) (a b : Int) (hx : ρ x = .int .i64 a) (hy : ρ y = .int .i64 b) (dst : Option Tmp) (type : TypeId) (pos : String) (after : Array Edge) (guard : Option (Nat × Bool)) (w : World) : (execOp ρ { dst, op := .call { callee := .builtin .max, args := #[x, y], argTypes := #[3, 3] }, type, pos, after, guard }).run Try.prog w = .ok (.value (.int .i64 (max a b))) w := by
 simp [go_sem, hx, hy]
end Go.Proofs.Ythehmmhnacomkaa

namespace Go.Proofs.Ythehmmhnacomkaa
open Go.RowKit
theorem nan_n (a : Int) (w : World) : Calls Try.prog 65 #[.int .i64 a] w fun e w' => e = .returned (.bool false) ∧ Mo w w' := by
 go_enter Try.func65, Try.ntmps65
 go_wp2
 go_ret
 exact ⟨by simp, Mo.refl _⟩
set_option maxHeartbeats 4000000 in
theorem compare_n (a b : Int) (w : World) : Calls Try.prog 45 #[.int .i64 a, .int .i64 b] w fun e w' => e = .returned (.int .i64 (cm a b)) ∧ Mo w w' := by
 have hc : (a < b ∧ cm a b = -1) ∨ (¬ a < b ∧ b < a ∧ cm a b = 1) ∨ (¬ a < b ∧ ¬ b < a ∧ cm a b = 0) := by
  unfold cm
  by_cases h : a < b
  ·exact Or.inl ⟨h, if_pos h⟩
  ·by_cases h2 : b < a
   ·exact Or.inr (Or.inl ⟨h, h2, by rw [if_neg h, if_pos h2]⟩)
   ·exact Or.inr (Or.inr ⟨h, h2, by rw [if_neg h, if_neg h2]⟩)
 rcases hc with ⟨h1, h2⟩ | ⟨h1, h2, h3⟩ | ⟨h1, h2, h3⟩
 ·have d1 : decide (a < b) = true := decide_eq_true h1
  rw [h2]
  clear h1 h2
  go_enter Try.func45, Try.ntmps45
  go_wp2_with fail
  refine (nan_n a _).mono ?_
  rintro e w1 ⟨rfl, hm1⟩
  have mz : Mo w w1 := Mo.trans (by repeat (first | with_reducible exact Mo.refl _ | with_reducible apply Mo.drew | with_reducible apply Mo.alloc)) hm1
  have M := mz
  clear hm1 mz
  go_wp2_with fail
  refine (nan_n b _).mono ?_
  rintro e w2 ⟨rfl, hm2⟩
  have mz : Mo w1 w2 := Mo.trans (by repeat (first | with_reducible exact Mo.refl _ | with_reducible apply Mo.drew | with_reducible apply Mo.alloc)) hm2
  have M := M.trans mz
  clear hm2 mz
  go_wp2
  go_ret
  exact ⟨rfl, M⟩
 ·have d1 : decide (a < b) = false := decide_eq_false h1
  have d2 : decide (a > b) = true := decide_eq_true h2
  rw [h3]
  clear h1 h2 h3
  go_enter Try.func45, Try.ntmps45
  go_wp2_with fail
  refine (nan_n a _).mono ?_
  rintro e w1 ⟨rfl, hm1⟩
  have mz : Mo w w1 := Mo.trans (by repeat (first | with_reducible exact Mo.refl _ | with_reducible apply Mo.drew | with_reducible apply Mo.alloc)) hm1
  have M := mz
  clear hm1 mz
  go_wp2_with fail
  refine (nan_n b _).mono ?_
  rintro e w2 ⟨rfl, hm2⟩
  have mz : Mo w1 w2 := Mo.trans (by repeat (first | with_reducible exact Mo.refl _ | with_reducible apply Mo.drew | with_reducible apply Mo.alloc)) hm2
  have M := M.trans mz
  clear hm2 mz
  go_wp2
  go_ret
  exact ⟨rfl, M⟩
 ·have d1 : decide (a < b) = false := decide_eq_false h1
  have d2 : decide (a > b) = false := decide_eq_false h2
  rw [h3]
  clear h1 h2 h3
  go_enter Try.func45, Try.ntmps45
  go_wp2_with fail
  refine (nan_n a _).mono ?_
  rintro e w1 ⟨rfl, hm1⟩
  have mz : Mo w w1 := Mo.trans (by repeat (first | with_reducible exact Mo.refl _ | with_reducible apply Mo.drew | with_reducible apply Mo.alloc)) hm1
  have M := mz
  clear hm1 mz
  go_wp2_with fail
  refine (nan_n b _).mono ?_
  rintro e w2 ⟨rfl, hm2⟩
  have mz : Mo w1 w2 := Mo.trans (by repeat (first | with_reducible exact Mo.refl _ | with_reducible apply Mo.drew | with_reducible apply Mo.alloc)) hm2
  have M := M.trans mz
  clear hm2 mz
  go_wp2
  go_ret
  exact ⟨rfl, M⟩
end Go.Proofs.Ythehmmhnacomkaa

namespace Go.Proofs.Ythehmmhnacomkaa
open Go.RowKit
theorem lifted_bd {n : Int} {i : Nat} (h0 : 0 ≤ n) (h : n < MM) (hi : i ≤ 77) : 0 ≤ n * 10 ^ i ∧ n * 10 ^ i < MM * MM := by
 obtain ⟨t0, t1⟩ := ten_bd i hi
 refine ⟨Int.mul_nonneg h0 (by omega), ?_⟩
 have a : n * 10 ^ i ≤ n * MM := Int.mul_le_mul_of_nonneg_left (by omega) h0
 have b : n * MM < MM * MM := Int.mul_lt_mul_of_pos_right h (by decide)
 omega
set_option maxHeartbeats 4000000 in
theorem dcmp_ne (b c : Bool) (n m s t : Int) (w : World) (hn0 : 0 ≤ n) (hn : n < MM) (hm0 : 0 ≤ m) (hm : m < MM) (h1 : ck b n s = 0) (h2 : ck c m t = 0) (ho : cm (sg b n) (sg c m) ≠ 0) :
  Calls Try.prog 27 #[dc b n s, dc c m t] w fun e w' => e = .returned (.int .i64 (cm (sg b n) (sg c m))) ∧ Mo w w' := by
 have hO : (cm (sg b n) (sg c m) == 0) = false := by simp [ho]
 have hO2 : (cm (sg b n) (sg c m) != 0) = true := by simp [ho]
 clear ho
 go_enter Try.func27, Try.ntmps27
 go_wp2_with fail
 refine (both_ok b n s c m t _ hn0 hn hm0 hm h1 h2).mono ?_
 rintro e w1 ⟨rfl, hm1⟩
 have mz : Mo w w1 := Mo.trans (by repeat (first | with_reducible exact Mo.refl _ | with_reducible apply Mo.drew | with_reducible apply Mo.alloc)) hm1
 have M := mz
 have Qa : AtD w1 (w.heap.size) b n s := AtD.mo ⟨by simp [go_sem], fun o => by simp [go_sem], by simp <;> omega⟩ hm1
 have Qb : AtD w1 (w.heap.size + 1) c m t := AtD.mo ⟨by simp [go_sem], fun o => by simp [go_sem], by simp <;> omega⟩ hm1
 clear hm1 mz
 have Oa := Qa
 obtain ⟨⟨ca0, ca1, ca2, ca3, ca4, ca5⟩, fa, sa⟩ := Oa
 have fa := fun o => fa o
 have sxa : w.heap.size < w1.heap.size + 1 := by omega
 have sya : w.heap.size < w1.heap.size + 1 + 1 := by omega
 have Ob := Qb
 obtain ⟨⟨cb0, cb1, cb2, cb3, cb4, cb5⟩, fb, sb⟩ := Ob
 have fb := fun o => fb o
 have sxb : w.heap.size + 1 < w1.heap.size + 1 := by omega
 have syb : w.heap.size + 1 < w1.heap.size + 1 + 1 := by omega
 go_upto_region 3 with fail
 go_cut [5] from 12 to 16 (fun s5 wx => s5 = .int .i64 (cm (sg b n) (sg c m)) ∧ Mo w wx ∧ AtD wx w.heap.size b n s ∧ AtD wx (w.heap.size + 1) c m t)
 case first =>
  go_region_held3 (fun w' => w'.cell? ⟨w.heap.size, 0, none⟩ = some (.bool b) ∧ w'.cell? ⟨w.heap.size, 1, none⟩ = some (.int .u64 (l0 n)) ∧ w'.cell? ⟨w.heap.size, 2, none⟩ = some (.int .u64 (l1 n)) ∧ w'.cell? ⟨w.heap.size, 3, none⟩ = some (.int .u64 (l2 n)) ∧ w'.cell? ⟨w.heap.size, 4, none⟩ = some (.int .u64 (l3 n)) ∧ w'.cell? ⟨w.heap.size, 5, none⟩ = some (.int .i64 s) ∧ w'.cell? ⟨w.heap.size + 1, 0, none⟩ = some (.bool c) ∧ w'.cell? ⟨w.heap.size + 1, 1, none⟩ = some (.int .u64 (l0 m)) ∧ w'.cell? ⟨w.heap.size + 1, 2, none⟩ = some (.int .u64 (l1 m)) ∧ w'.cell? ⟨w.heap.size + 1, 3, none⟩ = some (.int .u64 (l2 m)) ∧ w'.cell? ⟨w.heap.size + 1, 4, none⟩ = some (.int .u64 (l3 m)) ∧ w'.cell? ⟨w.heap.size + 1, 5, none⟩ = some (.int .i64 t)) (simp [go_sem, *])
   (first | (go_at_call 45; refine (compare_n _ _ _).mono ?_; rintro e w5 ⟨rfl, hm5⟩; have m5 : Mo w4 w5 := Mo.trans (by repeat (first | with_reducible exact Mo.refl _ | with_reducible apply Mo.drew | with_reducible apply Mo.alloc)) hm5; have m6 := (m3.trans m4).trans m5; obtain ⟨⟨i0, i1, i2, i3, i4, i5⟩, _, is⟩ := Qa.mo m6; obtain ⟨⟨j0, j1, j2, j3, j4, j5⟩, _, js⟩ := Qb.mo m6) | (go_at_call 46; have m33 := m3; refine (sign_n c m t _ hm0 hm).mono ?_; rintro e w4 ⟨rfl, hm4⟩; have m4 : Mo w3 w4 := Mo.trans (by repeat (first | with_reducible exact Mo.refl _ | with_reducible apply Mo.drew | with_reducible apply Mo.alloc)) hm4; obtain ⟨⟨g0, g1, g2, g3, g4, g5⟩, _, gs⟩ := Qa.mo (m3.trans m4); obtain ⟨⟨k0, k1, k2, k3, k4, k5⟩, _, ks⟩ := Qb.mo (m3.trans m4)) | (go_at_call 46; refine (sign_n b n s _ hn0 hn).mono ?_; rintro e w3 ⟨rfl, hm3⟩; have m3 : Mo w1 w3 := Mo.trans (by repeat (first | with_reducible exact Mo.refl _ | with_reducible apply Mo.drew | with_reducible apply Mo.alloc)) hm3; obtain ⟨⟨e0, e1, e2, e3, e4, e5⟩, _, es⟩ := Qa.mo m3; obtain ⟨⟨f0, f1, f2, f3, f4, f5⟩, _, fs⟩ := Qb.mo m3))
  all_goals
   go_wp2
   go_meet
   case rel => exact ⟨rfl, M.trans m6, Qa.mo m6, Qb.mo m6⟩
 case rest =>
  clear ca0 ca1 ca2 ca3 ca4 ca5 fa sa sxa sya cb0 cb1 cb2 cb3 cb4 cb5 fb sb sxb syb Qa Qb M
  obtain ⟨rfl, M, Qa, Qb⟩ := hcut
  have Oa := Qa
  obtain ⟨⟨ca0, ca1, ca2, ca3, ca4, ca5⟩, fa, sa⟩ := Oa
  have fa := fun o => fa o
  have sxa : w.heap.size < wc.heap.size + 1 := by omega
  have sya : w.heap.size < wc.heap.size + 1 + 1 := by omega
  have Ob := Qb
  obtain ⟨⟨cb0, cb1, cb2, cb3, cb4, cb5⟩, fb, sb⟩ := Ob
  have fb := fun o => fb o
  have sxb : w.heap.size + 1 < wc.heap.size + 1 := by omega
  have syb : w.heap.size + 1 < wc.heap.size + 1 + 1 := by omega
  go_wp2
  go_ret
  exact ⟨rfl, M⟩
set_option maxHeartbeats 4000000 in
theorem dcmp_pos (b c : Bool) (n m s t : Int) (w : World) (hn0 : 0 ≤ n) (hn : n < MM) (hm0 : 0 ≤ m) (hm : m < MM) (h1 : ck b n s = 0) (h2 : ck c m t = 0) (S : Int) (i j : Nat) (hS : max s t = S) (hi : S - s = (i : Int)) (hj : S - t = (j : Int)) (hi7 : i ≤ 18) (hj7 : j ≤ 18) (hb : b = false) (ho : cm (sg b n) (sg c m) = 0) :
  Calls Try.prog 27 #[dc b n s, dc c m t] w fun e w' => e = .returned (.int .i64 (cm (n * 10 ^ i) (m * 10 ^ j))) ∧ Mo w w' := by
 subst hb
 subst hS
 have bX := lifted_bd hn0 hn (show i ≤ 77 by omega)
 have bY := lifted_bd hm0 hm (show j ≤ 77 by omega)
 have HI : Hid _ := hi
 have HJ : Hid _ := hj
 clear hi hj
 have hO : (cm (sg false n) (sg c m) == 0) = true := by simp [ho]
 have hO2 : (cm (sg false n) (sg c m) != 0) = false := by simp [ho]
 clear ho
 go_enter Try.func27, Try.ntmps27
 go_wp2_with fail
 refine (both_ok false n s c m t _ hn0 hn hm0 hm h1 h2).mono ?_
 rintro e w1 ⟨rfl, hm1⟩
 have mz : Mo w w1 := Mo.trans (by repeat (first | with_reducible exact Mo.refl _ | with_reducible apply Mo.drew | with_reducible apply Mo.alloc)) hm1
 have M := mz
 have Qa : AtD w1 (w.heap.size) false n s := AtD.mo ⟨by simp [go_sem], fun o => by simp [go_sem], by simp <;> omega⟩ hm1
 have Qb : AtD w1 (w.heap.size + 1) c m t := AtD.mo ⟨by simp [go_sem], fun o => by simp [go_sem], by simp <;> omega⟩ hm1
 clear hm1 mz
 have Oa := Qa
 obtain ⟨⟨ca0, ca1, ca2, ca3, ca4, ca5⟩, fa, sa⟩ := Oa
 have fa := fun o => fa o
 have sxa : w.heap.size < w1.heap.size + 1 := by omega
 have sya : w.heap.size < w1.heap.size + 1 + 1 := by omega
 have Ob := Qb
 obtain ⟨⟨cb0, cb1, cb2, cb3, cb4, cb5⟩, fb, sb⟩ := Ob
 have fb := fun o => fb o
 have sxb : w.heap.size + 1 < w1.heap.size + 1 := by omega
 have syb : w.heap.size + 1 < w1.heap.size + 1 + 1 := by omega
 go_upto_region 3 with fail
 go_cut [5] from 12 to 16 (fun s5 wx => s5 = .int .i64 (cm (sg false n) (sg c m)) ∧ Mo w wx ∧ AtD wx w.heap.size false n s ∧ AtD wx (w.heap.size + 1) c m t)
 case first =>
  go_region_held3 (fun w' => w'.cell? ⟨w.heap.size, 0, none⟩ = some (.bool false) ∧ w'.cell? ⟨w.heap.size, 1, none⟩ = some (.int .u64 (l0 n)) ∧ w'.cell? ⟨w.heap.size, 2, none⟩ = some (.int .u64 (l1 n)) ∧ w'.cell? ⟨w.heap.size, 3, none⟩ = some (.int .u64 (l2 n)) ∧ w'.cell? ⟨w.heap.size, 4, none⟩ = some (.int .u64 (l3 n)) ∧ w'.cell? ⟨w.heap.size, 5, none⟩ = some (.int .i64 s) ∧ w'.cell? ⟨w.heap.size + 1, 0, none⟩ = some (.bool c) ∧ w'.cell? ⟨w.heap.size + 1, 1, none⟩ = some (.int .u64 (l0 m)) ∧ w'.cell? ⟨w.heap.size + 1, 2, none⟩ = some (.int .u64 (l1 m)) ∧ w'.cell? ⟨w.heap.size + 1, 3, none⟩ = some (.int .u64 (l2 m)) ∧ w'.cell? ⟨w.heap.size + 1, 4, none⟩ = some (.int .u64 (l3 m)) ∧ w'.cell? ⟨w.heap.size + 1, 5, none⟩ = some (.int .i64 t)) (simp [go_sem, *])
   (first | (go_at_call 45; refine (compare_n _ _ _).mono ?_; rintro e w5 ⟨rfl, hm5⟩; have m5 : Mo w4 w5 := Mo.trans (by repeat (first | with_reducible exact Mo.refl _ | with_reducible apply Mo.drew | with_reducible apply Mo.alloc)) hm5; have m6 := (m3.trans m4).trans m5; obtain ⟨⟨i0, i1, i2, i3, i4, i5⟩, _, is⟩ := Qa.mo m6; obtain ⟨⟨j0, j1, j2, j3, j4, j5⟩, _, js⟩ := Qb.mo m6) | (go_at_call 46; have m33 := m3; refine (sign_n c m t _ hm0 hm).mono ?_; rintro e w4 ⟨rfl, hm4⟩; have m4 : Mo w3 w4 := Mo.trans (by repeat (first | with_reducible exact Mo.refl _ | with_reducible apply Mo.drew | with_reducible apply Mo.alloc)) hm4; obtain ⟨⟨g0, g1, g2, g3, g4, g5⟩, _, gs⟩ := Qa.mo (m3.trans m4); obtain ⟨⟨k0, k1, k2, k3, k4, k5⟩, _, ks⟩ := Qb.mo (m3.trans m4)) | (go_at_call 46; refine (sign_n false n s _ hn0 hn).mono ?_; rintro e w3 ⟨rfl, hm3⟩; have m3 : Mo w1 w3 := Mo.trans (by repeat (first | with_reducible exact Mo.refl _ | with_reducible apply Mo.drew | with_reducible apply Mo.alloc)) hm3; obtain ⟨⟨e0, e1, e2, e3, e4, e5⟩, _, es⟩ := Qa.mo m3; obtain ⟨⟨f0, f1, f2, f3, f4, f5⟩, _, fs⟩ := Qb.mo m3))
  all_goals
   go_wp2
   go_meet
   case rel => exact ⟨rfl, M.trans m6, Qa.mo m6, Qb.mo m6⟩
 case rest =>
  clear ca0 ca1 ca2 ca3 ca4 ca5 fa sa sxa sya cb0 cb1 cb2 cb3 cb4 cb5 fb sb sxb syb Qa Qb M
  obtain ⟨rfl, M, Qa, Qb⟩ := hcut
  have Oa := Qa
  obtain ⟨⟨ca0, ca1, ca2, ca3, ca4, ca5⟩, fa, sa⟩ := Oa
  have fa := fun o => fa o
  have sxa : w.heap.size < wc.heap.size + 1 := by omega
  have sya : w.heap.size < wc.heap.size + 1 + 1 := by omega
  have Ob := Qb
  obtain ⟨⟨cb0, cb1, cb2, cb3, cb4, cb5⟩, fb, sb⟩ := Ob
  have fb := fun o => fb o
  have sxb : w.heap.size + 1 < wc.heap.size + 1 := by omega
  have syb : w.heap.size + 1 < wc.heap.size + 1 + 1 := by omega
  go_upto_region 7 with fail
  go_cut [7] from 25 to 31 (fun s7 wx => s7 = .int .i64 (cm (n * 10 ^ i) (m * 10 ^ j)) ∧ Mo w wx ∧ AtD wx w.heap.size false n s)
  case first =>
   go_region_held3 (fun w' => w'.cell? ⟨w.heap.size, 0, none⟩ = some (.bool false) ∧ w'.cell? ⟨w.heap.size, 1, none⟩ = some (.int .u64 (l0 n)) ∧ w'.cell? ⟨w.heap.size, 2, none⟩ = some (.int .u64 (l1 n)) ∧ w'.cell? ⟨w.heap.size, 3, none⟩ = some (.int .u64 (l2 n)) ∧ w'.cell? ⟨w.heap.size, 4, none⟩ = some (.int .u64 (l3 n)) ∧ w'.cell? ⟨w.heap.size, 5, none⟩ = some (.int .i64 s) ∧ w'.cell? ⟨w.heap.size + 1, 0, none⟩ = some (.bool c) ∧ w'.cell? ⟨w.heap.size + 1, 1, none⟩ = some (.int .u64 (l0 m)) ∧ w'.cell? ⟨w.heap.size + 1, 2, none⟩ = some (.int .u64 (l1 m)) ∧ w'.cell? ⟨w.heap.size + 1, 3, none⟩ = some (.int .u64 (l2 m)) ∧ w'.cell? ⟨w.heap.size + 1, 4, none⟩ = some (.int .u64 (l3 m)) ∧ w'.cell? ⟨w.heap.size + 1, 5, none⟩ = some (.int .i64 t)) (simp [go_sem, *])
    (first | (go_at_call 47; refine (cmpDouble_x _ _ _ bX.1 bX.2 bY.1 bY.2).mono ?_; rintro e w9 ⟨rfl, hm9⟩; have m9 : Mo w8 w9 := Mo.trans (by repeat (first | with_reducible exact Mo.refl _ | with_reducible apply Mo.drew | with_reducible apply Mo.alloc)) hm9; have m10 := (m7.trans m8).trans m9; obtain ⟨⟨i0, i1, i2, i3, i4, i5⟩, _, is⟩ := Qa.mo m10; obtain ⟨⟨j0, j1, j2, j3, j4, j5⟩, _, js⟩ := Qb.mo m10) | (go_at_call 48; have m77 := m7; refine (lift_x _ _ _ _ j _ hm0 hm HJ.out (by omega)).mono ?_; rintro e w8 ⟨rfl, hm8⟩; have m8 : Mo w7 w8 := Mo.trans (by repeat (first | with_reducible exact Mo.refl _ | with_reducible apply Mo.drew | with_reducible apply Mo.alloc)) hm8; obtain ⟨⟨g0, g1, g2, g3, g4, g5⟩, _, gs⟩ := Qa.mo (m7.trans m8); obtain ⟨⟨k0, k1, k2, k3, k4, k5⟩, _, ks⟩ := Qb.mo (m7.trans m8)) | (go_at_call 48; refine (lift_x _ _ _ _ i _ hn0 hn HI.out (by omega)).mono ?_; rintro e w7 ⟨rfl, hm7⟩; have m7 : Mo wc w7 := Mo.trans (by repeat (first | with_reducible exact Mo.refl _ | with_reducible apply Mo.drew | with_reducible apply Mo.alloc)) hm7; obtain ⟨⟨e0, e1, e2, e3, e4, e5⟩, _, es⟩ := Qa.mo m7; obtain ⟨⟨f0, f1, f2, f3, f4, f5⟩, _, fs⟩ := Qb.mo m7))
   all_goals
    go_wp2
    go_meet
    case rel => exact ⟨rfl, M.trans m10, Qa.mo m10⟩
  case rest =>
   clear ca0 ca1 ca2 ca3 ca4 ca5 fa sa sxa sya cb0 cb1 cb2 cb3 cb4 cb5 fb sb sxb syb Qa Qb M
   obtain ⟨rfl, M, Qa⟩ := hcut
   have Oa := Qa
   obtain ⟨⟨ca0, ca1, ca2, ca3, ca4, ca5⟩, fa, sa⟩ := Oa
   have fa := fun o => fa o
   have sxa : w.heap.size < wc.heap.size + 1 := by omega
   have sya : w.heap.size < wc.heap.size + 1 + 1 := by omega
   go_wp2
   go_ret
   exact ⟨rfl, M⟩
set_option maxHeartbeats 4000000 in
theorem dcmp_neg (b c : Bool) (n m s t : Int) (w : World) (hn0 : 0 ≤ n) (hn : n < MM) (hm0 : 0 ≤ m) (hm : m < MM) (h1 : ck b n s = 0) (h2 : ck c m t = 0) (S : Int) (i j : Nat) (hS : max s t = S) (hi : S - s = (i : Int)) (hj : S - t = (j : Int)) (hi7 : i ≤ 18) (hj7 : j ≤ 18) (hb : b = true) (ho : cm (sg b n) (sg c m) = 0) :
  Calls Try.prog 27 #[dc b n s, dc c m t] w fun e w' => e = .returned (.int .i64 (-(cm (n * 10 ^ i) (m * 10 ^ j)))) ∧ Mo w w' := by
 subst hb
 subst hS
 have bX := lifted_bd hn0 hn (show i ≤ 77 by omega)
 have bY := lifted_bd hm0 hm (show j ≤ 77 by omega)
 have HI : Hid _ := hi
 have HJ : Hid _ := hj
 clear hi hj
 have wn : IntKind.i64.wrap (-(cm (n * 10 ^ i) (m * 10 ^ j))) = -(cm (n * 10 ^ i) (m * 10 ^ j)) := by unfold cm; split <;> (try split) <;> decide
 have hO : (cm (sg true n) (sg c m) == 0) = true := by simp [ho]
 have hO2 : (cm (sg true n) (sg c m) != 0) = false := by simp [ho]
 clear ho
 go_enter Try.func27, Try.ntmps27
 go_wp2_with fail
 refine (both_ok true n s c m t _ hn0 hn hm0 hm h1 h2).mono ?_
 rintro e w1 ⟨rfl, hm1⟩
 have mz : Mo w w1 := Mo.trans (by repeat (first | with_reducible exact Mo.refl _ | with_reducible apply Mo.drew | with_reducible apply Mo.alloc)) hm1
 have M := mz
 have Qa : AtD w1 (w.heap.size) true n s := AtD.mo ⟨by simp [go_sem], fun o => by simp [go_sem], by simp <;> omega⟩ hm1
 have Qb : AtD w1 (w.heap.size + 1) c m t := AtD.mo ⟨by simp [go_sem], fun o => by simp [go_sem], by simp <;> omega⟩ hm1
 clear hm1 mz
 have Oa := Qa
 obtain ⟨⟨ca0, ca1, ca2, ca3, ca4, ca5⟩, fa, sa⟩ := Oa
 have fa := fun o => fa o
 have sxa : w.heap.size < w1.heap.size + 1 := by omega
 have sya : w.heap.size < w1.heap.size + 1 + 1 := by omega
 have Ob := Qb
 obtain ⟨⟨cb0, cb1, cb2, cb3, cb4, cb5⟩, fb, sb⟩ := Ob
 have fb := fun o => fb o
 have sxb : w.heap.size + 1 < w1.heap.size + 1 := by omega
 have syb : w.heap.size + 1 < w1.heap.size + 1 + 1 := by omega
 go_upto_region 3 with fail
 go_cut [5] from 12 to 16 (fun s5 wx => s5 = .int .i64 (cm (sg true n) (sg c m)) ∧ Mo w wx ∧ AtD wx w.heap.size true n s ∧ AtD wx (w.heap.size + 1) c m t)
 case first =>
  go_region_held3 (fun w' => w'.cell? ⟨w.heap.size, 0, none⟩ = some (.bool true) ∧ w'.cell? ⟨w.heap.size, 1, none⟩ = some (.int .u64 (l0 n)) ∧ w'.cell? ⟨w.heap.size, 2, none⟩ = some (.int .u64 (l1 n)) ∧ w'.cell? ⟨w.heap.size, 3, none⟩ = some (.int .u64 (l2 n)) ∧ w'.cell? ⟨w.heap.size, 4, none⟩ = some (.int .u64 (l3 n)) ∧ w'.cell? ⟨w.heap.size, 5, none⟩ = some (.int .i64 s) ∧ w'.cell? ⟨w.heap.size + 1, 0, none⟩ = some (.bool c) ∧ w'.cell? ⟨w.heap.size + 1, 1, none⟩ = some (.int .u64 (l0 m)) ∧ w'.cell? ⟨w.heap.size + 1, 2, none⟩ = some (.int .u64 (l1 m)) ∧ w'.cell? ⟨w.heap.size + 1, 3, none⟩ = some (.int .u64 (l2 m)) ∧ w'.cell? ⟨w.heap.size + 1, 4, none⟩ = some (.int .u64 (l3 m)) ∧ w'.cell? ⟨w.heap.size + 1, 5, none⟩ = some (.int .i64 t)) (simp [go_sem, *])
   (first | (go_at_call 45; refine (compare_n _ _ _).mono ?_; rintro e w5 ⟨rfl, hm5⟩; have m5 : Mo w4 w5 := Mo.trans (by repeat (first | with_reducible exact Mo.refl _ | with_reducible apply Mo.drew | with_reducible apply Mo.alloc)) hm5; have m6 := (m3.trans m4).trans m5; obtain ⟨⟨i0, i1, i2, i3, i4, i5⟩, _, is⟩ := Qa.mo m6; obtain ⟨⟨j0, j1, j2, j3, j4, j5⟩, _, js⟩ := Qb.mo m6) | (go_at_call 46; have m33 := m3; refine (sign_n c m t _ hm0 hm).mono ?_; rintro e w4 ⟨rfl, hm4⟩; have m4 : Mo w3 w4 := Mo.trans (by repeat (first | with_reducible exact Mo.refl _ | with_reducible apply Mo.drew | with_reducible apply Mo.alloc)) hm4; obtain ⟨⟨g0, g1, g2, g3, g4, g5⟩, _, gs⟩ := Qa.mo (m3.trans m4); obtain ⟨⟨k0, k1, k2, k3, k4, k5⟩, _, ks⟩ := Qb.mo (m3.trans m4)) | (go_at_call 46; refine (sign_n true n s _ hn0 hn).mono ?_; rintro e w3 ⟨rfl, hm3⟩; have m3 : Mo w1 w3 := Mo.trans (by repeat (first | with_reducible exact Mo.refl _ | with_reducible apply Mo.drew | with_reducible apply Mo.alloc)) hm3; obtain ⟨⟨e0, e1, e2, e3, e4, e5⟩, _, es⟩ := Qa.mo m3; obtain ⟨⟨f0, f1, f2, f3, f4, f5⟩, _, fs⟩ := Qb.mo m3))
  all_goals
   go_wp2
   go_meet
   case rel => exact ⟨rfl, M.trans m6, Qa.mo m6, Qb.mo m6⟩
 case rest =>
  clear ca0 ca1 ca2 ca3 ca4 ca5 fa sa sxa sya cb0 cb1 cb2 cb3 cb4 cb5 fb sb sxb syb Qa Qb M
  obtain ⟨rfl, M, Qa, Qb⟩ := hcut
  have Oa := Qa
  obtain ⟨⟨ca0, ca1, ca2, ca3, ca4, ca5⟩, fa, sa⟩ := Oa
  have fa := fun o => fa o
  have sxa : w.heap.size < wc.heap.size + 1 := by omega
  have sya : w.heap.size < wc.heap.size + 1 + 1 := by omega
  have Ob := Qb
  obtain ⟨⟨cb0, cb1, cb2, cb3, cb4, cb5⟩, fb, sb⟩ := Ob
  have fb := fun o => fb o
  have sxb : w.heap.size + 1 < wc.heap.size + 1 := by omega
  have syb : w.heap.size + 1 < wc.heap.size + 1 + 1 := by omega
  go_upto_region 7 with fail
  go_cut [7] from 25 to 31 (fun s7 wx => s7 = .int .i64 (cm (n * 10 ^ i) (m * 10 ^ j)) ∧ Mo w wx ∧ AtD wx w.heap.size true n s)
  case first =>
   go_region_held3 (fun w' => w'.cell? ⟨w.heap.size, 0, none⟩ = some (.bool true) ∧ w'.cell? ⟨w.heap.size, 1, none⟩ = some (.int .u64 (l0 n)) ∧ w'.cell? ⟨w.heap.size, 2, none⟩ = some (.int .u64 (l1 n)) ∧ w'.cell? ⟨w.heap.size, 3, none⟩ = some (.int .u64 (l2 n)) ∧ w'.cell? ⟨w.heap.size, 4, none⟩ = some (.int .u64 (l3 n)) ∧ w'.cell? ⟨w.heap.size, 5, none⟩ = some (.int .i64 s) ∧ w'.cell? ⟨w.heap.size + 1, 0, none⟩ = some (.bool c) ∧ w'.cell? ⟨w.heap.size + 1, 1, none⟩ = some (.int .u64 (l0 m)) ∧ w'.cell? ⟨w.heap.size + 1, 2, none⟩ = some (.int .u64 (l1 m)) ∧ w'.cell? ⟨w.heap.size + 1, 3, none⟩ = some (.int .u64 (l2 m)) ∧ w'.cell? ⟨w.heap.size + 1, 4, none⟩ = some (.int .u64 (l3 m)) ∧ w'.cell? ⟨w.heap.size + 1, 5, none⟩ = some (.int .i64 t)) (simp [go_sem, *])
    (first | (go_at_call 47; refine (cmpDouble_x _ _ _ bX.1 bX.2 bY.1 bY.2).mono ?_; rintro e w9 ⟨rfl, hm9⟩; have m9 : Mo w8 w9 := Mo.trans (by repeat (first | with_reducible exact Mo.refl _ | with_reducible apply Mo.drew | with_reducible apply Mo.alloc)) hm9; have m10 := (m7.trans m8).trans m9; obtain ⟨⟨i0, i1, i2, i3, i4, i5⟩, _, is⟩ := Qa.mo m10; obtain ⟨⟨j0, j1, j2, j3, j4, j5⟩, _, js⟩ := Qb.mo m10) | (go_at_call 48; have m77 := m7; refine (lift_x _ _ _ _ j _ hm0 hm HJ.out (by omega)).mono ?_; rintro e w8 ⟨rfl, hm8⟩; have m8 : Mo w7 w8 := Mo.trans (by repeat (first | with_reducible exact Mo.refl _ | with_reducible apply Mo.drew | with_reducible apply Mo.alloc)) hm8; obtain ⟨⟨g0, g1, g2, g3, g4, g5⟩, _, gs⟩ := Qa.mo (m7.trans m8); obtain ⟨⟨k0, k1, k2, k3, k4, k5⟩, _, ks⟩ := Qb.mo (m7.trans m8)) | (go_at_call 48; refine (lift_x _ _ _ _ i _ hn0 hn HI.out (by omega)).mono ?_; rintro e w7 ⟨rfl, hm7⟩; have m7 : Mo wc w7 := Mo.trans (by repeat (first | with_reducible exact Mo.refl _ | with_reducible apply Mo.drew | with_reducible apply Mo.alloc)) hm7; obtain ⟨⟨e0, e1, e2, e3, e4, e5⟩, _, es⟩ := Qa.mo m7; obtain ⟨⟨f0, f1, f2, f3, f4, f5⟩, _, fs⟩ := Qb.mo m7))
   all_goals
    go_wp2
    go_meet
    case rel => exact ⟨rfl, M.trans m10, Qa.mo m10⟩
  case rest =>
   clear ca0 ca1 ca2 ca3 ca4 ca5 fa sa sxa sya cb0 cb1 cb2 cb3 cb4 cb5 fb sb sxb syb Qa Qb M
   obtain ⟨rfl, M, Qa⟩ := hcut
   have Oa := Qa
   obtain ⟨⟨ca0, ca1, ca2, ca3, ca4, ca5⟩, fa, sa⟩ := Oa
   have fa := fun o => fa o
   have sxa : w.heap.size < wc.heap.size + 1 := by omega
   have sya : w.heap.size < wc.heap.size + 1 + 1 := by omega
   go_wp2
   go_ret
   exact ⟨rfl, M⟩
end Go.Proofs.Ythehmmhnacomkaa

