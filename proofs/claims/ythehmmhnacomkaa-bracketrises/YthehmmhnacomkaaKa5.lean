/-
  A part of the proof.
-/
import Derived.Test.YthehmmhnacomkaaKa3
import Derived.Test.YthehmmhnacomkaaKa1
import Derived.Test.YthehmmhnacomkaaProg
import Derived.WalkKit
import Derived.WalkSpells
import Derived.Handy
import Derived.BigQuiet
import Derived.Deep.RegionHeld3
import Derived.Test.YthehmmhnacomkaaKa4
import Derived.Shelf.Small.Bits
import Derived.Shelf.Strconv.Itoa0
import Derived.Shelf.Bits.Mul64
import Derived.Deep.CutBlock
import Derived.Deep.CutRange
namespace Go.Proofs.Ythehmmhnacomkaa
open Go.RowKit
def D16 (w : World) (k : Nat) (W : Int) : Prop := (∀ j, j < 16 → w.cell? ⟨k, j, none⟩ = some (.int .u64 (dg W j))) ∧ Fz w k ∧ k < w.heap.size
theorem D16.mo {w w' : World} {k : Nat} {W : Int} (h : D16 w k W) (m : Mo w w') : D16 w' k W :=
 ⟨fun j hj => (m.cell k j h.2.2).trans (h.1 j hj), h.2.1.mo m, by have := m.size; have := h.2.2; omega⟩
theorem D16.set {w : World} {k : Nat} {W n : Int} (h : D16 w k W) {j : Nat} (hj : j < 16) (hn0 : 0 ≤ n) (hn : n < 4294967296) :
  D16 (w.setCell ⟨k, j, none⟩ (.int .u64 n)) k (W + (n - dg W j) * 2 ^ (32 * j)) := by
 obtain ⟨h1, h2, h3⟩ := h
 refine ⟨fun m hm => ?_, fun o => by simp [World.frozen?_setCell, h2 o], by simpa [World.setCell] using h3⟩
 rw [dg_set hn0 hn]
 have e := h1 m hm
 by_cases hmj : m = j
 ·subst hmj
  simp [go_sem, e]
 ·simp [go_sem, e, hmj]
def RM (w wx : World) (a b W : Int) : Prop := Mo w wx ∧ AtN wx w.heap.size a ∧ AtN wx (w.heap.size + 1) b ∧ AtN wx (w.heap.size + 1 + 1) 0 ∧ AtN wx (w.heap.size + 1 + 1 + 1) 0 ∧ D16 wx (w.heap.size + 1 + 1 + 1 + 1) W
theorem RM.mo {w wx w1 : World} {a b W : Int} (v : RM w wx a b W) (m : Mo wx w1) : RM w w1 a b W := by
 obtain ⟨h1, h2, h3, h4, h5, h6⟩ := v
 exact ⟨h1.trans m, h2.mo m, h3.mo m, h4.mo m, h5.mo m, h6.mo m⟩
theorem AtN.set1 {w : World} {k j : Nat} {n : Int} (h : AtN w j n) (hk : j ≠ k) (o : Nat) (v : Value) : AtN (w.setCell ⟨k, o, none⟩ v) j n := by
 obtain ⟨⟨b0, b1, b2, b3⟩, f, s⟩ := h
 refine ⟨by simp [At4, go_sem, *], fun o => by simp [World.frozen?_setCell, f o], by simpa [World.setCell] using s⟩
theorem RM.put {w wx : World} {a b W n : Int} (v : RM w wx a b W) {j : Nat} (hj : j < 16) (hn0 : 0 ≤ n) (hn : n < 4294967296) :
  RM w (wx.setCell ⟨w.heap.size + 1 + 1 + 1 + 1, j, none⟩ (.int .u64 n)) a b (W + (n - dg W j) * 2 ^ (32 * j)) := by
 obtain ⟨h1, h2, h3, h4, h5, h6⟩ := v
 exact ⟨h1.setCell (by show w.heap.size ≤ w.heap.size + 1 + 1 + 1 + 1; omega) _, h2.set1 (by omega) _ _, h3.set1 (by omega) _ _, h4.set1 (by omega) _ _, h5.set1 (by omega) _ _, h6.set hj hn0 hn⟩
def Z16 : Array Value := #[.int .u64 0, .int .u64 0, .int .u64 0, .int .u64 0, .int .u64 0, .int .u64 0, .int .u64 0, .int .u64 0, .int .u64 0, .int .u64 0, .int .u64 0, .int .u64 0, .int .u64 0, .int .u64 0, .int .u64 0, .int .u64 0]
theorem z62 (w : World) : (zeroValue 99).run Try.prog w = .ok (.agg Z16) w := by kernel_rfl
theorem AtN.al {w : World} {k : Nat} {n : Int} (h : AtN w k n) {x : Array Value} {t : TypeId} : AtN (w.alloc (.cells x t)) k n := h.mo ((Mo.refl _).alloc _ _)
theorem AtN.at (w : World) (n : Int) {k : Nat} (h : k = w.heap.size) : AtN (w.alloc (.cells #[.int .u64 (l0 n), .int .u64 (l1 n), .int .u64 (l2 n), .int .u64 (l3 n)] 31)) k n := by subst h; exact AtN.new w n
theorem AtN.zero (w : World) : AtN (w.alloc (.cells #[.int .u64 0, .int .u64 0, .int .u64 0, .int .u64 0] 31)) w.heap.size 0 := AtN.new w 0
theorem RM.start (w : World) (a b : Int) : RM w (((((w.alloc (.cells #[.int .u64 (l0 a), .int .u64 (l1 a), .int .u64 (l2 a), .int .u64 (l3 a)] 31)).alloc (.cells #[.int .u64 (l0 b), .int .u64 (l1 b), .int .u64 (l2 b), .int .u64 (l3 b)] 31)).alloc (.cells #[.int .u64 0, .int .u64 0, .int .u64 0, .int .u64 0] 31)).alloc (.cells #[.int .u64 0, .int .u64 0, .int .u64 0, .int .u64 0] 31)).alloc (.cells Z16 99)) a b 0 := by
 refine ⟨by repeat (first | exact Mo.refl _ | with_reducible apply Mo.alloc), (AtN.at _ _ rfl).al.al.al.al, (AtN.at _ _ (by simp)).al.al.al, (AtN.at _ 0 (by simp)).al.al, (AtN.at _ 0 (by simp)).al, ?_, fun o => by simp [go_sem], by simp⟩
 intro j hj
 have h : Z16[j]? = some (.int .u64 (dg 0 j)) := by
  have e : dg 0 j = 0 := by simp [dg]
  rw [e]
  unfold Z16
  have hq : j = 0 ∨ j = 1 ∨ j = 2 ∨ j = 3 ∨ j = 4 ∨ j = 5 ∨ j = 6 ∨ j = 7 ∨ j = 8 ∨ j = 9 ∨ j = 10 ∨ j = 11 ∨ j = 12 ∨ j = 13 ∨ j = 14 ∨ j = 15 := by omega
  rcases hq with rfl | rfl | rfl | rfl | rfl | rfl | rfl | rfl | rfl | rfl | rfl | rfl | rfl | rfl | rfl | rfl <;> rfl
 simp [go_sem, h]

def H4 (w : World) (k : Nat) (n : Int) (i : Nat) : Prop := At4 w k (if 0 < i then l0 n else 0) (if 1 < i then l1 n else 0) (if 2 < i then l2 n else 0) (if 3 < i then l3 n else 0) ∧ Fz w k ∧ k < w.heap.size
def LH (w wx : World) (k : Nat) (a b P : Int) (i : Nat) : Prop := RM w wx a b P ∧ H4 wx k (P / MM) i ∧ H4 wx (k + 1) P i
theorem LH.start {w wr : World} {a b P : Int} (h : RM w wr a b P) : LH w ((wr.alloc (.cells #[.int .u64 0, .int .u64 0, .int .u64 0, .int .u64 0] 31)).alloc (.cells #[.int .u64 0, .int .u64 0, .int .u64 0, .int .u64 0] 31)) wr.heap.size a b P 0 := by
 refine ⟨h.mo (((Mo.refl _).alloc _ _).alloc _ _), ⟨by simp [At4, go_sem], fun o => by simp [go_sem], by simp <;> omega⟩, ⟨by simp [At4, go_sem], fun o => by simp [go_sem], by simp⟩⟩
theorem dg_up (P : Int) (j : Nat) : dg P (8 + j) = dg (P / MM) j := by
 unfold dg
 rw [Nat.mul_add, div_pow_split]
 rfl
theorem H4.put {w : World} {k : Nat} {n : Int} {i i' : Nat} {o : Nat} {v : Int} (h : H4 w k n i) (e : At4 (w.setCell ⟨k, o, none⟩ (.int .u64 v)) k (if 0 < i' then l0 n else 0) (if 1 < i' then l1 n else 0) (if 2 < i' then l2 n else 0) (if 3 < i' then l3 n else 0)) : H4 (w.setCell ⟨k, o, none⟩ (.int .u64 v)) k n i' :=
 ⟨e, fun o => by simp [World.frozen?_setCell, h.2.1 o], by simpa [World.setCell] using h.2.2⟩
theorem H4.set1 {w : World} {k j : Nat} {n : Int} {i : Nat} (h : H4 w k n i) (hk : k ≠ j) (o : Nat) (v : Value) : H4 (w.setCell ⟨j, o, none⟩ v) k n i := by
 obtain ⟨⟨b0, b1, b2, b3⟩, f, s⟩ := h
 refine ⟨by simp [At4, go_sem, *], fun o => by simp [World.frozen?_setCell, f o], by simpa [World.setCell] using s⟩
theorem RM.set1 {w wx : World} {a b W : Int} (h : RM w wx a b W) {k : Nat} (hk : w.heap.size + 1 + 1 + 1 + 1 < k) (o : Nat) (v : Value) : RM w (wx.setCell ⟨k, o, none⟩ v) a b W := by
 obtain ⟨h1, h2, h3, h4, h5, ⟨d, f, s⟩⟩ := h
 refine ⟨h1.setCell (by show w.heap.size ≤ k; omega) _, h2.set1 (by omega) _ _, h3.set1 (by omega) _ _, h4.set1 (by omega) _ _, h5.set1 (by omega) _ _, ⟨fun j hj => ?_, fun o => by simp [World.frozen?_setCell, f o], by simpa [World.setCell] using s⟩⟩
 have e := d j hj
 simp [go_sem, e]
theorem H4.mo {w w' : World} {k : Nat} {n : Int} {i : Nat} (h : H4 w k n i) (m : Mo w w') : H4 w' k n i :=
 ⟨h.1.mo m h.2.2, h.2.1.mo m, by have := m.size; have := h.2.2; omega⟩
theorem LH.put0 {w wr : World} {k : Nat} {a b P : Int} (hk : w.heap.size + 1 + 1 + 1 + 1 < k) (h : LH w wr k a b P 0) : LH w ((wr.setCell ⟨k + 1, 0, none⟩ (.int .u64 (l0 P))).drew.setCell ⟨k, 0, none⟩ (.int .u64 (l0 (P / MM)))).drew k a b P 1 := by
 obtain ⟨h1, h2, h3⟩ := h
 have D := fun (w : World) => (Mo.refl w).drew
 have g3 : H4 (wr.setCell ⟨k + 1, 0, none⟩ (.int .u64 (l0 P))) (k + 1) P 1 := h3.put (by obtain ⟨⟨c0, c1, c2, c3⟩, _, _⟩ := h3; simp at c0 c1 c2 c3; simp [At4, go_sem, *])
 have g2 := h2.set1 (show k ≠ k + 1 by omega) 0 (.int .u64 (l0 P))
 have g1 := h1.set1 (show _ < k + 1 by omega) 0 (.int .u64 (l0 P))
 generalize wr.setCell ⟨k + 1, 0, none⟩ (.int .u64 (l0 P)) = w2 at *
 have k2 : H4 (w2.drew.setCell ⟨k, 0, none⟩ (.int .u64 (l0 (P / MM)))) k (P / MM) 1 := (g2.mo (D _)).put (by obtain ⟨⟨c0, c1, c2, c3⟩, _, _⟩ := g2.mo (D _); simp at c0 c1 c2 c3; simp [At4, go_sem, *])
 exact ⟨((g1.mo (D _)).set1 hk _ _).mo (D _), k2.mo (D _), ((g3.mo (D _)).set1 (by omega) _ _).mo (D _)⟩
theorem LH.put1 {w wr : World} {k : Nat} {a b P : Int} (hk : w.heap.size + 1 + 1 + 1 + 1 < k) (h : LH w wr k a b P 1) : LH w ((wr.setCell ⟨k + 1, 1, none⟩ (.int .u64 (l1 P))).drew.setCell ⟨k, 1, none⟩ (.int .u64 (l1 (P / MM)))).drew k a b P 2 := by
 obtain ⟨h1, h2, h3⟩ := h
 have D := fun (w : World) => (Mo.refl w).drew
 have g3 : H4 (wr.setCell ⟨k + 1, 1, none⟩ (.int .u64 (l1 P))) (k + 1) P 2 := h3.put (by obtain ⟨⟨c0, c1, c2, c3⟩, _, _⟩ := h3; simp at c0 c1 c2 c3; simp [At4, go_sem, *])
 have g2 := h2.set1 (show k ≠ k + 1 by omega) 1 (.int .u64 (l1 P))
 have g1 := h1.set1 (show _ < k + 1 by omega) 1 (.int .u64 (l1 P))
 generalize wr.setCell ⟨k + 1, 1, none⟩ (.int .u64 (l1 P)) = w2 at *
 have k2 : H4 (w2.drew.setCell ⟨k, 1, none⟩ (.int .u64 (l1 (P / MM)))) k (P / MM) 2 := (g2.mo (D _)).put (by obtain ⟨⟨c0, c1, c2, c3⟩, _, _⟩ := g2.mo (D _); simp at c0 c1 c2 c3; simp [At4, go_sem, *])
 exact ⟨((g1.mo (D _)).set1 hk _ _).mo (D _), k2.mo (D _), ((g3.mo (D _)).set1 (by omega) _ _).mo (D _)⟩
theorem LH.put2 {w wr : World} {k : Nat} {a b P : Int} (hk : w.heap.size + 1 + 1 + 1 + 1 < k) (h : LH w wr k a b P 2) : LH w ((wr.setCell ⟨k + 1, 2, none⟩ (.int .u64 (l2 P))).drew.setCell ⟨k, 2, none⟩ (.int .u64 (l2 (P / MM)))).drew k a b P 3 := by
 obtain ⟨h1, h2, h3⟩ := h
 have D := fun (w : World) => (Mo.refl w).drew
 have g3 : H4 (wr.setCell ⟨k + 1, 2, none⟩ (.int .u64 (l2 P))) (k + 1) P 3 := h3.put (by obtain ⟨⟨c0, c1, c2, c3⟩, _, _⟩ := h3; simp at c0 c1 c2 c3; simp [At4, go_sem, *])
 have g2 := h2.set1 (show k ≠ k + 1 by omega) 2 (.int .u64 (l2 P))
 have g1 := h1.set1 (show _ < k + 1 by omega) 2 (.int .u64 (l2 P))
 generalize wr.setCell ⟨k + 1, 2, none⟩ (.int .u64 (l2 P)) = w2 at *
 have k2 : H4 (w2.drew.setCell ⟨k, 2, none⟩ (.int .u64 (l2 (P / MM)))) k (P / MM) 3 := (g2.mo (D _)).put (by obtain ⟨⟨c0, c1, c2, c3⟩, _, _⟩ := g2.mo (D _); simp at c0 c1 c2 c3; simp [At4, go_sem, *])
 exact ⟨((g1.mo (D _)).set1 hk _ _).mo (D _), k2.mo (D _), ((g3.mo (D _)).set1 (by omega) _ _).mo (D _)⟩
theorem LH.put3 {w wr : World} {k : Nat} {a b P : Int} (hk : w.heap.size + 1 + 1 + 1 + 1 < k) (h : LH w wr k a b P 3) : LH w ((wr.setCell ⟨k + 1, 3, none⟩ (.int .u64 (l3 P))).drew.setCell ⟨k, 3, none⟩ (.int .u64 (l3 (P / MM)))).drew k a b P 4 := by
 obtain ⟨h1, h2, h3⟩ := h
 have D := fun (w : World) => (Mo.refl w).drew
 have g3 : H4 (wr.setCell ⟨k + 1, 3, none⟩ (.int .u64 (l3 P))) (k + 1) P 4 := h3.put (by obtain ⟨⟨c0, c1, c2, c3⟩, _, _⟩ := h3; simp at c0 c1 c2 c3; simp [At4, go_sem, *])
 have g2 := h2.set1 (show k ≠ k + 1 by omega) 3 (.int .u64 (l3 P))
 have g1 := h1.set1 (show _ < k + 1 by omega) 3 (.int .u64 (l3 P))
 generalize wr.setCell ⟨k + 1, 3, none⟩ (.int .u64 (l3 P)) = w2 at *
 have k2 : H4 (w2.drew.setCell ⟨k, 3, none⟩ (.int .u64 (l3 (P / MM)))) k (P / MM) 4 := (g2.mo (D _)).put (by obtain ⟨⟨c0, c1, c2, c3⟩, _, _⟩ := g2.mo (D _); simp at c0 c1 c2 c3; simp [At4, go_sem, *])
 exact ⟨((g1.mo (D _)).set1 hk _ _).mo (D _), k2.mo (D _), ((g3.mo (D _)).set1 (by omega) _ _).mo (D _)⟩
set_option maxRecDepth 100000 in
set_option maxHeartbeats 4000000 in
theorem rmul_n (A B : Int) (w : World) (hA0 : 0 ≤ A) (hAM : A < MM) (hB0 : 0 ≤ B) (hBM : B < MM) :
  Calls Try.prog 62 #[nv A, nv B] w fun e w' => e = .returned (.tuple #[nv (A * B / MM), nv (A * B)]) ∧ Mo w w' := by
 have hz := z62
 have HS : Hid _ := RM.start w A B
 have HB : Hid (B < 2 ^ (32 * 8)) := hBM
 have HA : Hid (A < 2 ^ (32 * 8)) := hAM
 go_enter Try.func62, Try.ntmps62
 go_wp2
 go_loopw [7] (fun s7 wr => ∃ i : Nat, i ≤ 8 ∧ s7 = .int .i64 i ∧ RM w wr A B (vi A B i)) (fun s _ => 8 - (intOf s).toNat)
 case atStart => exact ⟨0, by decide, rfl, by rw [vi_zero]; exact HS.out⟩
 case round =>
  obtain ⟨i, hi, rfl, ht⟩ := hrel
  clear HS
  by_cases hlt : i < 8
  ·have di : decide ((i : Int) < 8) = true := decide_eq_true (by omega)
   go_wp2_with fail
   go_loopw [8, 9] (fun s8 s9 wr => ∃ (k : Nat) (c W : Int), k ≤ 8 ∧ s9 = .int .i64 k ∧ s8 = .int .u64 c ∧ 0 ≤ c ∧ c < 4294967296 ∧ 0 ≤ W ∧ W < 2 ^ (32 * (i + 8)) ∧ W + c * 2 ^ (32 * (i + k)) = vi A B i + dg A i * 2 ^ (32 * i) * (B % 2 ^ (32 * k)) ∧ RM w wr A B W) (fun _ s9 _ => 8 - (intOf s9).toNat)
   case atStart => exact ⟨0, 0, vi A B i, by decide, rfl, rfl, by decide, by decide, (vi_bd i hB0 HB.out).1, (vi_bd i hB0 HB.out).2, inner0 _ _ _ _ _ rfl, ht⟩
   case round =>
    obtain ⟨k, c, W, hk, rfl, rfl, c0, c1, W0, W1, hI, hv⟩ := hrel
    clear ht
    have HI : Hid _ := hI
    have HW : Hid _ := W1
    clear hI W1
    by_cases hk8 : k < 8
    ·have dk : decide ((k : Int) < 8) = true := decide_eq_true (by omega)
     obtain ⟨j, hj⟩ : ∃ j : Nat, j = i + k := ⟨_, rfl⟩
     have j16 : j < 16 := by omega
     have hik : (i : Int) + (k : Int) = (j : Int) := by omega
     have wik : IntKind.i64.wrap (j : Int) = (j : Int) := by rw [IntKind.wrap_i64]; omega
     have q1 : (0 : Int) ≤ (j : Int) := by omega
     have q2 : (j : Int) < 16 := by omega
     have HJ : Hid _ := hj
     have bd := carry_bd (dg_bd W j) (dg_bd A i) (dg_bd B k) ⟨c0, c1⟩
     have bw := dg_bd W j
     have u1 : IntKind.u64.wrap (dg A i * dg B k) = dg A i * dg B k := by rw [IntKind.wrap_u64]; omega
     have u2 : IntKind.u64.wrap (dg W j + dg A i * dg B k) = dg W j + dg A i * dg B k := by rw [IntKind.wrap_u64]; omega
     have u3 : IntKind.u64.wrap (dg W j + dg A i * dg B k + c) = dg W j + dg A i * dg B k + c := by rw [IntKind.wrap_u64]; omega
     have BD : Hid _ := bd
     clear hj bd bw
     go_upto_region 9 with fail
     go_cut [10] from 22 to 36 (fun s10 wx => s10 = .int .u64 (dg W j + dg A i * dg B k + c) ∧ RM w wx A B W)
     case first =>
      have hv0 := hv
      obtain ⟨_, ⟨⟨a0, a1, a2, a3⟩, _, y1⟩, ⟨⟨b0, b1, b2, b3⟩, _, y2⟩, _, _, ⟨d, _, y3⟩⟩ := hv0
      have d0 := d j j16
      clear d
      go_region_held3 (fun w' => w'.cell? ⟨w.heap.size, 0, none⟩ = some (.int .u64 (l0 A)) ∧ w'.cell? ⟨w.heap.size, 1, none⟩ = some (.int .u64 (l1 A)) ∧ w'.cell? ⟨w.heap.size, 2, none⟩ = some (.int .u64 (l2 A)) ∧ w'.cell? ⟨w.heap.size, 3, none⟩ = some (.int .u64 (l3 A)) ∧ w'.cell? ⟨w.heap.size + 1, 0, none⟩ = some (.int .u64 (l0 B)) ∧ w'.cell? ⟨w.heap.size + 1, 1, none⟩ = some (.int .u64 (l1 B)) ∧ w'.cell? ⟨w.heap.size + 1, 2, none⟩ = some (.int .u64 (l2 B)) ∧ w'.cell? ⟨w.heap.size + 1, 3, none⟩ = some (.int .u64 (l3 B)) ∧ w'.cell? ⟨w.heap.size + 1 + 1 + 1 + 1, j, none⟩ = some (.int .u64 (dg W j))) (simp [go_sem, *])
       (first | (go_at_call 81; have m40 := m4; refine (half_any _ _ _ (by assumption)).mono ?_; rintro e w5 ⟨rfl, hm5⟩; have m5 : Mo w4 w5 := Mo.trans (by repeat (first | with_reducible exact Mo.refl _ | with_reducible apply Mo.drew | with_reducible apply Mo.alloc)) hm5; have v5 := v4.mo m5; have v5z := v5; obtain ⟨_, ⟨⟨g0, g1, g2, g3⟩, _, z4⟩, ⟨⟨h0, h1, h2, h3⟩, _, z5⟩, _, _, ⟨ee, _, z6⟩⟩ := v5z; have ee := ee j j16) | (go_at_call 81; refine (half_any _ _ _ (by assumption)).mono ?_; rintro e w4 ⟨rfl, hm4⟩; have m4 : Mo wr w4 := Mo.trans (by repeat (first | with_reducible exact Mo.refl _ | with_reducible apply Mo.drew | with_reducible apply Mo.alloc)) hm4; have v4 := hv.mo m4; have v4z := v4; obtain ⟨_, ⟨⟨e0, e1, e2, e3⟩, _, z1⟩, ⟨⟨f0, f1, f2, f3⟩, _, z2⟩, _, _, ⟨dd, _, z3⟩⟩ := v4z; have dd := dd j j16))
      all_goals
       go_wp2
       go_meet
       case rel => exact ⟨rfl, v5⟩
     case rest =>
      clear hv
      obtain ⟨rfl, hv⟩ := hcut
      have bd := BD.out
      obtain ⟨_, _, s0, s1⟩ := bd
      generalize hs : dg W j + dg A i * dg B k + c = s at *
      have hv0 := hv
      obtain ⟨_, _, _, _, _, ⟨d, df, y3⟩⟩ := hv0
      have d0 := d j j16
      have df := fun o => df o
      clear d BD u1 u2 u3
      have v2 := hv.put (j := j) (n := s % 4294967296) j16 (by omega) (by omega)
      have HS2 : Hid _ := hs
      clear hs hv
      go_wp2
      go_roundw
      case rel =>
       have hj := HJ.out
       have hI := inner HI.out
       rw [← hj, HS2.out] at hI
       have b2 := dg_set_bd (n := s % 4294967296) W0 HW.out (show j < i + 8 by omega) (by omega) (by omega)
       refine ⟨k + 1, s / 4294967296, _, by omega, by go_num, by go_num, by omega, by omega, b2.1, b2.2, hI, v2⟩
      case measure => simp [intOf]; omega
    ·have k8 : k = 8 := by omega
     subst k8
     obtain ⟨j, hj⟩ : ∃ j : Nat, j = i + 8 := ⟨_, rfl⟩
     have j16 : j < 16 := by omega
     have hik : (i : Int) + 8 = (j : Int) := by omega
     have wik : IntKind.i64.wrap (j : Int) = (j : Int) := by rw [IntKind.wrap_i64]; omega
     have q1 : (0 : Int) ≤ (j : Int) := by omega
     have q2 : (j : Int) < 16 := by omega
     have HJ : Hid _ := hj
     clear hj
     have hv0 := hv
     obtain ⟨_, _, _, _, _, ⟨d, df, y3⟩⟩ := hv0
     have d0 := d j j16
     have df := fun o => df o
     clear d
     have v2 := hv.put (j := j) (n := c) j16 c0 c1
     go_wp2
     go_roundw
     case rel =>
      have hj := HJ.out
      have hI := HI.out
      rw [mod_last hB0 HB.out, ← vi_succ] at hI
      refine ⟨i + 1, by omega, by go_num, ?_⟩
      rw [← hI, ← outer W0 HW.out, ← hj]
      exact v2
     case measure => simp [intOf]; omega
  ·have i8 : i = 8 := by omega
   subst i8
   rw [vi_last hA0 HA.out] at ht
   obtain ⟨P, hP⟩ : ∃ P, P = A * B := ⟨_, rfl⟩
   rw [← hP] at ht
   have HP : Hid _ := hP
   clear hP
   have ht2 : LH w ((wr.alloc (.cells #[.int .u64 0, .int .u64 0, .int .u64 0, .int .u64 0] 31)).alloc (.cells #[.int .u64 0, .int .u64 0, .int .u64 0, .int .u64 0] 31)) wr.heap.size A B P 0 := LH.start ht
   have HT : Hid _ := ht2
   have hws : w.heap.size + 1 + 1 + 1 + 1 < wr.heap.size := ht.2.2.2.2.2.2.2
   clear ht ht2
   go_wp2_with fail
   go_loopw [13] (fun s13 wx => ∃ i : Nat, i ≤ 4 ∧ s13 = .int .i64 i ∧ LH w wx wr.heap.size A B P i) (fun s _ => 4 - (intOf s).toNat)
   case atStart => exact ⟨0, by decide, rfl, HT.out⟩
   case round =>
    obtain ⟨i, hi, rfl, ht⟩ := hrel
    clear HT
    have hq : i = 0 ∨ i = 1 ∨ i = 2 ∨ i = 3 ∨ i = 4 := by omega
    rcases hq with rfl | rfl | rfl | rfl | rfl
    ·have htz := ht
     obtain ⟨⟨m1, n1, n2, n3, n4, ⟨d, _, y3⟩⟩, ⟨⟨h0, h1, h2, h3⟩, fh, z1⟩, ⟨⟨g0, g1, g2, g3⟩, fg, z2⟩⟩ := ht
     have d0 := d 0 (by decide)
     have d1 := d 1 (by decide)
     have d8 := d 8 (by decide)
     have d9 := d 9 (by decide)
     have fh := fun o => fh o
     have fg := fun o => fg o
     have e0 : dg P 0 + dg P 1 * 4294967296 = l0 P := by simp [dg, l0]; omega
     rw [show dg P 8 = dg (P / MM) 0 from dg_up P 0] at d8
     rw [show dg P 9 = dg (P / MM) 1 from dg_up P 1] at d9
     have e1 : dg (P / MM) 0 + dg (P / MM) 1 * 4294967296 = l0 (P / MM) := by simp [dg, l0]; omega
     simp at h0 h1 h2 h3 g0 g1 g2 g3
     clear d
     have b0 := dg_bd P 0
     have b1 := dg_bd P 1
     have b8 := dg_bd (P / MM) 0
     have b9 := dg_bd (P / MM) 1
     have ht2 := LH.put0 hws htz
     have HT : Hid _ := ht2
     clear htz ht2
     go_wp2
     go_region
     all_goals
      go_wp2
      go_region
      all_goals
       go_wp2
       go_roundw
       case rel => exact ⟨1, by decide, rfl, HT.out⟩
       case measure => decide
    ·have htz := ht
     obtain ⟨⟨m1, n1, n2, n3, n4, ⟨d, _, y3⟩⟩, ⟨⟨h0, h1, h2, h3⟩, fh, z1⟩, ⟨⟨g0, g1, g2, g3⟩, fg, z2⟩⟩ := ht
     have d0 := d 2 (by decide)
     have d1 := d 3 (by decide)
     have d8 := d 10 (by decide)
     have d9 := d 11 (by decide)
     have fh := fun o => fh o
     have fg := fun o => fg o
     have e0 : dg P 2 + dg P 3 * 4294967296 = l1 P := by simp [dg, l1]; omega
     rw [show dg P 10 = dg (P / MM) 2 from dg_up P 2] at d8
     rw [show dg P 11 = dg (P / MM) 3 from dg_up P 3] at d9
     have e1 : dg (P / MM) 2 + dg (P / MM) 3 * 4294967296 = l1 (P / MM) := by simp [dg, l1]; omega
     simp at h0 h1 h2 h3 g0 g1 g2 g3
     clear d
     have b0 := dg_bd P 2
     have b1 := dg_bd P 3
     have b8 := dg_bd (P / MM) 2
     have b9 := dg_bd (P / MM) 3
     have ht2 := LH.put1 hws htz
     have HT : Hid _ := ht2
     clear htz ht2
     go_wp2
     go_region
     all_goals
      go_wp2
      go_region
      all_goals
       go_wp2
       go_roundw
       case rel => exact ⟨2, by decide, rfl, HT.out⟩
       case measure => decide
    ·have htz := ht
     obtain ⟨⟨m1, n1, n2, n3, n4, ⟨d, _, y3⟩⟩, ⟨⟨h0, h1, h2, h3⟩, fh, z1⟩, ⟨⟨g0, g1, g2, g3⟩, fg, z2⟩⟩ := ht
     have d0 := d 4 (by decide)
     have d1 := d 5 (by decide)
     have d8 := d 12 (by decide)
     have d9 := d 13 (by decide)
     have fh := fun o => fh o
     have fg := fun o => fg o
     have e0 : dg P 4 + dg P 5 * 4294967296 = l2 P := by simp [dg, l2]; omega
     rw [show dg P 12 = dg (P / MM) 4 from dg_up P 4] at d8
     rw [show dg P 13 = dg (P / MM) 5 from dg_up P 5] at d9
     have e1 : dg (P / MM) 4 + dg (P / MM) 5 * 4294967296 = l2 (P / MM) := by simp [dg, l2]; omega
     simp at h0 h1 h2 h3 g0 g1 g2 g3
     clear d
     have b0 := dg_bd P 4
     have b1 := dg_bd P 5
     have b8 := dg_bd (P / MM) 4
     have b9 := dg_bd (P / MM) 5
     have ht2 := LH.put2 hws htz
     have HT : Hid _ := ht2
     clear htz ht2
     go_wp2
     go_region
     all_goals
      go_wp2
      go_region
      all_goals
       go_wp2
       go_roundw
       case rel => exact ⟨3, by decide, rfl, HT.out⟩
       case measure => decide
    ·have htz := ht
     obtain ⟨⟨m1, n1, n2, n3, n4, ⟨d, _, y3⟩⟩, ⟨⟨h0, h1, h2, h3⟩, fh, z1⟩, ⟨⟨g0, g1, g2, g3⟩, fg, z2⟩⟩ := ht
     have d0 := d 6 (by decide)
     have d1 := d 7 (by decide)
     have d8 := d 14 (by decide)
     have d9 := d 15 (by decide)
     have fh := fun o => fh o
     have fg := fun o => fg o
     have e0 : dg P 6 + dg P 7 * 4294967296 = l3 P := by simp [dg, l3]; omega
     rw [show dg P 14 = dg (P / MM) 6 from dg_up P 6] at d8
     rw [show dg P 15 = dg (P / MM) 7 from dg_up P 7] at d9
     have e1 : dg (P / MM) 6 + dg (P / MM) 7 * 4294967296 = l3 (P / MM) := by simp [dg, l3]; omega
     simp at h0 h1 h2 h3 g0 g1 g2 g3
     clear d
     have b0 := dg_bd P 6
     have b1 := dg_bd P 7
     have b8 := dg_bd (P / MM) 6
     have b9 := dg_bd (P / MM) 7
     have ht2 := LH.put3 hws htz
     have HT : Hid _ := ht2
     clear htz ht2
     go_wp2
     go_region
     all_goals
      go_wp2
      go_region
      all_goals
       go_wp2
       go_roundw
       case rel => exact ⟨4, by decide, rfl, HT.out⟩
       case measure => decide
    ·obtain ⟨⟨m1, n1, n2, ⟨⟨x0, x1, x2, x3⟩, fx, z4⟩, ⟨⟨y0, y1, y2, y3⟩, fy, z5⟩, _⟩, ⟨⟨h0, h1, h2, h3⟩, _, z1⟩, ⟨⟨g0, g1, g2, g3⟩, _, z2⟩⟩ := ht
     simp at h0 h1 h2 h3 g0 g1 g2 g3
     have fx := fun o => fx o
     have fy := fun o => fy o
     clear n1 n2
     go_wp2
     go_region
     all_goals
      go_wp2
      refine bodyPost_ret (v := .tuple #[nv (P / MM), nv P]) (by simp [results, Try.results62, go_sem, *]) rfl ?_
      refine ⟨by rw [← HP.out], ?_⟩
      repeat (first | with_reducible exact m1 | with_reducible apply Mo.drew | with_reducible apply Mo.drewN | with_reducible refine Mo.setCell ?_ (by simp <;> omega) _)
end Go.Proofs.Ythehmmhnacomkaa

namespace Go.Proofs.Ythehmmhnacomkaa
open Go.RowKit

theorem addc_eq {a0 a1 a2 a3 b0 b1 b2 b3 n : Int} (_ha : U4 a0 a1 a2 a3) (_hb : U4 b0 b1 b2 b3) (hn : n = vl a0 a1 a2 a3 + vl b0 b1 b2 b3) :
   (a0 + b0) % 18446744073709551616 = l0 n ∧ (a1 + b1 + (a0 + b0) / 18446744073709551616) % 18446744073709551616 = l1 n ∧
   (a2 + b2 + (a1 + b1 + (a0 + b0) / 18446744073709551616) / 18446744073709551616) % 18446744073709551616 = l2 n ∧
   (a3 + b3 + (a2 + b2 + (a1 + b1 + (a0 + b0) / 18446744073709551616) / 18446744073709551616) / 18446744073709551616) % 18446744073709551616 = l3 n ∧
   (a3 + b3 + (a2 + b2 + (a1 + b1 + (a0 + b0) / 18446744073709551616) / 18446744073709551616) / 18446744073709551616) / 18446744073709551616 = n / MM := by
  subst hn
  unfold U4 U1 at _ha _hb; unfold vl l0 l1 l2 l3 MM
  omega

set_option maxHeartbeats 2000000 in
theorem addCarry_any (a0 a1 a2 a3 b0 b1 b2 b3 : Int) (w : World) (ha : U4 a0 a1 a2 a3) (hb : U4 b0 b1 b2 b3) :
  Calls Try.prog 103 #[.agg #[.int .u64 a0, .int .u64 a1, .int .u64 a2, .int .u64 a3], .agg #[.int .u64 b0, .int .u64 b1, .int .u64 b2, .int .u64 b3]] w fun e w' => 
   e = .returned (.tuple #[nv (vl a0 a1 a2 a3 + vl b0 b1 b2 b3), .int .u64 ((vl a0 a1 a2 a3 + vl b0 b1 b2 b3) / MM)]) ∧ Mo w w' := by
 have ha' := ha
 have hb' := hb
 obtain ⟨⟨p0, q0⟩, ⟨p1, q1⟩, ⟨p2, q2⟩, ⟨p3, q3⟩⟩ := ha'
 obtain ⟨⟨r0, s0⟩, ⟨r1, s1⟩, ⟨r2, s2⟩, ⟨r3, s3⟩⟩ := hb'
 have k1 : 0 ≤ (a0 + b0) / 18446744073709551616 := by omega
 have k1' : (a0 + b0) / 18446744073709551616 ≤ 1 := by omega
 have k2 : 0 ≤ (a1 + b1 + (a0 + b0) / 18446744073709551616) / 18446744073709551616 := by omega
 have k2' : (a1 + b1 + (a0 + b0) / 18446744073709551616) / 18446744073709551616 ≤ 1 := by omega
 have k3 : 0 ≤ (a2 + b2 + (a1 + b1 + (a0 + b0) / 18446744073709551616) / 18446744073709551616) / 18446744073709551616 := by omega
 have k3' : (a2 + b2 + (a1 + b1 + (a0 + b0) / 18446744073709551616) / 18446744073709551616) / 18446744073709551616 ≤ 1 := by omega
 go_enter Try.func103, Try.ntmps103
 go_wp2
 refine wp_loop_rounds 5 ?_
 rw [rounds_succ]
 go_wp2
 go_region_held3 (fun w' => w'.cell? ⟨w.heap.size, 0, none⟩ = some (.int .u64 a0) ∧ w'.cell? ⟨w.heap.size + 1, 0, none⟩ = some (.int .u64 b0)) (simp [go_sem, World.cell?_alloc_past])
  (first | simp only [add64_0 a0 b0 p0 r0])
 go_wp2
 rw [rounds_succ]
 go_wp2
 go_region_held3 (fun w' => w'.cell? ⟨w.heap.size, 1, none⟩ = some (.int .u64 a1) ∧ w'.cell? ⟨w.heap.size + 1, 1, none⟩ = some (.int .u64 b1)) (simp [go_sem, World.cell?_alloc_past])
  (first | simp only [add64 a1 b1 _ p1 r1 k1 k1'])
 go_wp2
 rw [rounds_succ]
 go_wp2
 go_region_held3 (fun w' => w'.cell? ⟨w.heap.size, 2, none⟩ = some (.int .u64 a2) ∧ w'.cell? ⟨w.heap.size + 1, 2, none⟩ = some (.int .u64 b2)) (simp [go_sem, World.cell?_alloc_past])
  (first | simp only [add64 a2 b2 _ p2 r2 k2 k2'])
 go_wp2
 rw [rounds_succ]
 go_wp2
 go_region_held3 (fun w' => w'.cell? ⟨w.heap.size, 3, none⟩ = some (.int .u64 a3) ∧ w'.cell? ⟨w.heap.size + 1, 3, none⟩ = some (.int .u64 b3)) (simp [go_sem, World.cell?_alloc_past])
  (first | simp only [add64 a3 b3 _ p3 r3 k3 k3'])
 go_wp2
 rw [rounds_succ]
 go_wp2
 refine bodyPost_ret (by simp [results, Try.results103, go_sem]; rfl) rfl ?_
 obtain ⟨e0, e1, e2, e3, e4⟩ := addc_eq ha hb rfl
 rw [nv_of e0 e1 e2 e3, e4]
 refine ⟨rfl, ?_⟩
 repeat (first | exact Mo.refl _ | apply Mo.drew | apply Mo.alloc)

theorem subc_eq {a0 a1 a2 a3 b0 b1 b2 b3 n c1 c2 c3 : Int} (_ha : U4 a0 a1 a2 a3) (_hb : U4 b0 b1 b2 b3) (hn : n = vl a0 a1 a2 a3 - vl b0 b1 b2 b3) (h1 : c1 = bw a0 b0 0) (h2 : c2 = bw a1 b1 c1) (h3 : c3 = bw a2 b2 c2) :
   (a0 - b0) % 18446744073709551616 = l0 (n % MM) ∧ (a1 - b1 - c1) % 18446744073709551616 = l1 (n % MM) ∧ (a2 - b2 - c2) % 18446744073709551616 = l2 (n % MM) ∧ (a3 - b3 - c3) % 18446744073709551616 = l3 (n % MM) ∧ bw a3 b3 c3 = -(n / MM) := by
  subst hn
  unfold bw at *
  unfold U4 U1 at _ha _hb; unfold vl l0 l1 l2 l3 MM
  omega

set_option maxHeartbeats 2000000 in
theorem subBorrow_any (a0 a1 a2 a3 b0 b1 b2 b3 : Int) (w : World) (ha : U4 a0 a1 a2 a3) (hb : U4 b0 b1 b2 b3) :
  Calls Try.prog 104 #[.agg #[.int .u64 a0, .int .u64 a1, .int .u64 a2, .int .u64 a3], .agg #[.int .u64 b0, .int .u64 b1, .int .u64 b2, .int .u64 b3]] w fun e w' =>
   e = .returned (.tuple #[nv ((vl a0 a1 a2 a3 - vl b0 b1 b2 b3) % MM), .int .u64 (-((vl a0 a1 a2 a3 - vl b0 b1 b2 b3) / MM))]) ∧ Mo w w' := by
 have ha' := ha
 have hb' := hb
 obtain ⟨⟨p0, q0⟩, ⟨p1, q1⟩, ⟨p2, q2⟩, ⟨p3, q3⟩⟩ := ha'
 obtain ⟨⟨r0, s0⟩, ⟨r1, s1⟩, ⟨r2, s2⟩, ⟨r3, s3⟩⟩ := hb'
 obtain ⟨k1, k1'⟩ := bw_bd p0 q0 r0 s0 (Int.le_refl 0) (by decide)
 obtain ⟨k2, k2'⟩ := bw_bd p1 q1 r1 s1 k1 k1'
 obtain ⟨k3, k3'⟩ := bw_bd p2 q2 r2 s2 k2 k2'
 go_enter Try.func104, Try.ntmps104
 go_wp2
 refine wp_loop_rounds 5 ?_
 rw [rounds_succ]
 go_wp2
 go_region_held3 (fun w' => w'.cell? ⟨w.heap.size, 0, none⟩ = some (.int .u64 a0) ∧ w'.cell? ⟨w.heap.size + 1, 0, none⟩ = some (.int .u64 b0)) (simp [go_sem, World.cell?_alloc_past])
  (first | simp only [sub64_0 a0 b0 p0 q0 r0 s0])
 go_wp2
 rw [rounds_succ]
 go_wp2
 go_region_held3 (fun w' => w'.cell? ⟨w.heap.size, 1, none⟩ = some (.int .u64 a1) ∧ w'.cell? ⟨w.heap.size + 1, 1, none⟩ = some (.int .u64 b1)) (simp [go_sem, World.cell?_alloc_past])
  (first | simp only [sub64 a1 b1 _ p1 q1 r1 s1 k1 k1'])
 go_wp2
 rw [rounds_succ]
 go_wp2
 go_region_held3 (fun w' => w'.cell? ⟨w.heap.size, 2, none⟩ = some (.int .u64 a2) ∧ w'.cell? ⟨w.heap.size + 1, 2, none⟩ = some (.int .u64 b2)) (simp [go_sem, World.cell?_alloc_past])
  (first | simp only [sub64 a2 b2 _ p2 q2 r2 s2 k2 k2'])
 go_wp2
 rw [rounds_succ]
 go_wp2
 go_region_held3 (fun w' => w'.cell? ⟨w.heap.size, 3, none⟩ = some (.int .u64 a3) ∧ w'.cell? ⟨w.heap.size + 1, 3, none⟩ = some (.int .u64 b3)) (simp [go_sem, World.cell?_alloc_past])
  (first | simp only [sub64 a3 b3 _ p3 q3 r3 s3 k3 k3'])
 go_wp2
 rw [rounds_succ]
 go_wp2
 refine bodyPost_ret (by simp [results, Try.results104, go_sem]; rfl) rfl ?_
 obtain ⟨e0, e1, e2, e3, e4⟩ := subc_eq ha hb rfl rfl rfl rfl
 rw [nv_of e0 e1 e2 e3, e4]
 refine ⟨rfl, ?_⟩
 repeat (first | exact Mo.refl _ | apply Mo.drew | apply Mo.alloc)
end Go.Proofs.Ythehmmhnacomkaa

namespace Go.Proofs.Ythehmmhnacomkaa
open Go.RowKit

set_option maxHeartbeats 1000000 in
theorem add_any (a0 a1 a2 a3 b0 b1 b2 b3 : Int) (w : World) (ha : U4 a0 a1 a2 a3) (hb : U4 b0 b1 b2 b3) :
  Calls Try.prog 87 #[.agg #[.int .u64 a0, .int .u64 a1, .int .u64 a2, .int .u64 a3], .agg #[.int .u64 b0, .int .u64 b1, .int .u64 b2, .int .u64 b3]] w fun e w' =>
   e = .returned (.tuple #[nv (vl a0 a1 a2 a3 + vl b0 b1 b2 b3), .bool (ov (vl a0 a1 a2 a3 + vl b0 b1 b2 b3))]) ∧ Mo w w' := by
 rw [← ov_ne ha hb]
 go_enter Try.func87, Try.ntmps87
 go_wp2_with fail
 refine (addCarry_any a0 a1 a2 a3 b0 b1 b2 b3 _ ha hb).mono ?_
 rintro e w1 ⟨rfl, hm⟩
 have hc := hm.cell
 have hf := hm.2
 have hz := hm.size
 simp only [World.size_alloc] at hz hc
 have hz2 : w.heap.size + 1 + 1 < w1.heap.size := by omega
 go_wp2
 refine bodyPost_ret (by simp [results, Try.results87, go_sem, hc, hz2]; rfl) rfl ?_
 refine ⟨rfl, ?_⟩
 repeat (first | exact Mo.refl _ | with_reducible apply Mo.drew | with_reducible apply Mo.drewN | with_reducible apply Mo.alloc | with_reducible refine Mo.setCell ?_ (by simp <;> omega) _ | with_reducible refine Mo.trans ?_ (by assumption))

set_option maxHeartbeats 1000000 in
theorem sub_any (a0 a1 a2 a3 b0 b1 b2 b3 : Int) (w : World) (ha : U4 a0 a1 a2 a3) (hb : U4 b0 b1 b2 b3) :
  Calls Try.prog 89 #[.agg #[.int .u64 a0, .int .u64 a1, .int .u64 a2, .int .u64 a3], .agg #[.int .u64 b0, .int .u64 b1, .int .u64 b2, .int .u64 b3]] w fun e w' =>
   e = .returned (.tuple #[nv ((vl a0 a1 a2 a3 - vl b0 b1 b2 b3) % MM), .bool (un (vl a0 a1 a2 a3 - vl b0 b1 b2 b3))]) ∧ Mo w w' := by
 rw [← un_ne ha hb]
 go_enter Try.func89, Try.ntmps89
 go_wp2_with fail
 refine (subBorrow_any a0 a1 a2 a3 b0 b1 b2 b3 _ ha hb).mono ?_
 rintro e w1 ⟨rfl, hm⟩
 have hc := hm.cell
 have hf := hm.2
 have hz := hm.size
 simp only [World.size_alloc] at hz hc
 have hz2 : w.heap.size + 1 + 1 < w1.heap.size := by omega
 go_wp2
 refine bodyPost_ret (by simp [results, Try.results89, go_sem, hc, hz2]; rfl) rfl ?_
 refine ⟨rfl, ?_⟩
 repeat (first | exact Mo.refl _ | with_reducible apply Mo.drew | with_reducible apply Mo.drewN | with_reducible apply Mo.alloc | with_reducible refine Mo.setCell ?_ (by simp <;> omega) _ | with_reducible refine Mo.trans ?_ (by assumption))

set_option maxHeartbeats 400000 in
theorem from20_any (u : Int) (w : World) (h : U1 u) :
  Calls Try.prog 88 #[.int .u64 u] w fun e w' => e = .returned (nv u) ∧ Mo w w' := by
 have e0 : l0 u = u := by unfold U1 at h; unfold l0; omega
 have e1 : l1 u = 0 := by unfold U1 at h; unfold l1; omega
 have e2 : l2 u = 0 := by unfold U1 at h; unfold l2; omega
 have e3 : l3 u = 0 := by unfold U1 at h; unfold l3; omega
 rw [nv, e0, e1, e2, e3]
 clear e0 e1 e2 e3
 go_enter Try.func88, Try.ntmps88
 go_wp2
 refine bodyPost_ret (by simp [results, Try.results88, go_sem]; rfl) rfl ?_
 refine ⟨rfl, ?_⟩
 repeat (first | exact Mo.refl _ | with_reducible apply Mo.drew | with_reducible apply Mo.drewN | with_reducible apply Mo.alloc | with_reducible refine Mo.setCell ?_ (by simp <;> omega) _ | with_reducible refine Mo.trans ?_ (by assumption))

set_option maxHeartbeats 400000 in
theorem from34_any (u : Int) (w : World) (h : U1 u) :
  Calls Try.prog 64 #[.int .u64 u] w fun e w' => e = .returned (nv u) ∧ Mo w w' := by
 have e0 : l0 u = u := by unfold U1 at h; unfold l0; omega
 have e1 : l1 u = 0 := by unfold U1 at h; unfold l1; omega
 have e2 : l2 u = 0 := by unfold U1 at h; unfold l2; omega
 have e3 : l3 u = 0 := by unfold U1 at h; unfold l3; omega
 rw [nv, e0, e1, e2, e3]
 clear e0 e1 e2 e3
 go_enter Try.func64, Try.ntmps64
 go_wp2
 refine bodyPost_ret (by simp [results, Try.results64, go_sem]; rfl) rfl ?_
 refine ⟨rfl, ?_⟩
 repeat (first | exact Mo.refl _ | with_reducible apply Mo.drew | with_reducible apply Mo.drewN | with_reducible apply Mo.alloc | with_reducible refine Mo.setCell ?_ (by simp <;> omega) _ | with_reducible refine Mo.trans ?_ (by assumption))

set_option maxHeartbeats 400000 in
theorem odd_any (a0 a1 a2 a3 : Int) (w : World) (ha : U4 a0 a1 a2 a3) :
  Calls Try.prog 102 #[.agg #[.int .u64 a0, .int .u64 a1, .int .u64 a2, .int .u64 a3]] w fun e w' => e = .returned (.bool (a0 % 2 == 1)) ∧ Mo w w' := by
 obtain ⟨⟨p0, q0⟩, ⟨p1, q1⟩, ⟨p2, q2⟩, ⟨p3, q3⟩⟩ := ha
 go_enter Try.func102, Try.ntmps102
 go_wp2
 go_ret
 refine ⟨rfl, ?_⟩
 repeat (first | exact Mo.refl _ | with_reducible apply Mo.drew | with_reducible apply Mo.drewN | with_reducible apply Mo.alloc | with_reducible refine Mo.setCell ?_ (by simp <;> omega) _ | with_reducible refine Mo.trans ?_ (by assumption))

end Go.Proofs.Ythehmmhnacomkaa

namespace Go.Proofs.Ythehmmhnacomkaa
open Go.RowKit
def mh (x y : Int) : Int := x * y / 18446744073709551616
def ml (x y : Int) : Int := x * y % 18446744073709551616
theorem mul64 (x y : Int) (hx : U1 x) (hy : U1 y) (w : World) :
  Calls Try.prog 107 #[.int .u64 x, .int .u64 y] w fun e w' => e = .returned (.tuple #[.int .u64 (mh x y), .int .u64 (ml x y)]) ∧ w' = w := by
 obtain ⟨x0, x1⟩ := hx
 obtain ⟨y0, y1⟩ := hy
 obtain ⟨x, rfl⟩ := Int.eq_ofNat_of_zero_le x0
 obtain ⟨y, rfl⟩ := Int.eq_ofNat_of_zero_le y0
 have e1 : mh (x : Int) y = ((x * y / 18446744073709551616 : Nat) : Int) := by unfold mh; omega
 have e2 : ml (x : Int) y = ((x * y % 18446744073709551616 : Nat) : Int) := by unfold ml; omega
 rw [e1, e2]
 exact Try.bits_Mul64 x y (by omega) (by omega) w

theorem mul_bd {x y : Int} (hx : U1 x) (hy : U1 y) : 0 ≤ x * y ∧ x * y ≤ 340282366920938463426481119284349108225 := by
 obtain ⟨x0, x1⟩ := hx
 obtain ⟨y0, y1⟩ := hy
 refine ⟨Int.mul_nonneg x0 y0, ?_⟩
 exact Int.mul_le_mul (by omega : x ≤ 18446744073709551615) (by omega : y ≤ 18446744073709551615) y0 (by decide)
theorem mh_bd {x y : Int} (hx : U1 x) (hy : U1 y) : 0 ≤ mh x y ∧ mh x y ≤ 18446744073709551614 := by
 have h := mul_bd hx hy; unfold mh; omega
theorem ml_bd {x y : Int} (_hx : U1 x) (_hy : U1 y) : 0 ≤ ml x y ∧ ml x y < 18446744073709551616 := by
 unfold ml; omega

theorem mull_eq {a0 a1 a2 a3 c t1 t2 t3 t4 : Int} (ha : U4 a0 a1 a2 a3) (hc : U1 c) (h1 : t1 = mh a0 c) (h2 : t2 = mh a1 c + (ml a1 c + t1) / 18446744073709551616) (h3 : t3 = mh a2 c + (ml a2 c + t2) / 18446744073709551616) (h4 : t4 = mh a3 c + (ml a3 c + t3) / 18446744073709551616) :
  ml a0 c = l0 (vl a0 a1 a2 a3 * c) ∧ (ml a1 c + t1) % 18446744073709551616 = l1 (vl a0 a1 a2 a3 * c) ∧ (ml a2 c + t2) % 18446744073709551616 = l2 (vl a0 a1 a2 a3 * c) ∧ (ml a3 c + t3) % 18446744073709551616 = l3 (vl a0 a1 a2 a3 * c) ∧ t4 = vl a0 a1 a2 a3 * c / MM := by
 obtain ⟨g0, g1, g2, g3⟩ := ha
 have b0 := mul_bd g0 hc
 have b1 := mul_bd g1 hc
 have b2 := mul_bd g2 hc
 have b3 := mul_bd g3 hc
 have e : vl a0 a1 a2 a3 * c = a0 * c + 18446744073709551616 * (a1 * c) + 340282366920938463463374607431768211456 * (a2 * c) + 6277101735386680763835789423207666416102355444464034512896 * (a3 * c) := by
  unfold vl; rw [Int.add_mul, Int.add_mul, Int.add_mul, Int.mul_assoc, Int.mul_assoc, Int.mul_assoc]
 rw [e]
 unfold mh ml at *
 generalize a0 * c = p0 at *
 generalize a1 * c = p1 at *
 generalize a2 * c = p2 at *
 generalize a3 * c = p3 at *
 unfold l0 l1 l2 l3 MM
 omega

set_option maxHeartbeats 2000000 in
theorem mulLimb_raw (a0 a1 a2 a3 c t1 t2 t3 t4 : Int) (w : World) (ha : U4 a0 a1 a2 a3) (hc : U1 c) (h1 : Hid (t1 = mh a0 c)) (h2 : Hid (t2 = mh a1 c + (ml a1 c + t1) / 18446744073709551616)) (h3 : Hid (t3 = mh a2 c + (ml a2 c + t2) / 18446744073709551616)) (h4 : Hid (t4 = mh a3 c + (ml a3 c + t3) / 18446744073709551616)) :
  Calls Try.prog 95 #[.agg #[.int .u64 a0, .int .u64 a1, .int .u64 a2, .int .u64 a3], .int .u64 c] w fun e w' =>
   e = .returned (.tuple #[.agg #[.int .u64 (ml a0 c), .int .u64 ((ml a1 c + t1) % 18446744073709551616), .int .u64 ((ml a2 c + t2) % 18446744073709551616), .int .u64 ((ml a3 c + t3) % 18446744073709551616)], .int .u64 t4]) ∧ Mo w w' := by
 have g := ha
 obtain ⟨g0, g1, g2, g3⟩ := g
 obtain ⟨p0, q0⟩ := mh_bd g0 hc
 obtain ⟨r0, s0⟩ := ml_bd g0 hc
 obtain ⟨p1, q1⟩ := mh_bd g1 hc
 obtain ⟨r1, s1⟩ := ml_bd g1 hc
 obtain ⟨p2, q2⟩ := mh_bd g2 hc
 obtain ⟨r2, s2⟩ := ml_bd g2 hc
 obtain ⟨p3, q3⟩ := mh_bd g3 hc
 obtain ⟨r3, s3⟩ := ml_bd g3 hc
 have j1 : 0 ≤ t1 ∧ t1 < 18446744073709551616 := by have := h1.out; omega
 have j2 : 0 ≤ t2 ∧ t2 < 18446744073709551616 := by have := h2.out; omega
 have j3 : 0 ≤ t3 ∧ t3 < 18446744073709551616 := by have := h3.out; omega
 obtain ⟨u1, v1⟩ := j1
 obtain ⟨u2, v2⟩ := j2
 obtain ⟨u3, v3⟩ := j3
 have x1 : mh a0 c + ml a0 c / 18446744073709551616 = t1 := by have := h1.out; omega
 have x2 : mh a1 c + (ml a1 c + t1) / 18446744073709551616 = t2 := h2.out.symm
 have x3 : mh a2 c + (ml a2 c + t2) / 18446744073709551616 = t3 := h3.out.symm
 have x4 : mh a3 c + (ml a3 c + t3) / 18446744073709551616 = t4 := h4.out.symm
 have y1 : ml a0 c % 18446744073709551616 = ml a0 c := by omega
 have i0 : ∀ w : World, (Instr.index 31 (.agg #[.int .u64 a0, .int .u64 a1, .int .u64 a2, .int .u64 a3]) (.int .i64 0)).run Try.prog w = .ok (.int .u64 a0) w := fun _ => by kernel_rfl
 have i1 : ∀ w : World, (Instr.index 31 (.agg #[.int .u64 a0, .int .u64 a1, .int .u64 a2, .int .u64 a3]) (.int .i64 1)).run Try.prog w = .ok (.int .u64 a1) w := fun _ => by kernel_rfl
 have i2 : ∀ w : World, (Instr.index 31 (.agg #[.int .u64 a0, .int .u64 a1, .int .u64 a2, .int .u64 a3]) (.int .i64 2)).run Try.prog w = .ok (.int .u64 a2) w := fun _ => by kernel_rfl
 have i3 : ∀ w : World, (Instr.index 31 (.agg #[.int .u64 a0, .int .u64 a1, .int .u64 a2, .int .u64 a3]) (.int .i64 3)).run Try.prog w = .ok (.int .u64 a3) w := fun _ => by kernel_rfl
 go_enter Try.func95, Try.ntmps95
 go_wp2
 refine wp_loop_rounds 5 ?_
 rw [rounds_succ]
 go_wp2_with (first | (go_at_call 107; refine (mul64 a0 c g0 hc _).mono ?_; rintro e w' ⟨rfl, rfl⟩) | simp only [add64_0 (ml a0 c) 0 r0 (Int.le_refl 0)])
 rw [rounds_succ]
 go_wp2_with (first | (go_at_call 107; refine (mul64 a1 c g1 hc _).mono ?_; rintro e w' ⟨rfl, rfl⟩) | simp only [add64_0 (ml a1 c) t1 r1 u1])
 rw [rounds_succ]
 go_wp2_with (first | (go_at_call 107; refine (mul64 a2 c g2 hc _).mono ?_; rintro e w' ⟨rfl, rfl⟩) | simp only [add64_0 (ml a2 c) t2 r2 u2])
 rw [rounds_succ]
 go_wp2_with (first | (go_at_call 107; refine (mul64 a3 c g3 hc _).mono ?_; rintro e w' ⟨rfl, rfl⟩) | simp only [add64_0 (ml a3 c) t3 r3 u3])
 rw [rounds_succ]
 go_wp2
 refine bodyPost_ret (by simp [results, Try.results95, go_sem]; rfl) rfl ?_
 refine ⟨rfl, ?_⟩
 repeat (first | exact Mo.refl _ | with_reducible apply Mo.drew | with_reducible apply Mo.drewN | with_reducible apply Mo.alloc | with_reducible refine Mo.setCell ?_ (by simp <;> omega) _ | with_reducible refine Mo.trans ?_ (by assumption))

theorem mulLimb_any (a0 a1 a2 a3 c : Int) (w : World) (ha : U4 a0 a1 a2 a3) (hc : U1 c) :
  Calls Try.prog 95 #[.agg #[.int .u64 a0, .int .u64 a1, .int .u64 a2, .int .u64 a3], .int .u64 c] w fun e w' =>
   e = .returned (.tuple #[nv (vl a0 a1 a2 a3 * c), .int .u64 (vl a0 a1 a2 a3 * c / MM)]) ∧ Mo w w' := by
 refine (mulLimb_raw a0 a1 a2 a3 c _ _ _ _ w ha hc rfl rfl rfl rfl).mono ?_
 rintro e w' ⟨rfl, hm⟩
 obtain ⟨e0, e1, e2, e3, e4⟩ := mull_eq ha hc rfl rfl rfl rfl
 refine ⟨?_, hm⟩
 rw [nv_of e0 e1 e2 e3, e4]
end Go.Proofs.Ythehmmhnacomkaa

