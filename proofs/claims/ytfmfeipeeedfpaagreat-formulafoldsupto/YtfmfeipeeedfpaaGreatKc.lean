/-
  The document's Mul, whatever the numbers: the walk. limb.addCarry, limb.subBorrow, Add, Sub, From, Odd, whatever the limbs: the walks. limb.Add and limb.Sub, From, Odd, the document's From and not, whatever the limbs: the walks. limb.mulLimb, whatever the limbs: the walk. limb.guessLimb and limb.divStep, whatever the limbs: the walks. Plain arithmetic of shifts of four limbs. Plain arithmetic of limb.Mul: one row more. limb.shiftLeft and limb.shiftRight, whatever the limbs and the number from 0 to 256: the walks. limb.shiftLeft and limb.shiftRight as products and quotients. limb.Bits, the document's Bit and Bits, whatever the limbs: the walks. limb.Cmp and the document's Cmp hold two numbers against each other, whatever the limbs: the walks. limb.Div, whatever the numbers: the walk. The document's Add and Sub, whatever the limbs: the walks. limb.Mul, whatever the limbs: the walk. More small facts on worlds. The document's Sub, whatever the numbers: the walk. limb.Ten, whatever the number: the walk. The contracts of limb's functions and of the document's, in plain numbers. Decimals: what may be, signs, tens, products (the program). Decimals: numbers of twice as many bits; sums, differences, how two stand (the program). Decimals: the calls for sums, differences, how two stand (the program). Decimals: sums, differences, how two stand (the program). Decimals: how two stand, rounding (the program). Decimals: rounding, products (the program).
-/
import Derived.Test.YtfmfeipeeedfpaaGreatKb
import Derived.Deep.CutRange
import Derived.ScopeJumps
import Derived.WalkMore
namespace Go.Proofs.YtfmfeipeeedfpaaGreat
open Go.RowKit
/-- The block k holds the sixteen digits of a number. -/
def D16 (w : World) (k : Nat) (W : Int) : Prop := (∀ j, j < 16 → w.cell? ⟨k, j, none⟩ = some (.int .u64 (dg W j))) ∧ Fz w k ∧ k < w.heap.size
theorem D16.mo {w w' : World} {k : Nat} {W : Int} (h : D16 w k W) (m : Mo w w') : D16 w' k W :=
  ⟨fun j hj => (m.cell k j h.2.2).trans (h.1 j hj), h.2.1.mo m, by have := m.size; have := h.2.2; omega⟩
theorem D16.set {w : World} {k : Nat} {W n : Int} (h : D16 w k W) {j : Nat} (hj : j < 16) (hn0 : 0 ≤ n) (hn : n < 4294967296) :
    D16 (w.setCell ⟨k, j, none⟩ (.int .u64 n)) k (W + (n - dg W j) * 2 ^ (32 * j)) := by
  obtain ⟨h1, h2, h3⟩ := h
  refine ⟨fun m hm => ?_, fun o => by simp [World.frozen?_setCell, h2 o], by simpa [World.setCell] using h3⟩
  rw [dg_set hn0 hn]
  have e := h1 m hm
  by_cases hmj : m = j
  · subst hmj
    simp [go_sem, e]
  · simp [go_sem, e, hmj]
/-- The blocks of the call: the two numbers, the two results, the digits. -/
def RM (w wx : World) (a b W : Int) : Prop := Mo w wx ∧ AtN wx w.heap.size a ∧ AtN wx (w.heap.size + 1) b ∧ AtN wx (w.heap.size + 1 + 1) 0 ∧ AtN wx (w.heap.size + 1 + 1 + 1) 0 ∧ D16 wx (w.heap.size + 1 + 1 + 1 + 1) W
theorem RM.mo {w wx w1 : World} {a b W : Int} (v : RM w wx a b W) (m : Mo wx w1) : RM w w1 a b W := by
  obtain ⟨h1, h2, h3, h4, h5, h6⟩ := v
  exact ⟨h1.trans m, h2.mo m, h3.mo m, h4.mo m, h5.mo m, h6.mo m⟩
theorem AtN.set1 {w : World} {k j : Nat} {n : Int} (h : AtN w j n) (hk : j ≠ k) (o : Nat) (v : Value) : AtN (w.setCell ⟨k, o, none⟩ v) j n := by
  obtain ⟨⟨b0, b1, b2, b3⟩, f, s⟩ := h
  refine ⟨by simp [At4, go_sem, *], fun o => by simp [World.frozen?_setCell, f o], by simpa [World.setCell] using s⟩
theorem RM.put {w wx : World} {a b W n : Int} (v : RM w wx a b W) {j : Nat} (hj : j < 16) (hn0 : 0 ≤ n) (hn : n < 4294967296) :
    RM w (wx.setCell ⟨w.heap.size + 1 + 1 + 1 + 1, j, none⟩ (.int .u64 n)) a b (W + (n - dg W j) * 2 ^ (32 * j)) := by
  obtain ⟨h1, h2, h3, h4, h5, h6⟩ := v
  exact ⟨h1.setCell (by show w.heap.size ≤ w.heap.size + 1 + 1 + 1 + 1; omega) _, h2.set1 (by omega) _ _, h3.set1 (by omega) _ _, h4.set1 (by omega) _ _, h5.set1 (by omega) _ _, h6.set hj hn0 hn⟩
def Z16 : Array Value := #[.int .u64 0, .int .u64 0, .int .u64 0, .int .u64 0, .int .u64 0, .int .u64 0, .int .u64 0, .int .u64 0, .int .u64 0, .int .u64 0, .int .u64 0, .int .u64 0, .int .u64 0, .int .u64 0, .int .u64 0, .int .u64 0]
theorem z62 (w : World) : (zeroValue 201).run Tryz.prog w = .ok (.agg Z16) w := by kernel_rfl
theorem AtN.al {w : World} {k : Nat} {n : Int} (h : AtN w k n) {x : Array Value} {t : TypeId} : AtN (w.alloc (.cells x t)) k n := h.mo ((Mo.refl _).alloc _ _)
theorem AtN.at (w : World) (n : Int) {k : Nat} (h : k = w.heap.size) : AtN (w.alloc (.cells #[.int .u64 (l0 n), .int .u64 (l1 n), .int .u64 (l2 n), .int .u64 (l3 n)] 24)) k n := by subst h; exact AtN.new w n
theorem RM.start (w : World) (a b : Int) : RM w (((((w.alloc (.cells #[.int .u64 (l0 a), .int .u64 (l1 a), .int .u64 (l2 a), .int .u64 (l3 a)] 24)).alloc (.cells #[.int .u64 (l0 b), .int .u64 (l1 b), .int .u64 (l2 b), .int .u64 (l3 b)] 24)).alloc (.cells #[.int .u64 0, .int .u64 0, .int .u64 0, .int .u64 0] 24)).alloc (.cells #[.int .u64 0, .int .u64 0, .int .u64 0, .int .u64 0] 24)).alloc (.cells Z16 201)) a b 0 := by
  refine ⟨by repeat (first | exact Mo.refl _ | with_reducible apply Mo.alloc), (AtN.at _ _ rfl).al.al.al.al, (AtN.at _ _ (by simp)).al.al.al, (AtN.at _ 0 (by simp)).al.al, (AtN.at _ 0 (by simp)).al, ?_, fun o => by simp [go_sem], by simp⟩
  intro j hj
  have h : Z16[j]? = some (.int .u64 (dg 0 j)) := by
    have e : dg 0 j = 0 := by simp [dg]
    rw [e]
    unfold Z16
    have hq : j = 0 ∨ j = 1 ∨ j = 2 ∨ j = 3 ∨ j = 4 ∨ j = 5 ∨ j = 6 ∨ j = 7 ∨ j = 8 ∨ j = 9 ∨ j = 10 ∨ j = 11 ∨ j = 12 ∨ j = 13 ∨ j = 14 ∨ j = 15 := by omega
    rcases hq with rfl | rfl | rfl | rfl | rfl | rfl | rfl | rfl | rfl | rfl | rfl | rfl | rfl | rfl | rfl | rfl <;> rfl
  simp [go_sem, h]

/-- The block k holds the first limbs of a number, and 0 else. -/
def H4 (w : World) (k : Nat) (n : Int) (i : Nat) : Prop := At4 w k (if 0 < i then l0 n else 0) (if 1 < i then l1 n else 0) (if 2 < i then l2 n else 0) (if 3 < i then l3 n else 0) ∧ Fz w k ∧ k < w.heap.size
/-- The blocks of the call's last loop. -/
def LH (w wx : World) (k : Nat) (a b P : Int) (i : Nat) : Prop := RM w wx a b P ∧ H4 wx k (P / MM) i ∧ H4 wx (k + 1) P i
theorem LH.start {w wr : World} {a b P : Int} (h : RM w wr a b P) : LH w ((wr.alloc (.cells #[.int .u64 0, .int .u64 0, .int .u64 0, .int .u64 0] 24)).alloc (.cells #[.int .u64 0, .int .u64 0, .int .u64 0, .int .u64 0] 24)) wr.heap.size a b P 0 := by
  refine ⟨h.mo (((Mo.refl _).alloc _ _).alloc _ _), ⟨by simp [At4, go_sem], fun o => by simp [go_sem], by simp <;> omega⟩, ⟨by simp [At4, go_sem], fun o => by simp [go_sem], by simp⟩⟩
theorem dg_up (P : Int) (j : Nat) : dg P (8 + j) = dg (P / MM) j := by
  unfold dg
  rw [Nat.mul_add, div_pow_split]
  rfl
theorem H4.put {w : World} {k : Nat} {n : Int} {i i' : Nat} {o : Nat} {v : Int} (h : H4 w k n i) (e : At4 (w.setCell ⟨k, o, none⟩ (.int .u64 v)) k (if 0 < i' then l0 n else 0) (if 1 < i' then l1 n else 0) (if 2 < i' then l2 n else 0) (if 3 < i' then l3 n else 0)) : H4 (w.setCell ⟨k, o, none⟩ (.int .u64 v)) k n i' :=
  ⟨e, fun o => by simp [World.frozen?_setCell, h.2.1 o], by simpa [World.setCell] using h.2.2⟩
theorem H4.set1 {w : World} {k j : Nat} {n : Int} {i : Nat} (h : H4 w k n i) (hk : k ≠ j) (o : Nat) (v : Value) : H4 (w.setCell ⟨j, o, none⟩ v) k n i := by
  obtain ⟨⟨b0, b1, b2, b3⟩, f, s⟩ := h
  refine ⟨by simp [At4, go_sem, *], fun o => by simp [World.frozen?_setCell, f o], by simpa [World.setCell] using s⟩
theorem RM.set1 {w wx : World} {a b W : Int} (h : RM w wx a b W) {k : Nat} (hk : w.heap.size + 1 + 1 + 1 + 1 < k) (o : Nat) (v : Value) : RM w (wx.setCell ⟨k, o, none⟩ v) a b W := by
  obtain ⟨h1, h2, h3, h4, h5, ⟨d, f, s⟩⟩ := h
  refine ⟨h1.setCell (by show w.heap.size ≤ k; omega) _, h2.set1 (by omega) _ _, h3.set1 (by omega) _ _, h4.set1 (by omega) _ _, h5.set1 (by omega) _ _, ⟨fun j hj => ?_, fun o => by simp [World.frozen?_setCell, f o], by simpa [World.setCell] using s⟩⟩
  have e := d j hj
  simp [go_sem, e]
theorem H4.mo {w w' : World} {k : Nat} {n : Int} {i : Nat} (h : H4 w k n i) (m : Mo w w') : H4 w' k n i :=
  ⟨h.1.mo m h.2.2, h.2.1.mo m, by have := m.size; have := h.2.2; omega⟩
theorem LH.put0 {w wr : World} {k : Nat} {a b P : Int} (hk : w.heap.size + 1 + 1 + 1 + 1 < k) (h : LH w wr k a b P 0) : LH w ((wr.setCell ⟨k + 1, 0, none⟩ (.int .u64 (l0 P))).drew.setCell ⟨k, 0, none⟩ (.int .u64 (l0 (P / MM)))).drew k a b P 1 := by
  obtain ⟨h1, h2, h3⟩ := h
  have D := fun (w : World) => (Mo.refl w).drew
  have g3 : H4 (wr.setCell ⟨k + 1, 0, none⟩ (.int .u64 (l0 P))) (k + 1) P 1 := h3.put (by obtain ⟨⟨c0, c1, c2, c3⟩, _, _⟩ := h3; simp at c0 c1 c2 c3; simp [At4, go_sem, *])
  have g2 := h2.set1 (show k ≠ k + 1 by omega) 0 (.int .u64 (l0 P))
  have g1 := h1.set1 (show _ < k + 1 by omega) 0 (.int .u64 (l0 P))
  generalize wr.setCell ⟨k + 1, 0, none⟩ (.int .u64 (l0 P)) = w2 at *
  have k2 : H4 (w2.drew.setCell ⟨k, 0, none⟩ (.int .u64 (l0 (P / MM)))) k (P / MM) 1 := (g2.mo (D _)).put (by obtain ⟨⟨c0, c1, c2, c3⟩, _, _⟩ := g2.mo (D _); simp at c0 c1 c2 c3; simp [At4, go_sem, *])
  exact ⟨((g1.mo (D _)).set1 hk _ _).mo (D _), k2.mo (D _), ((g3.mo (D _)).set1 (by omega) _ _).mo (D _)⟩
theorem LH.put1 {w wr : World} {k : Nat} {a b P : Int} (hk : w.heap.size + 1 + 1 + 1 + 1 < k) (h : LH w wr k a b P 1) : LH w ((wr.setCell ⟨k + 1, 1, none⟩ (.int .u64 (l1 P))).drew.setCell ⟨k, 1, none⟩ (.int .u64 (l1 (P / MM)))).drew k a b P 2 := by
  obtain ⟨h1, h2, h3⟩ := h
  have D := fun (w : World) => (Mo.refl w).drew
  have g3 : H4 (wr.setCell ⟨k + 1, 1, none⟩ (.int .u64 (l1 P))) (k + 1) P 2 := h3.put (by obtain ⟨⟨c0, c1, c2, c3⟩, _, _⟩ := h3; simp at c0 c1 c2 c3; simp [At4, go_sem, *])
  have g2 := h2.set1 (show k ≠ k + 1 by omega) 1 (.int .u64 (l1 P))
  have g1 := h1.set1 (show _ < k + 1 by omega) 1 (.int .u64 (l1 P))
  generalize wr.setCell ⟨k + 1, 1, none⟩ (.int .u64 (l1 P)) = w2 at *
  have k2 : H4 (w2.drew.setCell ⟨k, 1, none⟩ (.int .u64 (l1 (P / MM)))) k (P / MM) 2 := (g2.mo (D _)).put (by obtain ⟨⟨c0, c1, c2, c3⟩, _, _⟩ := g2.mo (D _); simp at c0 c1 c2 c3; simp [At4, go_sem, *])
  exact ⟨((g1.mo (D _)).set1 hk _ _).mo (D _), k2.mo (D _), ((g3.mo (D _)).set1 (by omega) _ _).mo (D _)⟩
theorem LH.put2 {w wr : World} {k : Nat} {a b P : Int} (hk : w.heap.size + 1 + 1 + 1 + 1 < k) (h : LH w wr k a b P 2) : LH w ((wr.setCell ⟨k + 1, 2, none⟩ (.int .u64 (l2 P))).drew.setCell ⟨k, 2, none⟩ (.int .u64 (l2 (P / MM)))).drew k a b P 3 := by
  obtain ⟨h1, h2, h3⟩ := h
  have D := fun (w : World) => (Mo.refl w).drew
  have g3 : H4 (wr.setCell ⟨k + 1, 2, none⟩ (.int .u64 (l2 P))) (k + 1) P 3 := h3.put (by obtain ⟨⟨c0, c1, c2, c3⟩, _, _⟩ := h3; simp at c0 c1 c2 c3; simp [At4, go_sem, *])
  have g2 := h2.set1 (show k ≠ k + 1 by omega) 2 (.int .u64 (l2 P))
  have g1 := h1.set1 (show _ < k + 1 by omega) 2 (.int .u64 (l2 P))
  generalize wr.setCell ⟨k + 1, 2, none⟩ (.int .u64 (l2 P)) = w2 at *
  have k2 : H4 (w2.drew.setCell ⟨k, 2, none⟩ (.int .u64 (l2 (P / MM)))) k (P / MM) 3 := (g2.mo (D _)).put (by obtain ⟨⟨c0, c1, c2, c3⟩, _, _⟩ := g2.mo (D _); simp at c0 c1 c2 c3; simp [At4, go_sem, *])
  exact ⟨((g1.mo (D _)).set1 hk _ _).mo (D _), k2.mo (D _), ((g3.mo (D _)).set1 (by omega) _ _).mo (D _)⟩
theorem LH.put3 {w wr : World} {k : Nat} {a b P : Int} (hk : w.heap.size + 1 + 1 + 1 + 1 < k) (h : LH w wr k a b P 3) : LH w ((wr.setCell ⟨k + 1, 3, none⟩ (.int .u64 (l3 P))).drew.setCell ⟨k, 3, none⟩ (.int .u64 (l3 (P / MM)))).drew k a b P 4 := by
  obtain ⟨h1, h2, h3⟩ := h
  have D := fun (w : World) => (Mo.refl w).drew
  have g3 : H4 (wr.setCell ⟨k + 1, 3, none⟩ (.int .u64 (l3 P))) (k + 1) P 4 := h3.put (by obtain ⟨⟨c0, c1, c2, c3⟩, _, _⟩ := h3; simp at c0 c1 c2 c3; simp [At4, go_sem, *])
  have g2 := h2.set1 (show k ≠ k + 1 by omega) 3 (.int .u64 (l3 P))
  have g1 := h1.set1 (show _ < k + 1 by omega) 3 (.int .u64 (l3 P))
  generalize wr.setCell ⟨k + 1, 3, none⟩ (.int .u64 (l3 P)) = w2 at *
  have k2 : H4 (w2.drew.setCell ⟨k, 3, none⟩ (.int .u64 (l3 (P / MM)))) k (P / MM) 4 := (g2.mo (D _)).put (by obtain ⟨⟨c0, c1, c2, c3⟩, _, _⟩ := g2.mo (D _); simp at c0 c1 c2 c3; simp [At4, go_sem, *])
  exact ⟨((g1.mo (D _)).set1 hk _ _).mo (D _), k2.mo (D _), ((g3.mo (D _)).set1 (by omega) _ _).mo (D _)⟩
set_option maxRecDepth 100000 in
set_option maxHeartbeats 4000000 in
theorem rmul_n (A B : Int) (w : World) (hA0 : 0 ≤ A) (hAM : A < MM) (hB0 : 0 ≤ B) (hBM : B < MM) :
    Calls Tryz.prog 155 #[nv A, nv B] w fun e w' => e = .returned (.tuple #[nv (A * B / MM), nv (A * B)]) ∧ Mo w w' := by
  have hz := z62
  have HS : Hid _ := RM.start w A B
  have HB : Hid (B < 2 ^ (32 * 8)) := hBM
  have HA : Hid (A < 2 ^ (32 * 8)) := hAM
  go_enter Tryz.func155, Tryz.ntmps155
  go_wp2
  go_loopw [7] (fun s7 wr => ∃ i : Nat, i ≤ 8 ∧ s7 = .int .i64 i ∧ RM w wr A B (vi A B i)) (fun s _ => 8 - (intOf s).toNat)
  case atStart => exact ⟨0, by decide, rfl, by rw [vi_zero]; exact HS.out⟩
  case round =>
    obtain ⟨i, hi, rfl, ht⟩ := hrel
    clear HS
    by_cases hlt : i < 8
    · have di : decide ((i : Int) < 8) = true := decide_eq_true (by omega)
      go_wp2_with fail
      go_loopw [8, 9] (fun s8 s9 wr => ∃ (k : Nat) (c W : Int), k ≤ 8 ∧ s9 = .int .i64 k ∧ s8 = .int .u64 c ∧ 0 ≤ c ∧ c < 4294967296 ∧ 0 ≤ W ∧ W < 2 ^ (32 * (i + 8)) ∧ W + c * 2 ^ (32 * (i + k)) = vi A B i + dg A i * 2 ^ (32 * i) * (B % 2 ^ (32 * k)) ∧ RM w wr A B W) (fun _ s9 _ => 8 - (intOf s9).toNat)
      case atStart => exact ⟨0, 0, vi A B i, by decide, rfl, rfl, by decide, by decide, (vi_bd i hB0 HB.out).1, (vi_bd i hB0 HB.out).2, inner0 _ _ _ _ _ rfl, ht⟩
      case round =>
        obtain ⟨k, c, W, hk, rfl, rfl, c0, c1, W0, W1, hI, hv⟩ := hrel
        clear ht
        have HI : Hid _ := hI
        have HW : Hid _ := W1
        clear hI W1
        by_cases hk8 : k < 8
        · have dk : decide ((k : Int) < 8) = true := decide_eq_true (by omega)
          obtain ⟨j, hj⟩ : ∃ j : Nat, j = i + k := ⟨_, rfl⟩
          have j16 : j < 16 := by omega
          have hik : (i : Int) + (k : Int) = (j : Int) := by omega
          have wik : IntKind.i64.wrap (j : Int) = (j : Int) := by rw [IntKind.wrap_i64]; omega
          have q1 : (0 : Int) ≤ (j : Int) := by omega
          have q2 : (j : Int) < 16 := by omega
          have HJ : Hid _ := hj
          have bd := carry_bd (dg_bd W j) (dg_bd A i) (dg_bd B k) ⟨c0, c1⟩
          have bw := dg_bd W j
          have u1 : IntKind.u64.wrap (dg A i * dg B k) = dg A i * dg B k := by rw [IntKind.wrap_u64]; omega
          have u2 : IntKind.u64.wrap (dg W j + dg A i * dg B k) = dg W j + dg A i * dg B k := by rw [IntKind.wrap_u64]; omega
          have u3 : IntKind.u64.wrap (dg W j + dg A i * dg B k + c) = dg W j + dg A i * dg B k + c := by rw [IntKind.wrap_u64]; omega
          have BD : Hid _ := bd
          clear hj bd bw
          go_upto_region 9 with fail
          go_cut [10] from 22 to 36 (fun s10 wx => s10 = .int .u64 (dg W j + dg A i * dg B k + c) ∧ RM w wx A B W)
          case first =>
            have hv0 := hv
            obtain ⟨_, ⟨⟨a0, a1, a2, a3⟩, _, y1⟩, ⟨⟨b0, b1, b2, b3⟩, _, y2⟩, _, _, ⟨d, _, y3⟩⟩ := hv0
            have d0 := d j j16
            clear d
            go_region_held3 (fun w' => w'.cell? ⟨w.heap.size, 0, none⟩ = some (.int .u64 (l0 A)) ∧ w'.cell? ⟨w.heap.size, 1, none⟩ = some (.int .u64 (l1 A)) ∧ w'.cell? ⟨w.heap.size, 2, none⟩ = some (.int .u64 (l2 A)) ∧ w'.cell? ⟨w.heap.size, 3, none⟩ = some (.int .u64 (l3 A)) ∧ w'.cell? ⟨w.heap.size + 1, 0, none⟩ = some (.int .u64 (l0 B)) ∧ w'.cell? ⟨w.heap.size + 1, 1, none⟩ = some (.int .u64 (l1 B)) ∧ w'.cell? ⟨w.heap.size + 1, 2, none⟩ = some (.int .u64 (l2 B)) ∧ w'.cell? ⟨w.heap.size + 1, 3, none⟩ = some (.int .u64 (l3 B)) ∧ w'.cell? ⟨w.heap.size + 1 + 1 + 1 + 1, j, none⟩ = some (.int .u64 (dg W j))) (simp [go_sem, *])
              (first | (go_at_call 183; have m40 := m4; refine (half_any _ _ _ (by assumption)).mono ?_; rintro e w5 ⟨rfl, hm5⟩; have m5 : Mo w4 w5 := Mo.trans (by repeat (first | with_reducible exact Mo.refl _ | with_reducible apply Mo.drew | with_reducible apply Mo.alloc)) hm5; have v5 := v4.mo m5; have v5z := v5; obtain ⟨_, ⟨⟨g0, g1, g2, g3⟩, _, z4⟩, ⟨⟨h0, h1, h2, h3⟩, _, z5⟩, _, _, ⟨ee, _, z6⟩⟩ := v5z; have ee := ee j j16) | (go_at_call 183; refine (half_any _ _ _ (by assumption)).mono ?_; rintro e w4 ⟨rfl, hm4⟩; have m4 : Mo wr w4 := Mo.trans (by repeat (first | with_reducible exact Mo.refl _ | with_reducible apply Mo.drew | with_reducible apply Mo.alloc)) hm4; have v4 := hv.mo m4; have v4z := v4; obtain ⟨_, ⟨⟨e0, e1, e2, e3⟩, _, z1⟩, ⟨⟨f0, f1, f2, f3⟩, _, z2⟩, _, _, ⟨dd, _, z3⟩⟩ := v4z; have dd := dd j j16))
            all_goals
              go_wp2
              go_meet
              case rel => exact ⟨rfl, v5⟩
          case rest =>
            clear hv
            obtain ⟨rfl, hv⟩ := hcut
            have bd := BD.out
            obtain ⟨_, _, s0, s1⟩ := bd
            generalize hs : dg W j + dg A i * dg B k + c = s at *
            have hv0 := hv
            obtain ⟨_, _, _, _, _, ⟨d, df, y3⟩⟩ := hv0
            have d0 := d j j16
            have df := fun o => df o
            clear d BD u1 u2 u3
            have v2 := hv.put (j := j) (n := s % 4294967296) j16 (by omega) (by omega)
            have HS2 : Hid _ := hs
            clear hs hv
            go_wp2
            go_roundw
            case rel =>
              have hj := HJ.out
              have hI := inner HI.out
              rw [← hj, HS2.out] at hI
              have b2 := dg_set_bd (n := s % 4294967296) W0 HW.out (show j < i + 8 by omega) (by omega) (by omega)
              refine ⟨k + 1, s / 4294967296, _, by omega, by go_num, by go_num, by omega, by omega, b2.1, b2.2, hI, v2⟩
            case measure => simp [intOf]; omega
        · have k8 : k = 8 := by omega
          subst k8
          obtain ⟨j, hj⟩ : ∃ j : Nat, j = i + 8 := ⟨_, rfl⟩
          have j16 : j < 16 := by omega
          have hik : (i : Int) + 8 = (j : Int) := by omega
          have wik : IntKind.i64.wrap (j : Int) = (j : Int) := by rw [IntKind.wrap_i64]; omega
          have q1 : (0 : Int) ≤ (j : Int) := by omega
          have q2 : (j : Int) < 16 := by omega
          have HJ : Hid _ := hj
          clear hj
          have hv0 := hv
          obtain ⟨_, _, _, _, _, ⟨d, df, y3⟩⟩ := hv0
          have d0 := d j j16
          have df := fun o => df o
          clear d
          have v2 := hv.put (j := j) (n := c) j16 c0 c1
          go_wp2
          go_roundw
          case rel =>
            have hj := HJ.out
            have hI := HI.out
            rw [mod_last hB0 HB.out, ← vi_succ] at hI
            refine ⟨i + 1, by omega, by go_num, ?_⟩
            rw [← hI, ← outer W0 HW.out, ← hj]
            exact v2
          case measure => simp [intOf]; omega
    · have i8 : i = 8 := by omega
      subst i8
      rw [vi_last hA0 HA.out] at ht
      obtain ⟨P, hP⟩ : ∃ P, P = A * B := ⟨_, rfl⟩
      rw [← hP] at ht
      have HP : Hid _ := hP
      clear hP
      have ht2 : LH w ((wr.alloc (.cells #[.int .u64 0, .int .u64 0, .int .u64 0, .int .u64 0] 24)).alloc (.cells #[.int .u64 0, .int .u64 0, .int .u64 0, .int .u64 0] 24)) wr.heap.size A B P 0 := LH.start ht
      have HT : Hid _ := ht2
      have hws : w.heap.size + 1 + 1 + 1 + 1 < wr.heap.size := ht.2.2.2.2.2.2.2
      clear ht ht2
      go_wp2_with fail
      go_loopw [13] (fun s13 wx => ∃ i : Nat, i ≤ 4 ∧ s13 = .int .i64 i ∧ LH w wx wr.heap.size A B P i) (fun s _ => 4 - (intOf s).toNat)
      case atStart => exact ⟨0, by decide, rfl, HT.out⟩
      case round =>
        obtain ⟨i, hi, rfl, ht⟩ := hrel
        clear HT
        have hq : i = 0 ∨ i = 1 ∨ i = 2 ∨ i = 3 ∨ i = 4 := by omega
        rcases hq with rfl | rfl | rfl | rfl | rfl
        · have htz := ht
          obtain ⟨⟨m1, n1, n2, n3, n4, ⟨d, _, y3⟩⟩, ⟨⟨h0, h1, h2, h3⟩, fh, z1⟩, ⟨⟨g0, g1, g2, g3⟩, fg, z2⟩⟩ := ht
          have d0 := d 0 (by decide)
          have d1 := d 1 (by decide)
          have d8 := d 8 (by decide)
          have d9 := d 9 (by decide)
          have fh := fun o => fh o
          have fg := fun o => fg o
          have e0 : dg P 0 + dg P 1 * 4294967296 = l0 P := by simp [dg, l0]; omega
          rw [show dg P 8 = dg (P / MM) 0 from dg_up P 0] at d8
          rw [show dg P 9 = dg (P / MM) 1 from dg_up P 1] at d9
          have e1 : dg (P / MM) 0 + dg (P / MM) 1 * 4294967296 = l0 (P / MM) := by simp [dg, l0]; omega
          simp at h0 h1 h2 h3 g0 g1 g2 g3
          clear d
          have b0 := dg_bd P 0
          have b1 := dg_bd P 1
          have b8 := dg_bd (P / MM) 0
          have b9 := dg_bd (P / MM) 1
          have ht2 := LH.put0 hws htz
          have HT : Hid _ := ht2
          clear htz ht2
          go_wp2
          go_region
          all_goals
            go_wp2
            go_region
            all_goals
              go_wp2
              go_roundw
              case rel => exact ⟨1, by decide, rfl, HT.out⟩
              case measure => decide
        · have htz := ht
          obtain ⟨⟨m1, n1, n2, n3, n4, ⟨d, _, y3⟩⟩, ⟨⟨h0, h1, h2, h3⟩, fh, z1⟩, ⟨⟨g0, g1, g2, g3⟩, fg, z2⟩⟩ := ht
          have d0 := d 2 (by decide)
          have d1 := d 3 (by decide)
          have d8 := d 10 (by decide)
          have d9 := d 11 (by decide)
          have fh := fun o => fh o
          have fg := fun o => fg o
          have e0 : dg P 2 + dg P 3 * 4294967296 = l1 P := by simp [dg, l1]; omega
          rw [show dg P 10 = dg (P / MM) 2 from dg_up P 2] at d8
          rw [show dg P 11 = dg (P / MM) 3 from dg_up P 3] at d9
          have e1 : dg (P / MM) 2 + dg (P / MM) 3 * 4294967296 = l1 (P / MM) := by simp [dg, l1]; omega
          simp at h0 h1 h2 h3 g0 g1 g2 g3
          clear d
          have b0 := dg_bd P 2
          have b1 := dg_bd P 3
          have b8 := dg_bd (P / MM) 2
          have b9 := dg_bd (P / MM) 3
          have ht2 := LH.put1 hws htz
          have HT : Hid _ := ht2
          clear htz ht2
          go_wp2
          go_region
          all_goals
            go_wp2
            go_region
            all_goals
              go_wp2
              go_roundw
              case rel => exact ⟨2, by decide, rfl, HT.out⟩
              case measure => decide
        · have htz := ht
          obtain ⟨⟨m1, n1, n2, n3, n4, ⟨d, _, y3⟩⟩, ⟨⟨h0, h1, h2, h3⟩, fh, z1⟩, ⟨⟨g0, g1, g2, g3⟩, fg, z2⟩⟩ := ht
          have d0 := d 4 (by decide)
          have d1 := d 5 (by decide)
          have d8 := d 12 (by decide)
          have d9 := d 13 (by decide)
          have fh := fun o => fh o
          have fg := fun o => fg o
          have e0 : dg P 4 + dg P 5 * 4294967296 = l2 P := by simp [dg, l2]; omega
          rw [show dg P 12 = dg (P / MM) 4 from dg_up P 4] at d8
          rw [show dg P 13 = dg (P / MM) 5 from dg_up P 5] at d9
          have e1 : dg (P / MM) 4 + dg (P / MM) 5 * 4294967296 = l2 (P / MM) := by simp [dg, l2]; omega
          simp at h0 h1 h2 h3 g0 g1 g2 g3
          clear d
          have b0 := dg_bd P 4
          have b1 := dg_bd P 5
          have b8 := dg_bd (P / MM) 4
          have b9 := dg_bd (P / MM) 5
          have ht2 := LH.put2 hws htz
          have HT : Hid _ := ht2
          clear htz ht2
          go_wp2
          go_region
          all_goals
            go_wp2
            go_region
            all_goals
              go_wp2
              go_roundw
              case rel => exact ⟨3, by decide, rfl, HT.out⟩
              case measure => decide
        · have htz := ht
          obtain ⟨⟨m1, n1, n2, n3, n4, ⟨d, _, y3⟩⟩, ⟨⟨h0, h1, h2, h3⟩, fh, z1⟩, ⟨⟨g0, g1, g2, g3⟩, fg, z2⟩⟩ := ht
          have d0 := d 6 (by decide)
          have d1 := d 7 (by decide)
          have d8 := d 14 (by decide)
          have d9 := d 15 (by decide)
          have fh := fun o => fh o
          have fg := fun o => fg o
          have e0 : dg P 6 + dg P 7 * 4294967296 = l3 P := by simp [dg, l3]; omega
          rw [show dg P 14 = dg (P / MM) 6 from dg_up P 6] at d8
          rw [show dg P 15 = dg (P / MM) 7 from dg_up P 7] at d9
          have e1 : dg (P / MM) 6 + dg (P / MM) 7 * 4294967296 = l3 (P / MM) := by simp [dg, l3]; omega
          simp at h0 h1 h2 h3 g0 g1 g2 g3
          clear d
          have b0 := dg_bd P 6
          have b1 := dg_bd P 7
          have b8 := dg_bd (P / MM) 6
          have b9 := dg_bd (P / MM) 7
          have ht2 := LH.put3 hws htz
          have HT : Hid _ := ht2
          clear htz ht2
          go_wp2
          go_region
          all_goals
            go_wp2
            go_region
            all_goals
              go_wp2
              go_roundw
              case rel => exact ⟨4, by decide, rfl, HT.out⟩
              case measure => decide
        · obtain ⟨⟨m1, n1, n2, ⟨⟨x0, x1, x2, x3⟩, fx, z4⟩, ⟨⟨y0, y1, y2, y3⟩, fy, z5⟩, _⟩, ⟨⟨h0, h1, h2, h3⟩, _, z1⟩, ⟨⟨g0, g1, g2, g3⟩, _, z2⟩⟩ := ht
          simp at h0 h1 h2 h3 g0 g1 g2 g3
          have fx := fun o => fx o
          have fy := fun o => fy o
          clear n1 n2
          go_wp2
          go_region
          all_goals
            go_wp2
            refine bodyPost_ret (v := .tuple #[nv (P / MM), nv P]) (by simp [results, Tryz.results155, go_sem, *]) rfl ?_
            refine ⟨by rw [← HP.out], ?_⟩
            repeat (first | with_reducible exact m1 | with_reducible apply Mo.drew | with_reducible apply Mo.drewN | with_reducible refine Mo.setCell ?_ (by simp <;> omega) _)

theorem addc_eq {a0 a1 a2 a3 b0 b1 b2 b3 n : Int} (_ha : U4 a0 a1 a2 a3) (_hb : U4 b0 b1 b2 b3) (hn : n = vl a0 a1 a2 a3 + vl b0 b1 b2 b3) :
   (a0 + b0) % 18446744073709551616 = l0 n ∧ (a1 + b1 + (a0 + b0) / 18446744073709551616) % 18446744073709551616 = l1 n ∧
   (a2 + b2 + (a1 + b1 + (a0 + b0) / 18446744073709551616) / 18446744073709551616) % 18446744073709551616 = l2 n ∧
   (a3 + b3 + (a2 + b2 + (a1 + b1 + (a0 + b0) / 18446744073709551616) / 18446744073709551616) / 18446744073709551616) % 18446744073709551616 = l3 n ∧
   (a3 + b3 + (a2 + b2 + (a1 + b1 + (a0 + b0) / 18446744073709551616) / 18446744073709551616) / 18446744073709551616) / 18446744073709551616 = n / MM := by
  subst hn
  unfold U4 U1 at _ha _hb; unfold vl l0 l1 l2 l3 MM
  omega

set_option maxHeartbeats 2000000 in
theorem addCarry_any (a0 a1 a2 a3 b0 b1 b2 b3 : Int) (w : World) (ha : U4 a0 a1 a2 a3) (hb : U4 b0 b1 b2 b3) :
    Calls Tryz.prog 224 #[.agg #[.int .u64 a0, .int .u64 a1, .int .u64 a2, .int .u64 a3], .agg #[.int .u64 b0, .int .u64 b1, .int .u64 b2, .int .u64 b3]] w fun e w' => 
      e = .returned (.tuple #[nv (vl a0 a1 a2 a3 + vl b0 b1 b2 b3), .int .u64 ((vl a0 a1 a2 a3 + vl b0 b1 b2 b3) / MM)]) ∧ Mo w w' := by
  have ha' := ha
  have hb' := hb
  obtain ⟨⟨p0, q0⟩, ⟨p1, q1⟩, ⟨p2, q2⟩, ⟨p3, q3⟩⟩ := ha'
  obtain ⟨⟨r0, s0⟩, ⟨r1, s1⟩, ⟨r2, s2⟩, ⟨r3, s3⟩⟩ := hb'
  have k1 : 0 ≤ (a0 + b0) / 18446744073709551616 := by omega
  have k1' : (a0 + b0) / 18446744073709551616 ≤ 1 := by omega
  have k2 : 0 ≤ (a1 + b1 + (a0 + b0) / 18446744073709551616) / 18446744073709551616 := by omega
  have k2' : (a1 + b1 + (a0 + b0) / 18446744073709551616) / 18446744073709551616 ≤ 1 := by omega
  have k3 : 0 ≤ (a2 + b2 + (a1 + b1 + (a0 + b0) / 18446744073709551616) / 18446744073709551616) / 18446744073709551616 := by omega
  have k3' : (a2 + b2 + (a1 + b1 + (a0 + b0) / 18446744073709551616) / 18446744073709551616) / 18446744073709551616 ≤ 1 := by omega
  go_enter Tryz.func224, Tryz.ntmps224
  go_wp2
  refine wp_loop_rounds 5 ?_
  rw [rounds_succ]
  go_wp2
  go_region_held3 (fun w' => w'.cell? ⟨w.heap.size, 0, none⟩ = some (.int .u64 a0) ∧ w'.cell? ⟨w.heap.size + 1, 0, none⟩ = some (.int .u64 b0)) (simp [go_sem, World.cell?_alloc_past])
    (first | simp only [add64_0 a0 b0 p0 r0])
  go_wp2
  rw [rounds_succ]
  go_wp2
  go_region_held3 (fun w' => w'.cell? ⟨w.heap.size, 1, none⟩ = some (.int .u64 a1) ∧ w'.cell? ⟨w.heap.size + 1, 1, none⟩ = some (.int .u64 b1)) (simp [go_sem, World.cell?_alloc_past])
    (first | simp only [add64 a1 b1 _ p1 r1 k1 k1'])
  go_wp2
  rw [rounds_succ]
  go_wp2
  go_region_held3 (fun w' => w'.cell? ⟨w.heap.size, 2, none⟩ = some (.int .u64 a2) ∧ w'.cell? ⟨w.heap.size + 1, 2, none⟩ = some (.int .u64 b2)) (simp [go_sem, World.cell?_alloc_past])
    (first | simp only [add64 a2 b2 _ p2 r2 k2 k2'])
  go_wp2
  rw [rounds_succ]
  go_wp2
  go_region_held3 (fun w' => w'.cell? ⟨w.heap.size, 3, none⟩ = some (.int .u64 a3) ∧ w'.cell? ⟨w.heap.size + 1, 3, none⟩ = some (.int .u64 b3)) (simp [go_sem, World.cell?_alloc_past])
    (first | simp only [add64 a3 b3 _ p3 r3 k3 k3'])
  go_wp2
  rw [rounds_succ]
  go_wp2
  refine bodyPost_ret (by simp [results, Tryz.results224, go_sem]; rfl) rfl ?_
  obtain ⟨e0, e1, e2, e3, e4⟩ := addc_eq ha hb rfl
  rw [nv_of e0 e1 e2 e3, e4]
  refine ⟨rfl, ?_⟩
  repeat (first | exact Mo.refl _ | apply Mo.drew | apply Mo.alloc)

theorem subc_eq {a0 a1 a2 a3 b0 b1 b2 b3 n c1 c2 c3 : Int} (_ha : U4 a0 a1 a2 a3) (_hb : U4 b0 b1 b2 b3) (hn : n = vl a0 a1 a2 a3 - vl b0 b1 b2 b3) (h1 : c1 = bw a0 b0 0) (h2 : c2 = bw a1 b1 c1) (h3 : c3 = bw a2 b2 c2) :
   (a0 - b0) % 18446744073709551616 = l0 (n % MM) ∧ (a1 - b1 - c1) % 18446744073709551616 = l1 (n % MM) ∧ (a2 - b2 - c2) % 18446744073709551616 = l2 (n % MM) ∧ (a3 - b3 - c3) % 18446744073709551616 = l3 (n % MM) ∧ bw a3 b3 c3 = -(n / MM) := by
  subst hn
  unfold bw at *
  unfold U4 U1 at _ha _hb; unfold vl l0 l1 l2 l3 MM
  omega

set_option maxHeartbeats 2000000 in
theorem subBorrow_any (a0 a1 a2 a3 b0 b1 b2 b3 : Int) (w : World) (ha : U4 a0 a1 a2 a3) (hb : U4 b0 b1 b2 b3) :
    Calls Tryz.prog 225 #[.agg #[.int .u64 a0, .int .u64 a1, .int .u64 a2, .int .u64 a3], .agg #[.int .u64 b0, .int .u64 b1, .int .u64 b2, .int .u64 b3]] w fun e w' =>
      e = .returned (.tuple #[nv ((vl a0 a1 a2 a3 - vl b0 b1 b2 b3) % MM), .int .u64 (-((vl a0 a1 a2 a3 - vl b0 b1 b2 b3) / MM))]) ∧ Mo w w' := by
  have ha' := ha
  have hb' := hb
  obtain ⟨⟨p0, q0⟩, ⟨p1, q1⟩, ⟨p2, q2⟩, ⟨p3, q3⟩⟩ := ha'
  obtain ⟨⟨r0, s0⟩, ⟨r1, s1⟩, ⟨r2, s2⟩, ⟨r3, s3⟩⟩ := hb'
  obtain ⟨k1, k1'⟩ := bw_bd p0 q0 r0 s0 (Int.le_refl 0) (by decide)
  obtain ⟨k2, k2'⟩ := bw_bd p1 q1 r1 s1 k1 k1'
  obtain ⟨k3, k3'⟩ := bw_bd p2 q2 r2 s2 k2 k2'
  go_enter Tryz.func225, Tryz.ntmps225
  go_wp2
  refine wp_loop_rounds 5 ?_
  rw [rounds_succ]
  go_wp2
  go_region_held3 (fun w' => w'.cell? ⟨w.heap.size, 0, none⟩ = some (.int .u64 a0) ∧ w'.cell? ⟨w.heap.size + 1, 0, none⟩ = some (.int .u64 b0)) (simp [go_sem, World.cell?_alloc_past])
    (first | simp only [sub64_0 a0 b0 p0 q0 r0 s0])
  go_wp2
  rw [rounds_succ]
  go_wp2
  go_region_held3 (fun w' => w'.cell? ⟨w.heap.size, 1, none⟩ = some (.int .u64 a1) ∧ w'.cell? ⟨w.heap.size + 1, 1, none⟩ = some (.int .u64 b1)) (simp [go_sem, World.cell?_alloc_past])
    (first | simp only [sub64 a1 b1 _ p1 q1 r1 s1 k1 k1'])
  go_wp2
  rw [rounds_succ]
  go_wp2
  go_region_held3 (fun w' => w'.cell? ⟨w.heap.size, 2, none⟩ = some (.int .u64 a2) ∧ w'.cell? ⟨w.heap.size + 1, 2, none⟩ = some (.int .u64 b2)) (simp [go_sem, World.cell?_alloc_past])
    (first | simp only [sub64 a2 b2 _ p2 q2 r2 s2 k2 k2'])
  go_wp2
  rw [rounds_succ]
  go_wp2
  go_region_held3 (fun w' => w'.cell? ⟨w.heap.size, 3, none⟩ = some (.int .u64 a3) ∧ w'.cell? ⟨w.heap.size + 1, 3, none⟩ = some (.int .u64 b3)) (simp [go_sem, World.cell?_alloc_past])
    (first | simp only [sub64 a3 b3 _ p3 q3 r3 s3 k3 k3'])
  go_wp2
  rw [rounds_succ]
  go_wp2
  refine bodyPost_ret (by simp [results, Tryz.results225, go_sem]; rfl) rfl ?_
  obtain ⟨e0, e1, e2, e3, e4⟩ := subc_eq ha hb rfl rfl rfl rfl
  rw [nv_of e0 e1 e2 e3, e4]
  refine ⟨rfl, ?_⟩
  repeat (first | exact Mo.refl _ | apply Mo.drew | apply Mo.alloc)

set_option maxHeartbeats 1000000 in
theorem add_any (a0 a1 a2 a3 b0 b1 b2 b3 : Int) (w : World) (ha : U4 a0 a1 a2 a3) (hb : U4 b0 b1 b2 b3) :
    Calls Tryz.prog 207 #[.agg #[.int .u64 a0, .int .u64 a1, .int .u64 a2, .int .u64 a3], .agg #[.int .u64 b0, .int .u64 b1, .int .u64 b2, .int .u64 b3]] w fun e w' =>
      e = .returned (.tuple #[nv (vl a0 a1 a2 a3 + vl b0 b1 b2 b3), .bool (ov (vl a0 a1 a2 a3 + vl b0 b1 b2 b3))]) ∧ Mo w w' := by
  rw [← ov_ne ha hb]
  go_enter Tryz.func207, Tryz.ntmps207
  go_wp2_with fail
  refine (addCarry_any a0 a1 a2 a3 b0 b1 b2 b3 _ ha hb).mono ?_
  rintro e w1 ⟨rfl, hm⟩
  have hc := hm.cell
  have hf := hm.2
  have hz := hm.size
  simp only [World.size_alloc] at hz hc
  have hz2 : w.heap.size + 1 + 1 < w1.heap.size := by omega
  go_wp2
  refine bodyPost_ret (by simp [results, Tryz.results207, go_sem, hc, hz2]; rfl) rfl ?_
  refine ⟨rfl, ?_⟩
  repeat (first | exact Mo.refl _ | with_reducible apply Mo.drew | with_reducible apply Mo.drewN | with_reducible apply Mo.alloc | with_reducible refine Mo.setCell ?_ (by simp <;> omega) _ | with_reducible refine Mo.trans ?_ (by assumption))

set_option maxHeartbeats 1000000 in
theorem sub_any (a0 a1 a2 a3 b0 b1 b2 b3 : Int) (w : World) (ha : U4 a0 a1 a2 a3) (hb : U4 b0 b1 b2 b3) :
    Calls Tryz.prog 210 #[.agg #[.int .u64 a0, .int .u64 a1, .int .u64 a2, .int .u64 a3], .agg #[.int .u64 b0, .int .u64 b1, .int .u64 b2, .int .u64 b3]] w fun e w' =>
      e = .returned (.tuple #[nv ((vl a0 a1 a2 a3 - vl b0 b1 b2 b3) % MM), .bool (un (vl a0 a1 a2 a3 - vl b0 b1 b2 b3))]) ∧ Mo w w' := by
  rw [← un_ne ha hb]
  go_enter Tryz.func210, Tryz.ntmps210
  go_wp2_with fail
  refine (subBorrow_any a0 a1 a2 a3 b0 b1 b2 b3 _ ha hb).mono ?_
  rintro e w1 ⟨rfl, hm⟩
  have hc := hm.cell
  have hf := hm.2
  have hz := hm.size
  simp only [World.size_alloc] at hz hc
  have hz2 : w.heap.size + 1 + 1 < w1.heap.size := by omega
  go_wp2
  refine bodyPost_ret (by simp [results, Tryz.results210, go_sem, hc, hz2]; rfl) rfl ?_
  refine ⟨rfl, ?_⟩
  repeat (first | exact Mo.refl _ | with_reducible apply Mo.drew | with_reducible apply Mo.drewN | with_reducible apply Mo.alloc | with_reducible refine Mo.setCell ?_ (by simp <;> omega) _ | with_reducible refine Mo.trans ?_ (by assumption))

set_option maxHeartbeats 400000 in
theorem from20_any (u : Int) (w : World) (h : U1 u) :
    Calls Tryz.prog 159 #[.int .u64 u] w fun e w' => e = .returned (nv u) ∧ Mo w w' := by
  have e0 : l0 u = u := by unfold U1 at h; unfold l0; omega
  have e1 : l1 u = 0 := by unfold U1 at h; unfold l1; omega
  have e2 : l2 u = 0 := by unfold U1 at h; unfold l2; omega
  have e3 : l3 u = 0 := by unfold U1 at h; unfold l3; omega
  rw [nv, e0, e1, e2, e3]
  clear e0 e1 e2 e3
  go_enter Tryz.func159, Tryz.ntmps159
  go_wp2
  refine bodyPost_ret (by simp [results, Tryz.results159, go_sem]; rfl) rfl ?_
  refine ⟨rfl, ?_⟩
  repeat (first | exact Mo.refl _ | with_reducible apply Mo.drew | with_reducible apply Mo.drewN | with_reducible apply Mo.alloc | with_reducible refine Mo.setCell ?_ (by simp <;> omega) _ | with_reducible refine Mo.trans ?_ (by assumption))

set_option maxHeartbeats 400000 in
theorem from34_any (u : Int) (w : World) (h : U1 u) :
    Calls Tryz.prog 99 #[.int .u64 u] w fun e w' => e = .returned (nv u) ∧ Mo w w' := by
  have e0 : l0 u = u := by unfold U1 at h; unfold l0; omega
  have e1 : l1 u = 0 := by unfold U1 at h; unfold l1; omega
  have e2 : l2 u = 0 := by unfold U1 at h; unfold l2; omega
  have e3 : l3 u = 0 := by unfold U1 at h; unfold l3; omega
  rw [nv, e0, e1, e2, e3]
  clear e0 e1 e2 e3
  go_enter Tryz.func99, Tryz.ntmps99
  go_wp2
  refine bodyPost_ret (by simp [results, Tryz.results99, go_sem]; rfl) rfl ?_
  refine ⟨rfl, ?_⟩
  repeat (first | exact Mo.refl _ | with_reducible apply Mo.drew | with_reducible apply Mo.drewN | with_reducible apply Mo.alloc | with_reducible refine Mo.setCell ?_ (by simp <;> omega) _ | with_reducible refine Mo.trans ?_ (by assumption))

set_option maxHeartbeats 400000 in
theorem not_any (a0 a1 a2 a3 : Int) (w : World) (ha : U4 a0 a1 a2 a3) :
    Calls Tryz.prog 203 #[.agg #[.int .u64 a0, .int .u64 a1, .int .u64 a2, .int .u64 a3]] w fun e w' => e = .returned (nv (MM - 1 - vl a0 a1 a2 a3)) ∧ Mo w w' := by
  have e0 : 18446744073709551615 - a0 = l0 (MM - 1 - vl a0 a1 a2 a3) := by unfold U4 U1 at ha; unfold l0 MM vl; omega
  have e1 : 18446744073709551615 - a1 = l1 (MM - 1 - vl a0 a1 a2 a3) := by unfold U4 U1 at ha; unfold l1 MM vl; omega
  have e2 : 18446744073709551615 - a2 = l2 (MM - 1 - vl a0 a1 a2 a3) := by unfold U4 U1 at ha; unfold l2 MM vl; omega
  have e3 : 18446744073709551615 - a3 = l3 (MM - 1 - vl a0 a1 a2 a3) := by unfold U4 U1 at ha; unfold l3 MM vl; omega
  rw [nv, ← e0, ← e1, ← e2, ← e3]
  clear e0 e1 e2 e3
  obtain ⟨⟨p0, q0⟩, ⟨p1, q1⟩, ⟨p2, q2⟩, ⟨p3, q3⟩⟩ := ha
  go_enter Tryz.func203, Tryz.ntmps203
  go_wp2
  simp only [bnot a0 p0 q0, bnot a1 p1 q1, bnot a2 p2 q2, bnot a3 p3 q3]
  refine bodyPost_ret (by simp [results, Tryz.results203, go_sem]; rfl) rfl ?_
  refine ⟨rfl, ?_⟩
  repeat (first | exact Mo.refl _ | with_reducible apply Mo.drew | with_reducible apply Mo.drewN | with_reducible apply Mo.alloc | with_reducible refine Mo.setCell ?_ (by simp <;> omega) _ | with_reducible refine Mo.trans ?_ (by assumption))
/-- The two words of a product of two words. -/
def mh (x y : Int) : Int := x * y / 18446744073709551616
def ml (x y : Int) : Int := x * y % 18446744073709551616
theorem mul64 (x y : Int) (hx : U1 x) (hy : U1 y) (w : World) :
    Calls Tryz.prog 228 #[.int .u64 x, .int .u64 y] w fun e w' => e = .returned (.tuple #[.int .u64 (mh x y), .int .u64 (ml x y)]) ∧ w' = w := by
  obtain ⟨x0, x1⟩ := hx
  obtain ⟨y0, y1⟩ := hy
  obtain ⟨x, rfl⟩ := Int.eq_ofNat_of_zero_le x0
  obtain ⟨y, rfl⟩ := Int.eq_ofNat_of_zero_le y0
  have e1 : mh (x : Int) y = ((x * y / 18446744073709551616 : Nat) : Int) := by unfold mh; omega
  have e2 : ml (x : Int) y = ((x * y % 18446744073709551616 : Nat) : Int) := by unfold ml; omega
  rw [e1, e2]
  exact Tryz.bits_Mul64 x y (by omega) (by omega) w

theorem mul_bd {x y : Int} (hx : U1 x) (hy : U1 y) : 0 ≤ x * y ∧ x * y ≤ 340282366920938463426481119284349108225 := by
  obtain ⟨x0, x1⟩ := hx
  obtain ⟨y0, y1⟩ := hy
  refine ⟨Int.mul_nonneg x0 y0, ?_⟩
  exact Int.mul_le_mul (by omega : x ≤ 18446744073709551615) (by omega : y ≤ 18446744073709551615) y0 (by decide)
theorem mh_bd {x y : Int} (hx : U1 x) (hy : U1 y) : 0 ≤ mh x y ∧ mh x y ≤ 18446744073709551614 := by
  have h := mul_bd hx hy; unfold mh; omega
theorem ml_bd {x y : Int} (_hx : U1 x) (_hy : U1 y) : 0 ≤ ml x y ∧ ml x y < 18446744073709551616 := by
  unfold ml; omega

theorem mull_eq {a0 a1 a2 a3 c t1 t2 t3 t4 : Int} (ha : U4 a0 a1 a2 a3) (hc : U1 c) (h1 : t1 = mh a0 c) (h2 : t2 = mh a1 c + (ml a1 c + t1) / 18446744073709551616) (h3 : t3 = mh a2 c + (ml a2 c + t2) / 18446744073709551616) (h4 : t4 = mh a3 c + (ml a3 c + t3) / 18446744073709551616) :
    ml a0 c = l0 (vl a0 a1 a2 a3 * c) ∧ (ml a1 c + t1) % 18446744073709551616 = l1 (vl a0 a1 a2 a3 * c) ∧ (ml a2 c + t2) % 18446744073709551616 = l2 (vl a0 a1 a2 a3 * c) ∧ (ml a3 c + t3) % 18446744073709551616 = l3 (vl a0 a1 a2 a3 * c) ∧ t4 = vl a0 a1 a2 a3 * c / MM := by
  obtain ⟨g0, g1, g2, g3⟩ := ha
  have b0 := mul_bd g0 hc
  have b1 := mul_bd g1 hc
  have b2 := mul_bd g2 hc
  have b3 := mul_bd g3 hc
  have e : vl a0 a1 a2 a3 * c = a0 * c + 18446744073709551616 * (a1 * c) + 340282366920938463463374607431768211456 * (a2 * c) + 6277101735386680763835789423207666416102355444464034512896 * (a3 * c) := by
    unfold vl; rw [Int.add_mul, Int.add_mul, Int.add_mul, Int.mul_assoc, Int.mul_assoc, Int.mul_assoc]
  rw [e]
  unfold mh ml at *
  generalize a0 * c = p0 at *
  generalize a1 * c = p1 at *
  generalize a2 * c = p2 at *
  generalize a3 * c = p3 at *
  unfold l0 l1 l2 l3 MM
  omega

set_option maxHeartbeats 2000000 in
theorem mulLimb_raw (a0 a1 a2 a3 c t1 t2 t3 t4 : Int) (w : World) (ha : U4 a0 a1 a2 a3) (hc : U1 c) (h1 : Hid (t1 = mh a0 c)) (h2 : Hid (t2 = mh a1 c + (ml a1 c + t1) / 18446744073709551616)) (h3 : Hid (t3 = mh a2 c + (ml a2 c + t2) / 18446744073709551616)) (h4 : Hid (t4 = mh a3 c + (ml a3 c + t3) / 18446744073709551616)) :
    Calls Tryz.prog 216 #[.agg #[.int .u64 a0, .int .u64 a1, .int .u64 a2, .int .u64 a3], .int .u64 c] w fun e w' =>
      e = .returned (.tuple #[.agg #[.int .u64 (ml a0 c), .int .u64 ((ml a1 c + t1) % 18446744073709551616), .int .u64 ((ml a2 c + t2) % 18446744073709551616), .int .u64 ((ml a3 c + t3) % 18446744073709551616)], .int .u64 t4]) ∧ Mo w w' := by
  have g := ha
  obtain ⟨g0, g1, g2, g3⟩ := g
  obtain ⟨p0, q0⟩ := mh_bd g0 hc
  obtain ⟨r0, s0⟩ := ml_bd g0 hc
  obtain ⟨p1, q1⟩ := mh_bd g1 hc
  obtain ⟨r1, s1⟩ := ml_bd g1 hc
  obtain ⟨p2, q2⟩ := mh_bd g2 hc
  obtain ⟨r2, s2⟩ := ml_bd g2 hc
  obtain ⟨p3, q3⟩ := mh_bd g3 hc
  obtain ⟨r3, s3⟩ := ml_bd g3 hc
  have j1 : 0 ≤ t1 ∧ t1 < 18446744073709551616 := by have := h1.out; omega
  have j2 : 0 ≤ t2 ∧ t2 < 18446744073709551616 := by have := h2.out; omega
  have j3 : 0 ≤ t3 ∧ t3 < 18446744073709551616 := by have := h3.out; omega
  obtain ⟨u1, v1⟩ := j1
  obtain ⟨u2, v2⟩ := j2
  obtain ⟨u3, v3⟩ := j3
  have x1 : mh a0 c + ml a0 c / 18446744073709551616 = t1 := by have := h1.out; omega
  have x2 : mh a1 c + (ml a1 c + t1) / 18446744073709551616 = t2 := h2.out.symm
  have x3 : mh a2 c + (ml a2 c + t2) / 18446744073709551616 = t3 := h3.out.symm
  have x4 : mh a3 c + (ml a3 c + t3) / 18446744073709551616 = t4 := h4.out.symm
  have y1 : ml a0 c % 18446744073709551616 = ml a0 c := by omega
  have i0 : ∀ w : World, (Instr.index 24 (.agg #[.int .u64 a0, .int .u64 a1, .int .u64 a2, .int .u64 a3]) (.int .i64 0)).run Tryz.prog w = .ok (.int .u64 a0) w := fun _ => by kernel_rfl
  have i1 : ∀ w : World, (Instr.index 24 (.agg #[.int .u64 a0, .int .u64 a1, .int .u64 a2, .int .u64 a3]) (.int .i64 1)).run Tryz.prog w = .ok (.int .u64 a1) w := fun _ => by kernel_rfl
  have i2 : ∀ w : World, (Instr.index 24 (.agg #[.int .u64 a0, .int .u64 a1, .int .u64 a2, .int .u64 a3]) (.int .i64 2)).run Tryz.prog w = .ok (.int .u64 a2) w := fun _ => by kernel_rfl
  have i3 : ∀ w : World, (Instr.index 24 (.agg #[.int .u64 a0, .int .u64 a1, .int .u64 a2, .int .u64 a3]) (.int .i64 3)).run Tryz.prog w = .ok (.int .u64 a3) w := fun _ => by kernel_rfl
  go_enter Tryz.func216, Tryz.ntmps216
  go_wp2
  refine wp_loop_rounds 5 ?_
  rw [rounds_succ]
  go_wp2_with (first | (go_at_call 228; refine (mul64 a0 c g0 hc _).mono ?_; rintro e w' ⟨rfl, rfl⟩) | simp only [add64_0 (ml a0 c) 0 r0 (Int.le_refl 0)])
  rw [rounds_succ]
  go_wp2_with (first | (go_at_call 228; refine (mul64 a1 c g1 hc _).mono ?_; rintro e w' ⟨rfl, rfl⟩) | simp only [add64_0 (ml a1 c) t1 r1 u1])
  rw [rounds_succ]
  go_wp2_with (first | (go_at_call 228; refine (mul64 a2 c g2 hc _).mono ?_; rintro e w' ⟨rfl, rfl⟩) | simp only [add64_0 (ml a2 c) t2 r2 u2])
  rw [rounds_succ]
  go_wp2_with (first | (go_at_call 228; refine (mul64 a3 c g3 hc _).mono ?_; rintro e w' ⟨rfl, rfl⟩) | simp only [add64_0 (ml a3 c) t3 r3 u3])
  rw [rounds_succ]
  go_wp2
  refine bodyPost_ret (by simp [results, Tryz.results216, go_sem]; rfl) rfl ?_
  refine ⟨rfl, ?_⟩
  repeat (first | exact Mo.refl _ | with_reducible apply Mo.drew | with_reducible apply Mo.drewN | with_reducible apply Mo.alloc | with_reducible refine Mo.setCell ?_ (by simp <;> omega) _ | with_reducible refine Mo.trans ?_ (by assumption))

theorem mulLimb_any (a0 a1 a2 a3 c : Int) (w : World) (ha : U4 a0 a1 a2 a3) (hc : U1 c) :
    Calls Tryz.prog 216 #[.agg #[.int .u64 a0, .int .u64 a1, .int .u64 a2, .int .u64 a3], .int .u64 c] w fun e w' =>
      e = .returned (.tuple #[nv (vl a0 a1 a2 a3 * c), .int .u64 (vl a0 a1 a2 a3 * c / MM)]) ∧ Mo w w' := by
  refine (mulLimb_raw a0 a1 a2 a3 c _ _ _ _ w ha hc rfl rfl rfl rfl).mono ?_
  rintro e w' ⟨rfl, hm⟩
  obtain ⟨e0, e1, e2, e3, e4⟩ := mull_eq ha hc rfl rfl rfl rfl
  refine ⟨?_, hm⟩
  rw [nv_of e0 e1 e2 e3, e4]
/-- The guess of a limb of the quotient. -/
def gl (r2 r3 b3 : Int) : Int := if b3 ≤ r3 then 18446744073709551615 else (r3 * 18446744073709551616 + r2) / b3
set_option maxHeartbeats 1000000 in
theorem guess_any (r0 r1 r2 r3 b0 b1 b2 b3 : Int) (w : World) (hr : U4 r0 r1 r2 r3) (hb : U4 b0 b1 b2 b3) :
    Calls Tryz.prog 229 #[.agg #[.int .u64 r0, .int .u64 r1, .int .u64 r2, .int .u64 r3], .agg #[.int .u64 b0, .int .u64 b1, .int .u64 b2, .int .u64 b3]] w fun e w' =>
      e = .returned (.int .u64 (gl r2 r3 b3)) ∧ Mo w w' := by
  obtain ⟨⟨p0, q0⟩, ⟨p1, q1⟩, ⟨p2, q2⟩, ⟨p3, q3⟩⟩ := hr
  obtain ⟨⟨u0, v0⟩, ⟨u1, v1⟩, ⟨u2, v2⟩, ⟨u3, v3⟩⟩ := hb
  by_cases h : b3 ≤ r3
  · have e : gl r2 r3 b3 = 18446744073709551615 := by unfold gl; rw [if_pos h]
    rw [e]
    clear e
    go_enter Tryz.func229, Tryz.ntmps229
    go_wp2
    go_ret
    exact ⟨rfl, ((Mo.refl _).alloc _ _).alloc _ _⟩
  · have e : gl r2 r3 b3 = (r3 * 18446744073709551616 + r2) / b3 := by unfold gl; rw [if_neg h]
    rw [e]
    clear e
    have h' : r3 < b3 := by omega
    go_enter Tryz.func229, Tryz.ntmps229
    go_wp2_with (go_at_call 232; refine (div64_any r3 r2 b3 _ p3 h' p2 q2 v3).mono ?_; rintro e w' ⟨rfl, n, rfl⟩)
    go_ret
    exact ⟨rfl, (((Mo.refl _).alloc _ _).alloc _ _).drewN _⟩
/-- The guess is a word, and not below the quotient. -/
theorem gl_bd {r0 r1 r2 r3 b0 b1 b2 b3 x : Int} (hr : U4 r0 r1 r2 r3) (hb : U4 b0 b1 b2 b3) (hx : U1 x) (hlt : vl r0 r1 r2 r3 < vl b0 b1 b2 b3) :
    U1 (gl r2 r3 b3) ∧ (vl r0 r1 r2 r3 * 18446744073709551616 + x) / vl b0 b1 b2 b3 ≤ gl r2 r3 b3 := by
  have rb := vl_bd hr
  have bb := vl_bd hb
  obtain ⟨⟨p0, q0⟩, ⟨p1, q1⟩, ⟨p2, q2⟩, ⟨p3, q3⟩⟩ := hr
  obtain ⟨⟨u0, v0⟩, ⟨u1, v1⟩, ⟨u2, v2⟩, ⟨u3, v3⟩⟩ := hb
  obtain ⟨x0, x1⟩ := hx
  have qlt : (vl r0 r1 r2 r3 * 18446744073709551616 + x) / vl b0 b1 b2 b3 < 18446744073709551616 := by
    apply Int.ediv_lt_of_lt_mul (by omega)
    have : (vl r0 r1 r2 r3 + 1) * 18446744073709551616 ≤ vl b0 b1 b2 b3 * 18446744073709551616 := by omega
    omega
  have qn : 0 ≤ (vl r0 r1 r2 r3 * 18446744073709551616 + x) / vl b0 b1 b2 b3 := Int.ediv_nonneg (by omega) (by omega)
  unfold gl
  by_cases h : b3 ≤ r3
  · rw [if_pos h]
    exact ⟨⟨by decide, by decide⟩, by omega⟩
  · rw [if_neg h]
    refine ⟨⟨Int.ediv_nonneg (by omega) u3, Int.ediv_lt_of_lt_mul (by omega) (by omega)⟩, ?_⟩
    apply (Int.le_ediv_iff_mul_le (by omega)).2
    have m := Int.ediv_mul_le (vl r0 r1 r2 r3 * 18446744073709551616 + x) (show vl b0 b1 b2 b3 ≠ 0 by omega)
    generalize (vl r0 r1 r2 r3 * 18446744073709551616 + x) / vl b0 b1 b2 b3 = q at *
    have m2 : q * (6277101735386680763835789423207666416102355444464034512896 * b3) ≤ q * vl b0 b1 b2 b3 := Int.mul_le_mul_of_nonneg_left (by unfold vl; omega) qn
    rw [Int.mul_left_comm] at m2
    have m3 : vl r0 r1 r2 r3 * 18446744073709551616 + x < 6277101735386680763835789423207666416102355444464034512896 * (r3 * 18446744073709551616 + r2 + 1) := by unfold vl; omega
    omega

/-- What is left and its top limb, of Y = N less D times the guess, whatever its sign. -/
theorem left_eq {r0 r1 r2 r3 x T lo N DG Y : Int} (hN : N = vl r0 r1 r2 r3 * 18446744073709551616 + x) (hT : T = DG / MM) (hlo : lo = DG % MM) (hY : Y = N - DG) :
    (vl x r0 r1 r2 - lo) % MM = Y % MM ∧ IntKind.u64.wrap (IntKind.u64.wrap (r3 - T) - -((vl x r0 r1 r2 - lo) / MM)) = Y / MM % 18446744073709551616 := by
  rw [IntKind.wrap_u64, IntKind.wrap_u64]
  have e : Y = (vl x r0 r1 r2 - lo) + MM * (r3 - T) := by subst hN hY hT hlo; unfold vl MM; omega
  constructor
  · rw [e]; unfold MM; omega
  · rw [e]; unfold MM; omega
theorem back_eq {Y D S : Int} (hS : S = Y % MM + D) : nv S = nv (Y + D) ∧ IntKind.u64.wrap (Y / MM % 18446744073709551616 + S / MM) = (Y + D) / MM % 18446744073709551616 := by
  constructor
  · rw [← nv_mod S, ← nv_mod (Y + D), hS, Int.emod_add_emod]
  · rw [IntKind.wrap_u64, hS]; unfold MM; omega
/-- Where the top limb is not 0, what is left is below 0; else the guess is the quotient. -/
theorem top_says {N D g Y t : Int} (hD : 0 < D) (hD2 : D < MM) (hN : 0 ≤ N) (hg : 0 ≤ g) (hg2 : g < 18446744073709551616) (hq : N / D ≤ g) (hY : Y = N - D * g) (ht : t = Y / MM % 18446744073709551616) :
    (t ≠ 0 → N / D ≤ g - 1 ∧ 1 ≤ g) ∧ (t = 0 → g = N / D ∧ Y = N % D) := by
  have m1 : N < (N / D + 1) * D := Int.lt_ediv_add_one_mul_self N hD
  have m2 : (N / D + 1) * D ≤ (g + 1) * D := Int.mul_le_mul_of_nonneg_right (by omega) (by omega)
  rw [Int.add_mul g, Int.one_mul, Int.mul_comm g] at m2
  have m3 : D * g ≤ D * 18446744073709551615 := Int.mul_le_mul_of_nonneg_left (by omega) (by omega)
  have qn : 0 ≤ N / D := Int.ediv_nonneg hN (by omega)
  have ylt : Y < D := by omega
  refine ⟨fun h => ?_, fun h => ?_⟩
  · have yneg : Y < 0 := by
      apply Int.lt_of_not_ge
      intro hge
      apply h
      rw [ht]
      unfold MM at *
      omega
    have : N / D < g := by
      apply Int.ediv_lt_of_lt_mul hD
      rw [Int.mul_comm]
      omega
    omega
  · have ypos : 0 ≤ Y := by
      apply Int.le_of_not_gt
      intro hlt
      rw [ht] at h
      unfold MM at *
      omega
    have : g ≤ N / D := by
      apply (Int.le_ediv_iff_mul_le hD).2
      rw [Int.mul_comm]
      omega
    have e : g = N / D := by omega
    refine ⟨e, ?_⟩
    rw [hY, e, Int.emod_def]

/-- The world of a step. -/
def DW (w wr : World) (k : Nat) (b0 b1 b2 b3 y0 y1 y2 y3 : Int) : Prop := Mo w wr ∧ w.heap.size + 1 + 1 < k ∧ k < wr.heap.size ∧ At4 wr (w.heap.size + 1) b0 b1 b2 b3 ∧ At4 wr (w.heap.size + 1 + 1) 0 0 0 0 ∧ Fz wr (w.heap.size + 1 + 1) ∧ At4 wr k y0 y1 y2 y3 ∧ Fz wr k
theorem DW.mo {w wr w1 : World} {k : Nat} {b0 b1 b2 b3 y0 y1 y2 y3 : Int} (h : DW w wr k b0 b1 b2 b3 y0 y1 y2 y3) (m : Mo wr w1) : DW w w1 k b0 b1 b2 b3 y0 y1 y2 y3 := by
  obtain ⟨h1, h2, h3, h4, h5, h6, h7, h8⟩ := h
  have := m.size
  exact ⟨h1.trans m, h2, by omega, h4.mo m (by omega), h5.mo m (by omega), h6.mo m, h7.mo m h3, h8.mo m⟩
theorem DW.put {w w1 : World} {k : Nat} {b0 b1 b2 b3 y0 y1 y2 y3 : Int} (h : DW w w1 k b0 b1 b2 b3 y0 y1 y2 y3) (z0 z1 z2 z3 : Int) : DW w ((((w1.setCell ⟨k, 0, none⟩ (.int .u64 z0)).setCell ⟨k, 1, none⟩ (.int .u64 z1)).setCell ⟨k, 2, none⟩ (.int .u64 z2)).setCell ⟨k, 3, none⟩ (.int .u64 z3)) k b0 b1 b2 b3 z0 z1 z2 z3 := by
  obtain ⟨h1, h2, h3, ⟨a0, a1, a2, a3⟩, ⟨c0, c1, c2, c3⟩, h6, ⟨d0, d1, d2, d3⟩, h8⟩ := h
  have le : w.heap.size ≤ k := by omega
  have n1 : ¬ w.heap.size + 1 = k := by omega
  have n2 : ¬ w.heap.size + 1 + 1 = k := by omega
  refine ⟨(((h1.setCell le _).setCell le _).setCell le _).setCell le _, h2, by simpa [World.setCell] using h3, ?_, ?_, ?_, ?_, ?_⟩
  · simp [At4, go_sem, *]
  · simp [At4, go_sem, *]
  · intro o; simp [World.frozen?_setCell, h6 o]
  · simp [At4, go_sem, *]
  · intro o; simp [World.frozen?_setCell, h8 o]

set_option maxHeartbeats 2000000 in
theorem divStep_any (r0 r1 r2 r3 x b0 b1 b2 b3 N D : Int) (w : World) (hr : U4 r0 r1 r2 r3) (hx : U1 x) (hb : U4 b0 b1 b2 b3) (hN : Hid (N = vl r0 r1 r2 r3 * 18446744073709551616 + x)) (hD : Hid (D = vl b0 b1 b2 b3)) (hlt : Hid (vl r0 r1 r2 r3 < D)) :
    Calls Tryz.prog 221 #[.agg #[.int .u64 r0, .int .u64 r1, .int .u64 r2, .int .u64 r3], .int .u64 x, .agg #[.int .u64 b0, .int .u64 b1, .int .u64 b2, .int .u64 b3]] w fun e w' =>
      e = .returned (.tuple #[.int .u64 (N / D), nv (N % D)]) ∧ Mo w w' := by
  have rb := vl_bd hr
  have bb := vl_bd hb
  have gb := gl_bd hr hb hx (by rw [← hD.out]; exact hlt.out)
  have HG : Hid (N / D ≤ gl r2 r3 b3) := by have := gb.2; rw [← hN.out, ← hD.out] at this; exact this
  have HB : Hid ((0 < D ∧ D < MM) ∧ 0 ≤ N) := by
    have a := hlt.out; have c := hD.out; have d := hN.out; unfold U1 at hx
    exact ⟨⟨by omega, by omega⟩, by omega⟩
  have gu := gb.1
  clear gb rb bb
  generalize hgl : gl r2 r3 b3 = g at *
  have Hgl : Hid _ := hgl
  clear hgl
  have gu' := gu
  obtain ⟨g0, g1⟩ := gu'
  go_enter Tryz.func221, Tryz.ntmps221
  go_wp2_with fail
  refine (guess_any r0 r1 r2 r3 b0 b1 b2 b3 _ hr hb).mono ?_
  rintro e w1 ⟨rfl, hm1⟩
  rw [Hgl.out]
  have z1 := hm1.size
  simp only [World.size_alloc] at z1
  have R1 : At4 w1 w.heap.size r0 r1 r2 r3 := At4.mo (by simp [At4, go_sem]) hm1 (by simp; omega)
  have B1 : At4 w1 (w.heap.size + 1) b0 b1 b2 b3 := At4.mo (by simp [At4, go_sem]) hm1 (by simp)
  have Z1 : At4 w1 (w.heap.size + 1 + 1) 0 0 0 0 := At4.mo (by simp [At4, go_sem]) hm1 (by simp)
  have F1 : Fz w1 (w.heap.size + 1 + 1) := Fz.mo (fun o => by simp [go_sem]) hm1
  have M1 : Mo w w1 := ((((Mo.refl _).alloc _ _).alloc _ _).alloc _ _).trans hm1
  clear hm1
  have o1 := R1
  have o2 := B1
  obtain ⟨c0, c1, c2, c3⟩ := o1
  obtain ⟨d0, d1, d2, d3⟩ := o2
  go_wp2_with fail
  refine (mulLimb_any b0 b1 b2 b3 g _ hb gu).mono ?_
  rintro e w2 ⟨rfl, hm2⟩
  rw [← hD.out]
  have z2 := hm2.size
  have R2 := R1.mo hm2 (by omega)
  have B2 := B1.mo hm2 (by omega)
  have Z2 := Z1.mo hm2 (by omega)
  have F2 := F1.mo hm2
  have M2 := M1.trans hm2
  clear c0 c1 c2 c3 d0 d1 d2 d3 R1 B1 Z1 F1 M1
  have o1 := R2
  have s1 : w.heap.size < w2.heap.size := by omega
  obtain ⟨c0, c1, c2, c3⟩ := o1
  generalize hT : D * g / MM = T
  generalize hP : D * g = P at *
  go_wp2_with fail
  refine (subBorrow_any x r0 r1 r2 (l0 P) (l1 P) (l2 P) (l3 P) _ ⟨hx, hr.1, hr.2.1, hr.2.2.1⟩ (u4_lb P)).mono ?_
  rintro e w3 ⟨rfl, hm3⟩
  rw [vl_nv P]
  obtain ⟨f1, f2⟩ := left_eq (r0 := r0) (r1 := r1) (r2 := r2) (r3 := r3) (x := x) (T := T) (lo := P % MM) (N := N) (DG := P) (Y := N - P) hN.out hT.symm rfl rfl
  rw [f1, nv_mod]
  generalize hbo : -((vl x r0 r1 r2 - P % MM) / MM) = bo at *
  generalize ht0 : (N - P) / MM % 18446744073709551616 = t0 at *
  have Ht0 : Hid _ := ht0
  have HP : Hid _ := hP
  have hz3 := hm3.size
  simp only [World.size_alloc] at hz3
  have q1 : (Mo (w2.alloc (.cells #[.int .u64 (l0 P), .int .u64 (l1 P), .int .u64 (l2 P), .int .u64 (l3 P)] 24)) w3) := hm3
  have m0 : Mo w2 w3 := ((Mo.refl _).alloc _ _).trans q1
  have R3 := R2.mo m0 s1
  have B3 := B2.mo m0 (by omega)
  have Z3 := Z2.mo m0 (by omega)
  have F3 := F2.mo m0
  have M3 := M2.trans m0
  have S0 : DW w (w3.alloc (.cells #[.int .u64 (l0 (N - P)), .int .u64 (l1 (N - P)), .int .u64 (l2 (N - P)), .int .u64 (l3 (N - P))] 24)) w3.heap.size b0 b1 b2 b3 (l0 (N - P)) (l1 (N - P)) (l2 (N - P)) (l3 (N - P)) := by
    have a : Mo w3 (w3.alloc (.cells #[.int .u64 (l0 (N - P)), .int .u64 (l1 (N - P)), .int .u64 (l2 (N - P)), .int .u64 (l3 (N - P))] 24)) := (Mo.refl _).alloc _ _
    exact ⟨M3.trans a, by omega, by simp, B3.mo a (by omega), Z3.mo a (by omega), F3.mo a, by simp [At4, go_sem], fun o => by simp [go_sem]⟩
  clear c0 c1 c2 c3 R2 B2 Z2 F2 M2 hm2 hm3 q1 m0 hT hP hbo ht0 f1 B3 Z3 F3 M3
  have s3 : w.heap.size < w3.heap.size := by omega
  obtain ⟨c0, c1, c2, c3⟩ := R3
  go_wp2
  go_loopw [8, 13] (fun s8 s13 wr => ∃ h t Y : Int, s8 = .int .u64 h ∧ s13 = .int .u64 t ∧ 0 ≤ h ∧ h < 18446744073709551616 ∧ 0 ≤ t ∧ t < 18446744073709551616 ∧ N / D ≤ h ∧ Y = N - D * h ∧ t = Y / MM % 18446744073709551616 ∧ DW w wr w3.heap.size b0 b1 b2 b3 (l0 Y) (l1 Y) (l2 Y) (l3 Y)) (fun s8 _ _ => (intOf s8).toNat)
  case atStart =>
    refine ⟨g, t0, N - P, rfl, rfl, g0, g1, ?_, ?_, HG.out, by rw [HP.out], Ht0.out.symm, S0⟩
    · rw [← Ht0.out]; omega
    · rw [← Ht0.out]; omega
  case round =>
    obtain ⟨h, t, Y, rfl, rfl, i1, i2, i3, i4, i5, i6, i7, ht⟩ := hrel
    obtain ⟨ts1, ts2⟩ := top_says HB.out.1.1 HB.out.1.2 HB.out.2 i1 i2 i5 i6 i7
    have HY : Hid (Y = N - D * h) := i6
    have Ht : Hid (t = Y / MM % 18446744073709551616) := i7
    clear i6 i7 i5 S0
    by_cases tz : t = 0
    · obtain ⟨e1, e2⟩ := ts2 tz
      have E1 : Hid _ := e1
      have E2 : Hid _ := e2
      have tb : (t != 0) = false := by rw [tz]; rfl
      clear e1 e2 ts1 ts2 tz
      obtain ⟨k1, k2, k3, K4, ⟨n0, n1, n2, n3⟩, K6, ⟨y0, y1, y2, y3⟩, K8⟩ := ht
      have K6 := fun o => K6 o
      go_wp2
      go_cut [6] from 56 to 57 (fun s6 wx => s6 = .int .u64 h ∧ At4 wx (w.heap.size + 1 + 1) (l0 Y) (l1 Y) (l2 Y) (l3 Y) ∧ Mo w wx)
      case first =>
        go_region
        go_wp2
        go_meet
        case rel =>
          refine ⟨rfl, by simp [At4, go_sem, n0, n1, n2, n3], ?_⟩
          repeat (first | with_reducible exact k1 | with_reducible apply Mo.drew | with_reducible refine Mo.setCell ?_ (by simp <;> omega) _)
      case rest =>
        obtain ⟨rfl, ⟨P0, P1, P2, P3⟩, hmo⟩ := hcut
        go_wp2
        refine bodyPost_ret (v := .tuple #[.int .u64 h, nv Y]) (by simp [results, Tryz.results221, go_sem, P0, P1, P2, P3]) rfl ?_
        exact ⟨by rw [E1.out, E2.out], hmo⟩
    · obtain ⟨j1, j2⟩ := ts1 tz
      have J1 : Hid (N / D ≤ h - 1) := j1
      have tb : (t != 0) = true := by simp [tz]
      clear ts1 ts2 tz j1
      have ht0 := ht
      obtain ⟨k1, k2, k3, ⟨d0, d1, d2, d3⟩, K5, K6, ⟨y0, y1, y2, y3⟩, K8⟩ := ht
      clear K5 K6 K8
      go_wp2_with fail
      refine (addCarry_any (l0 Y) (l1 Y) (l2 Y) (l3 Y) b0 b1 b2 b3 _ (u4_lb Y) hb).mono ?_
      rintro e w4 ⟨rfl, hm4⟩
      rw [vl_nv Y, ← hD.out]
      obtain ⟨f1, f2⟩ := back_eq (Y := Y) (D := D) rfl
      rw [f1]
      rw [← Ht.out] at f2
      have hd := (ht0.mo hm4).put (l0 (Y + D)) (l1 (Y + D)) (l2 (Y + D)) (l3 (Y + D))
      have ht1 := ht0.mo hm4
      clear k1 k2 k3 d0 d1 d2 d3 y0 y1 y2 y3
      obtain ⟨k1, k2, k3, K4, K5, K6, ⟨y0, y1, y2, y3⟩, K8⟩ := ht1
      have K8 := fun o => K8 o
      clear K4 K5 K6
      generalize (Y % MM + D) / MM = c at *
      generalize ht2 : (Y + D) / MM % 18446744073709551616 = t2 at *
      have Ht2 : Hid _ := ht2
      clear ht2 f1
      go_wp2
      go_roundw
      case rel =>
        refine ⟨h - 1, t2, Y + D, rfl, rfl, by omega, by omega, ?_, ?_, J1.out, ?_, Ht2.out.symm, hd⟩
        · rw [← Ht2.out]; omega
        · rw [← Ht2.out]; omega
        · rw [HY.out, Int.mul_sub, Int.mul_one]; omega
      case measure => simp [intOf]; omega
end Go.Proofs.YtfmfeipeeedfpaaGreat
namespace Go.Proofs.YtfmfeipeeedfpaaGreat
/-- A limb shifted up, with what comes from below. -/
def sl (r : Nat) (a b : Int) : Int := a * 2 ^ r % 18446744073709551616 + b / 2 ^ (64 - r)
/-- A limb shifted down, with what comes from above. -/
def sr (r : Nat) (a b : Int) : Int := a / 2 ^ r + b * 2 ^ (64 - r) % 18446744073709551616
theorem pq (r : Nat) (hr : r < 64) : (0 : Int) < 2 ^ r ∧ (0 : Int) < 2 ^ (64 - r) ∧ (2 : Int) ^ (64 - r) * 2 ^ r = 18446744073709551616 :=
  ⟨Int.pow_pos (by decide), Int.pow_pos (by decide), pow_split r (by omega)⟩
theorem sl_top (r : Nat) (hr : r < 64) (a : Int) : a * 2 ^ r % 18446744073709551616 = a % 2 ^ (64 - r) * 2 ^ r ∧ a * 2 ^ r / 18446744073709551616 = a / 2 ^ (64 - r) := by
  obtain ⟨hP, hQ, e⟩ := pq r hr
  rw [← e]
  have d : a * 2 ^ r / (2 ^ (64 - r) * 2 ^ r) = a / 2 ^ (64 - r) := Int.mul_ediv_mul_of_pos_left _ _ hP
  refine ⟨?_, d⟩
  rw [mod_sub, d, mod_sub a, Int.sub_mul, Int.mul_assoc]
theorem low_lt (r : Nat) (hr : r < 64) {b : Int} (hb : U1 b) : 0 ≤ b / 2 ^ (64 - r) ∧ b / 2 ^ (64 - r) < 2 ^ r := by
  obtain ⟨hP, hQ, e⟩ := pq r hr
  obtain ⟨b0, b1⟩ := hb
  refine ⟨Int.ediv_nonneg b0 (by omega), Int.ediv_lt_of_lt_mul hQ ?_⟩
  rw [Int.mul_comm, e]; exact b1
theorem sl_u (r : Nat) (hr : r < 64) {a b : Int} (_ha : U1 a) (hb : U1 b) : U1 (sl r a b) := by
  obtain ⟨hP, hQ, e⟩ := pq r hr
  obtain ⟨t1, t2⟩ := sl_top r hr a
  obtain ⟨w1, w2⟩ := low_lt r hr hb
  unfold sl
  have m0 := Int.emod_nonneg a (show (2 : Int) ^ (64 - r) ≠ 0 by omega)
  have m1 := Int.emod_lt_of_pos a hQ
  have k0 : 0 ≤ a % 2 ^ (64 - r) * 2 ^ r := Int.mul_nonneg m0 (by omega)
  have k1 : (a % 2 ^ (64 - r) + 1) * 2 ^ r ≤ 2 ^ (64 - r) * 2 ^ r := Int.mul_le_mul_of_nonneg_right (by omega) (by omega)
  rw [Int.add_mul, Int.one_mul, e] at k1
  rw [t1]
  exact ⟨by omega, by omega⟩
theorem sl_or (r : Nat) (hr : r < 64) {a b : Int} (ha : U1 a) (hb : U1 b) : Go.bits .or .u64 (Go.IntKind.u64.wrap (a * 2 ^ r)) (b / 2 ^ (64 - r)) = sl r a b := by
  obtain ⟨t1, t2⟩ := sl_top r hr a
  obtain ⟨w1, w2⟩ := low_lt r hr hb
  have u := sl_u r hr ha hb
  obtain ⟨hP, hQ, e⟩ := pq r hr
  have m0 := Int.emod_nonneg a (show (2 : Int) ^ (64 - r) ≠ 0 by omega)
  unfold sl at *
  rw [Go.IntKind.wrap_u64, t1] at *
  exact or_join _ _ r m0 w1 w2 u.2
theorem sl_0 (r : Nat) (a : Int) : Go.IntKind.u64.wrap (a * 2 ^ r) = sl r a 0 := by
  unfold sl; rw [Go.IntKind.wrap_u64, Int.zero_ediv, Int.add_zero]
theorem sl_vl (r : Nat) (hr : r < 64) {a0 a1 a2 a3 : Int} (ha : U4 a0 a1 a2 a3) :
    U4 (sl r a0 0) (sl r a1 a0) (sl r a2 a1) (sl r a3 a2) ∧ vl (sl r a0 0) (sl r a1 a0) (sl r a2 a1) (sl r a3 a2) + MM * (a3 / 2 ^ (64 - r)) = vl a0 a1 a2 a3 * 2 ^ r := by
  obtain ⟨g0, g1, g2, g3⟩ := ha
  refine ⟨⟨sl_u r hr g0 ⟨by decide, by decide⟩, sl_u r hr g1 g0, sl_u r hr g2 g1, sl_u r hr g3 g2⟩, ?_⟩
  have e0 := (sl_top r hr a0).2
  have e1 := (sl_top r hr a1).2
  have e2 := (sl_top r hr a2).2
  have e3 := (sl_top r hr a3).2
  have e : vl a0 a1 a2 a3 * 2 ^ r = a0 * 2 ^ r + 18446744073709551616 * (a1 * 2 ^ r) + 340282366920938463463374607431768211456 * (a2 * 2 ^ r) + 6277101735386680763835789423207666416102355444464034512896 * (a3 * 2 ^ r) := by
    unfold vl; rw [Int.add_mul, Int.add_mul, Int.add_mul, Int.mul_assoc, Int.mul_assoc, Int.mul_assoc]
  rw [e]
  unfold sl
  rw [Int.zero_ediv, ← e0, ← e1, ← e2, ← e3]
  generalize a0 * 2 ^ r = x0 at *
  generalize a1 * 2 ^ r = x1 at *
  generalize a2 * 2 ^ r = x2 at *
  generalize a3 * 2 ^ r = x3 at *
  unfold vl MM
  omega
theorem sr_parts (r : Nat) (hr : r < 64) {a b : Int} (ha : U1 a) (_hb : U1 b) : b * 2 ^ (64 - r) % 18446744073709551616 = b % 2 ^ r * 2 ^ (64 - r) ∧ 0 ≤ a / 2 ^ r ∧ a / 2 ^ r < 2 ^ (64 - r) ∧ 0 ≤ b % 2 ^ r ∧ (b % 2 ^ r + 1) * 2 ^ (64 - r) ≤ 18446744073709551616 ∧ 0 ≤ b % 2 ^ r * 2 ^ (64 - r) := by
  obtain ⟨hP, hQ, e⟩ := pq r hr
  obtain ⟨a0, a1⟩ := ha
  have m0 := Int.emod_nonneg b (show (2 : Int) ^ r ≠ 0 by omega)
  have m1 := Int.emod_lt_of_pos b hP
  refine ⟨?_, Int.ediv_nonneg a0 (by omega), Int.ediv_lt_of_lt_mul hP (by rw [e]; exact a1), m0, ?_, Int.mul_nonneg m0 (by omega)⟩
  · rw [← e, Int.mul_comm (2 ^ (64 - r)) (2 ^ r)]
    have d : b * 2 ^ (64 - r) / (2 ^ r * 2 ^ (64 - r)) = b / 2 ^ r := Int.mul_ediv_mul_of_pos_left _ _ hQ
    rw [mod_sub, d, mod_sub b, Int.sub_mul, Int.mul_assoc]
  · have := Int.mul_le_mul_of_nonneg_right (show b % 2 ^ r + 1 ≤ 2 ^ r by omega) (show (0 : Int) ≤ 2 ^ (64 - r) by omega)
    rw [Int.mul_comm (2 ^ r) (2 ^ (64 - r)), e] at this
    exact this
theorem sr_u (r : Nat) (hr : r < 64) {a b : Int} (ha : U1 a) (hb : U1 b) : U1 (sr r a b) := by
  obtain ⟨p1, p2, p3, p4, p5, p6⟩ := sr_parts r hr ha hb
  rw [Int.add_mul, Int.one_mul] at p5
  unfold sr
  rw [p1]
  exact ⟨by omega, by omega⟩
theorem or_join' (a b : Int) (k : Nat) (ha : 0 ≤ a) (hb : 0 ≤ b) (hb2 : b < 2 ^ k) (h : a * 2 ^ k + b < 18446744073709551616) : Go.bits .or .u64 b (a * 2 ^ k) = b + a * 2 ^ k := by
  have e := or_join a b k ha hb hb2 h
  obtain ⟨x, rfl⟩ := Int.eq_ofNat_of_zero_le ha
  obtain ⟨z, rfl⟩ := Int.eq_ofNat_of_zero_le hb
  have e1 : ((x * 2 ^ k : Nat) : Int) = (x : Int) * 2 ^ k := by rw [Int.natCast_mul, Int.natCast_pow]; rfl
  rw [← e1] at e h ⊢
  rw [Go.bits_or_u64_nat _ _ (by omega) (by omega)] at e ⊢
  rw [Nat.or_comm, e, Int.add_comm]
theorem sr_or (r : Nat) (hr : r < 64) {a b : Int} (ha : U1 a) (hb : U1 b) : Go.bits .or .u64 (a / 2 ^ r) (Go.IntKind.u64.wrap (b * 2 ^ (64 - r))) = sr r a b := by
  obtain ⟨p1, p2, p3, p4, p5, p6⟩ := sr_parts r hr ha hb
  have u := (sr_u r hr ha hb).2
  unfold sr at *
  rw [Go.IntKind.wrap_u64, p1] at *
  exact or_join' _ _ _ p4 p2 p3 (by omega)
theorem sr_0 (r : Nat) (a : Int) : a / 2 ^ r = sr r a 0 := by
  unfold sr; rw [Int.zero_mul, Int.zero_emod, Int.add_zero]
theorem sr_vl (r : Nat) (hr : r < 64) {a0 a1 a2 a3 : Int} (ha : U4 a0 a1 a2 a3) :
    U4 (sr r a0 a1) (sr r a1 a2) (sr r a2 a3) (sr r a3 0) ∧ vl (sr r a0 a1) (sr r a1 a2) (sr r a2 a3) (sr r a3 0) = vl a0 a1 a2 a3 / 2 ^ r := by
  obtain ⟨g0, g1, g2, g3⟩ := ha
  have gz : U1 0 := ⟨by decide, by decide⟩
  refine ⟨⟨sr_u r hr g0 g1, sr_u r hr g1 g2, sr_u r hr g2 g3, sr_u r hr g3 gz⟩, ?_⟩
  obtain ⟨hP, hQ, e⟩ := pq r hr
  have p1 := (sr_parts r hr g0 g1).1
  have p2 := (sr_parts r hr g1 g2).1
  have p3 := (sr_parts r hr g2 g3).1
  have d0 := Int.mul_ediv_add_emod a0 (2 ^ r)
  have d1 := Int.mul_ediv_add_emod a1 (2 ^ r)
  have d2 := Int.mul_ediv_add_emod a2 (2 ^ r)
  have d3 := Int.mul_ediv_add_emod a3 (2 ^ r)
  have m0 := Int.emod_nonneg a0 (show (2 : Int) ^ r ≠ 0 by omega)
  have m1 := Int.emod_lt_of_pos a0 hP
  have f : ∀ x : Int, 2 ^ r * (x * 2 ^ (64 - r)) = x * 18446744073709551616 := fun x => by rw [Int.mul_left_comm, Int.mul_comm (2 ^ r) (2 ^ (64 - r)), e]
  have key : vl a0 a1 a2 a3 = a0 % 2 ^ r + 2 ^ r * vl (sr r a0 a1) (sr r a1 a2) (sr r a2 a3) (sr r a3 0) := by
    have f1 := f (a1 % 2 ^ r)
    have f2 := f (a2 % 2 ^ r)
    have f3 := f (a3 % 2 ^ r)
    have ev : ∀ x y z t : Int, 2 ^ r * vl x y z t = 2 ^ r * x + 18446744073709551616 * (2 ^ r * y) + 340282366920938463463374607431768211456 * (2 ^ r * z) + 6277101735386680763835789423207666416102355444464034512896 * (2 ^ r * t) := fun x y z t => by
      unfold vl; rw [Int.mul_add, Int.mul_add, Int.mul_add, Int.mul_left_comm, Int.mul_left_comm (2 ^ r) _ z, Int.mul_left_comm (2 ^ r) _ t]
    rw [ev]
    unfold sr
    rw [p1, p2, p3, Int.zero_mul, Int.zero_emod]
    simp only [Int.mul_add, Int.add_zero, f1, f2, f3]
    unfold vl
    generalize 2 ^ r * (a0 / 2 ^ r) = y0 at *
    generalize 2 ^ r * (a1 / 2 ^ r) = y1 at *
    generalize 2 ^ r * (a2 / 2 ^ r) = y2 at *
    generalize 2 ^ r * (a3 / 2 ^ r) = y3 at *
    generalize a0 % 2 ^ r = n0 at *
    generalize a1 % 2 ^ r = n1 at *
    generalize a2 % 2 ^ r = n2 at *
    generalize a3 % 2 ^ r = n3 at *
    clear p1 p2 p3 f f1 f2 f3 ev e hP hQ m0 m1
    omega
  rw [key, Int.add_mul_ediv_left _ _ (by omega), Int.ediv_eq_zero_of_lt m0 m1, Int.zero_add]
theorem sh {v Y : Int} (_h0 : 0 ≤ v) (_h1 : v < 18446744073709551616) :
    l0 (v + 18446744073709551616 * Y) = v ∧ l1 (v + 18446744073709551616 * Y) = l0 Y ∧ l2 (v + 18446744073709551616 * Y) = l1 Y ∧ l3 (v + 18446744073709551616 * Y) = l2 Y ∧ l0 ((v + 18446744073709551616 * Y) / MM) = l3 Y ∧ l1 ((v + 18446744073709551616 * Y) / MM) = l0 (Y / MM) ∧ l2 ((v + 18446744073709551616 * Y) / MM) = l1 (Y / MM) ∧ l3 ((v + 18446744073709551616 * Y) / MM) = l2 (Y / MM) := by
  refine ⟨?_, ?_, ?_, ?_, ?_, ?_, ?_, ?_⟩ <;> simp only [l0, l1, l2, l3, MM] <;> omega
/-- A row p over what stands there. -/
theorem row {p X R : Int} (_hp : 0 ≤ p) (_hp2 : p ≤ 2135987035920910082395021706169552114602704522356652769947041607822219725780640550022962086936576 - 115792089237316195423570985008687907853269984665640564039457584007913129639936) (_hX0 : 0 ≤ X) (_hX : X < MM) (_hR : R = p % MM) :
    l0 (X + R) = l0 (X + p) ∧ l1 (X + R) = l1 (X + p) ∧ l2 (X + R) = l2 (X + p) ∧ l3 (X + R) = l3 (X + p) ∧ p / MM + (X + R) / MM = l0 ((X + p) / MM) ∧ p / MM + (X + R) / MM < 18446744073709551616 ∧ 0 ≤ p / MM + (X + R) / MM ∧ l1 ((X + p) / MM) = 0 ∧ l2 ((X + p) / MM) = 0 ∧ l3 ((X + p) / MM) = 0 := by
  have e : p / MM + (X + R) / MM = (X + p) / MM := by unfold MM at *; omega
  have b1 : (X + p) / MM < 18446744073709551616 := by unfold MM at *; omega
  have b0 : 0 ≤ (X + p) / MM := by unfold MM at *; omega
  rw [e]
  refine ⟨?_, ?_, ?_, ?_, ?_, b1, b0, ?_, ?_, ?_⟩
  · unfold l0; unfold MM at *; omega
  · unfold l1; unfold MM at *; omega
  · unfold l2; unfold MM at *; omega
  · unfold l3; unfold MM at *; omega
  · unfold l0; omega
  · unfold l1; omega
  · unfold l2; omega
  · unfold l3; omega
theorem u_l0 (n : Int) : U1 (l0 n) := (u4_lb n).1
theorem u_l1 (n : Int) : U1 (l1 n) := (u4_lb n).2.1
theorem u_l2 (n : Int) : U1 (l2 n) := (u4_lb n).2.2.1
theorem u_l3 (n : Int) : U1 (l3 n) := (u4_lb n).2.2.2
/-- One row of a product over what stands there: what is written, limb by limb. -/
theorem rnd {X p Y x0 x1 x2 x3 : Int} (hx : U4 x0 x1 x2 x3) (hX : vl x0 x1 x2 x3 = X) (hp : 0 ≤ p) (hp2 : p ≤ 2135987035920910082395021706169552114602704522356652769947041607822219725780640550022962086936576 - 115792089237316195423570985008687907853269984665640564039457584007913129639936) (hY : Y = X + p) :
    ∃ c1 c2 c3 c4, (x0 + l0 p) / 18446744073709551616 = c1 ∧ (x0 + l0 p) % 18446744073709551616 = l0 Y ∧ (x1 + l1 p + c1) / 18446744073709551616 = c2 ∧ (x1 + l1 p + c1) % 18446744073709551616 = l1 Y ∧ (x2 + l2 p + c2) / 18446744073709551616 = c3 ∧ (x2 + l2 p + c2) % 18446744073709551616 = l2 Y ∧ (x3 + l3 p + c3) / 18446744073709551616 = c4 ∧ (x3 + l3 p + c3) % 18446744073709551616 = l3 Y ∧ p / MM + c4 = l0 (Y / MM) ∧ (0 ≤ c1 ∧ c1 ≤ 1) ∧ (0 ≤ c2 ∧ c2 ≤ 1) ∧ (0 ≤ c3 ∧ c3 ≤ 1) ∧ (0 ≤ p / MM + c4 ∧ p / MM + c4 < 18446744073709551616) := by
  have hb := vl_bd hx
  obtain ⟨e0, e1, e2, e3, e4⟩ := addc_eq hx (u4_lb p) rfl
  rw [vl_nv p, hX] at e0 e1 e2 e3 e4
  rw [hX] at hb
  obtain ⟨f0, f1, f2, f3, f4, f5, f6, _⟩ := row hp hp2 hb.1 hb.2 rfl
  rw [← hY] at f0 f1 f2 f3 f4
  have g := u4_lb p
  unfold U4 U1 at hx g
  refine ⟨_, _, _, _, rfl, e0.trans f0, rfl, e1.trans f1, rfl, e2.trans f2, rfl, e3.trans f3, ?_, ?_, ?_, ?_, ?_⟩
  · rw [e4]; exact f4
  · omega
  · omega
  · omega
  · rw [e4]; exact ⟨f6, f5⟩
theorem rnd0 {p : Int} (hp : 0 ≤ p) (hp2 : p ≤ 2135987035920910082395021706169552114602704522356652769947041607822219725780640550022962086936576 - 115792089237316195423570985008687907853269984665640564039457584007913129639936) :
    l0 p / 18446744073709551616 = 0 ∧ l0 p % 18446744073709551616 = l0 p ∧ l1 p / 18446744073709551616 = 0 ∧ l1 p % 18446744073709551616 = l1 p ∧ l2 p / 18446744073709551616 = 0 ∧ l2 p % 18446744073709551616 = l2 p ∧ l3 p / 18446744073709551616 = 0 ∧ l3 p % 18446744073709551616 = l3 p ∧ p / MM = l0 (p / MM) := by
  refine ⟨?_, ?_, ?_, ?_, ?_, ?_, ?_, ?_, ?_⟩ <;> simp only [l0, l1, l2, l3, MM] <;> omega
/-- What stands above the lowest limb of a number of five limbs. -/
theorem up {Y : Int} (h0 : 0 ≤ Y) (h1 : Y < 2135987035920910082395021706169552114602704522356652769947041607822219725780640550022962086936576) : vl (l1 Y) (l2 Y) (l3 Y) (l0 (Y / MM)) = Y / 18446744073709551616 := by
  have e : (Y / MM) = Y / 18446744073709551616 / 6277101735386680763835789423207666416102355444464034512896 := by unfold MM; omega
  have b : Y / 18446744073709551616 < MM := by unfold MM; omega
  have b0 : 0 ≤ Y / 18446744073709551616 := by omega
  have e1 : l1 Y = l0 (Y / 18446744073709551616) := by unfold l1 l0; rfl
  have e2 : l2 Y = l1 (Y / 18446744073709551616) := by unfold l2 l1; omega
  have e3 : l3 Y = l2 (Y / 18446744073709551616) := by unfold l3 l2; omega
  have e4 : l0 (Y / MM) = l3 (Y / 18446744073709551616) := by rw [e]; unfold l0 l3; rfl
  rw [e1, e2, e3, e4, vl_lb _ b0 b]
theorem pbd {v c : Int} (h0 : 0 ≤ v) (h1 : v < MM) (hc : U1 c) : 0 ≤ v * c ∧ v * c ≤ 2135987035920910082395021706169552114602704522356652769947041607822219725780640550022962086936576 - 115792089237316195423570985008687907853269984665640564039457584007913129639936 - 18446744073709551615 := by
  obtain ⟨c0, c1⟩ := hc
  refine ⟨Int.mul_nonneg h0 c0, ?_⟩
  have := Int.mul_le_mul (a := v) (b := c) (c := 115792089237316195423570985008687907853269984665640564039457584007913129639935) (d := 18446744073709551615) (by unfold MM at h1; omega) (by omega) c0 (by decide)
  omega
theorem ybd {Y p Z : Int} (h0 : 0 ≤ Y) (h1 : Y < 2135987035920910082395021706169552114602704522356652769947041607822219725780640550022962086936576) (hp : 0 ≤ p) (hp2 : p ≤ 2135987035920910082395021706169552114602704522356652769947041607822219725780640550022962086936576 - 115792089237316195423570985008687907853269984665640564039457584007913129639936 - 18446744073709551615) (hZ : Z = Y / 18446744073709551616 + p) : 0 ≤ Z ∧ Z < 2135987035920910082395021706169552114602704522356652769947041607822219725780640550022962086936576 := by omega
/-- The limbs of the whole product. -/
theorem prod_eq {P Y0 Y1 Y2 Y3 p0 p1 p2 p3 : Int} (h0 : Y0 = p0) (h1 : Y1 = Y0 / 18446744073709551616 + p1) (h2 : Y2 = Y1 / 18446744073709551616 + p2) (h3 : Y3 = Y2 / 18446744073709551616 + p3) (hP : P = p0 + 18446744073709551616 * (p1 + 18446744073709551616 * (p2 + 18446744073709551616 * p3))) :
    l0 Y0 = l0 P ∧ l0 Y1 = l1 P ∧ l0 Y2 = l2 P ∧ l0 Y3 = l3 P ∧ l1 Y3 = l0 (P / MM) ∧ l2 Y3 = l1 (P / MM) ∧ l3 Y3 = l2 (P / MM) ∧ l0 (Y3 / MM) = l3 (P / MM) := by
  have e : P = l0 Y0 + 18446744073709551616 * (l0 Y1 + 18446744073709551616 * (l0 Y2 + 18446744073709551616 * Y3)) := by subst hP h3 h2 h1 h0; unfold l0; omega
  obtain ⟨a0, a1, a2, a3, a4, a5, a6, a7⟩ := sh (v := l0 Y0) (Y := l0 Y1 + 18446744073709551616 * (l0 Y2 + 18446744073709551616 * Y3)) (u_l0 _).1 (u_l0 _).2
  obtain ⟨b0, b1, b2, b3, b4, b5, b6, b7⟩ := sh (v := l0 Y1) (Y := l0 Y2 + 18446744073709551616 * Y3) (u_l0 _).1 (u_l0 _).2
  obtain ⟨c0, c1, c2, c3, c4, c5, c6, c7⟩ := sh (v := l0 Y2) (Y := Y3) (u_l0 _).1 (u_l0 _).2
  rw [← e] at a0 a1 a2 a3 a4 a5 a6 a7
  rw [a0, a1, a2, a3, a4, a5, a6, a7, b0, b1, b2, b3, b4, b5, b6, c0, c1, c2, c3, c4, c5]
  exact ⟨rfl, rfl, rfl, rfl, rfl, rfl, rfl, rfl⟩
theorem rnd0b {p : Int} (hp : 0 ≤ p) (hp2 : p ≤ 2135987035920910082395021706169552114602704522356652769947041607822219725780640550022962086936576 - 115792089237316195423570985008687907853269984665640564039457584007913129639936) : 0 ≤ p / MM ∧ p / MM < 18446744073709551616 := by unfold MM; omega
end Go.Proofs.YtfmfeipeeedfpaaGreat
namespace Go.Proofs.YtfmfeipeeedfpaaGreat
open Go.RowKit

set_option maxHeartbeats 2000000 in
theorem shl_0 (a0 a1 a2 a3 n x0 x1 x2 x3 : Int) (r : Nat) (w : World) (ha : U4 a0 a1 a2 a3) (hq : n / 64 = 0) (hr : n % 64 = (r : Int)) (_h64 : r < 64) (_hn0 : 0 ≤ n) (_hn : n ≤ 256) (e0 : IntKind.u64.wrap (a0 * 2 ^ r) = x0) (e1 : bits .or .u64 (IntKind.u64.wrap (a1 * 2 ^ r)) (a0 / 2 ^ (64 - r)) = x1) (e2 : bits .or .u64 (IntKind.u64.wrap (a2 * 2 ^ r)) (a1 / 2 ^ (64 - r)) = x2) (e3 : bits .or .u64 (IntKind.u64.wrap (a3 * 2 ^ r)) (a2 / 2 ^ (64 - r)) = x3) :
    Calls Tryz.prog 219 #[.agg #[.int .u64 a0, .int .u64 a1, .int .u64 a2, .int .u64 a3], .int .i64 n] w fun e w' =>
      e = .returned (.agg #[.int .u64 x0, .int .u64 x1, .int .u64 x2, .int .u64 x3]) ∧ Mo w w' := by
  obtain ⟨⟨p0, q0⟩, ⟨p1, q1⟩, ⟨p2, q2⟩, ⟨p3, q3⟩⟩ := ha
  go_enter Tryz.func219, Tryz.ntmps219
  go_wp2
  refine wp_loop_rounds 5 ?_
  rw [rounds_succ]
  go_wp2
  rw [rounds_succ]
  go_wp2
  go_region
  go_wp2
  rw [rounds_succ]
  go_wp2
  go_region
  go_wp2
  rw [rounds_succ]
  go_wp2
  go_region
  go_wp2
  rw [rounds_succ]
  go_wp2
  refine bodyPost_ret (v := .agg #[.int .u64 x0, .int .u64 x1, .int .u64 x2, .int .u64 x3]) (by simp [results, Tryz.results219, go_sem]) rfl ?_
  refine ⟨rfl, ?_⟩
  repeat (first | with_reducible exact Mo.refl _ | with_reducible apply Mo.drew | with_reducible apply Mo.drewN | with_reducible apply Mo.alloc | with_reducible refine Mo.setCell ?_ (by simp <;> omega) _ | with_reducible refine Mo.trans ?_ (by with_reducible assumption))

set_option maxHeartbeats 2000000 in
theorem shr_0 (a0 a1 a2 a3 n x0 x1 x2 x3 : Int) (r : Nat) (w : World) (ha : U4 a0 a1 a2 a3) (hq : n / 64 = 0) (hr : n % 64 = (r : Int)) (_h64 : r < 64) (_hn0 : 0 ≤ n) (_hn : n ≤ 256) (e0 : bits .or .u64 (a0 / 2 ^ r) (IntKind.u64.wrap (a1 * 2 ^ (64 - r))) = x0) (e1 : bits .or .u64 (a1 / 2 ^ r) (IntKind.u64.wrap (a2 * 2 ^ (64 - r))) = x1) (e2 : bits .or .u64 (a2 / 2 ^ r) (IntKind.u64.wrap (a3 * 2 ^ (64 - r))) = x2) (e3 : a3 / 2 ^ r = x3) :
    Calls Tryz.prog 220 #[.agg #[.int .u64 a0, .int .u64 a1, .int .u64 a2, .int .u64 a3], .int .i64 n] w fun e w' =>
      e = .returned (.agg #[.int .u64 x0, .int .u64 x1, .int .u64 x2, .int .u64 x3]) ∧ Mo w w' := by
  obtain ⟨⟨p0, q0⟩, ⟨p1, q1⟩, ⟨p2, q2⟩, ⟨p3, q3⟩⟩ := ha
  go_enter Tryz.func220, Tryz.ntmps220
  go_wp2
  refine wp_loop_rounds 5 ?_
  rw [rounds_succ]
  go_wp2
  go_region
  go_wp2
  rw [rounds_succ]
  go_wp2
  go_region
  go_wp2
  rw [rounds_succ]
  go_wp2
  go_region
  go_wp2
  rw [rounds_succ]
  go_wp2
  rw [rounds_succ]
  go_wp2
  refine bodyPost_ret (v := .agg #[.int .u64 x0, .int .u64 x1, .int .u64 x2, .int .u64 x3]) (by simp [results, Tryz.results220, go_sem]) rfl ?_
  refine ⟨rfl, ?_⟩
  repeat (first | with_reducible exact Mo.refl _ | with_reducible apply Mo.drew | with_reducible apply Mo.drewN | with_reducible apply Mo.alloc | with_reducible refine Mo.setCell ?_ (by simp <;> omega) _ | with_reducible refine Mo.trans ?_ (by with_reducible assumption))

set_option maxHeartbeats 2000000 in
theorem shl_1 (a0 a1 a2 a3 n x0 x1 x2 x3 : Int) (r : Nat) (w : World) (ha : U4 a0 a1 a2 a3) (hq : n / 64 = 1) (hr : n % 64 = (r : Int)) (_h64 : r < 64) (_hn0 : 0 ≤ n) (_hn : n ≤ 256) (e0 : IntKind.u64.wrap (a0 * 2 ^ r) = x0) (e1 : bits .or .u64 (IntKind.u64.wrap (a1 * 2 ^ r)) (a0 / 2 ^ (64 - r)) = x1) (e2 : bits .or .u64 (IntKind.u64.wrap (a2 * 2 ^ r)) (a1 / 2 ^ (64 - r)) = x2) (_e3 : bits .or .u64 (IntKind.u64.wrap (a3 * 2 ^ r)) (a2 / 2 ^ (64 - r)) = x3) :
    Calls Tryz.prog 219 #[.agg #[.int .u64 a0, .int .u64 a1, .int .u64 a2, .int .u64 a3], .int .i64 n] w fun e w' =>
      e = .returned (.agg #[.int .u64 0, .int .u64 x0, .int .u64 x1, .int .u64 x2]) ∧ Mo w w' := by
  obtain ⟨⟨p0, q0⟩, ⟨p1, q1⟩, ⟨p2, q2⟩, ⟨p3, q3⟩⟩ := ha
  go_enter Tryz.func219, Tryz.ntmps219
  go_wp2
  refine wp_loop_rounds 5 ?_
  rw [rounds_succ]
  go_wp2
  rw [rounds_succ]
  go_wp2
  go_region
  go_wp2
  rw [rounds_succ]
  go_wp2
  go_region
  go_wp2
  rw [rounds_succ]
  go_wp2
  refine bodyPost_ret (v := .agg #[.int .u64 0, .int .u64 x0, .int .u64 x1, .int .u64 x2]) (by simp [results, Tryz.results219, go_sem]) rfl ?_
  refine ⟨rfl, ?_⟩
  repeat (first | with_reducible exact Mo.refl _ | with_reducible apply Mo.drew | with_reducible apply Mo.drewN | with_reducible apply Mo.alloc | with_reducible refine Mo.setCell ?_ (by simp <;> omega) _ | with_reducible refine Mo.trans ?_ (by with_reducible assumption))

set_option maxHeartbeats 2000000 in
theorem shr_1 (a0 a1 a2 a3 n x0 x1 x2 x3 : Int) (r : Nat) (w : World) (ha : U4 a0 a1 a2 a3) (hq : n / 64 = 1) (hr : n % 64 = (r : Int)) (_h64 : r < 64) (_hn0 : 0 ≤ n) (_hn : n ≤ 256) (_e0 : bits .or .u64 (a0 / 2 ^ r) (IntKind.u64.wrap (a1 * 2 ^ (64 - r))) = x0) (e1 : bits .or .u64 (a1 / 2 ^ r) (IntKind.u64.wrap (a2 * 2 ^ (64 - r))) = x1) (e2 : bits .or .u64 (a2 / 2 ^ r) (IntKind.u64.wrap (a3 * 2 ^ (64 - r))) = x2) (e3 : a3 / 2 ^ r = x3) :
    Calls Tryz.prog 220 #[.agg #[.int .u64 a0, .int .u64 a1, .int .u64 a2, .int .u64 a3], .int .i64 n] w fun e w' =>
      e = .returned (.agg #[.int .u64 x1, .int .u64 x2, .int .u64 x3, .int .u64 0]) ∧ Mo w w' := by
  obtain ⟨⟨p0, q0⟩, ⟨p1, q1⟩, ⟨p2, q2⟩, ⟨p3, q3⟩⟩ := ha
  go_enter Tryz.func220, Tryz.ntmps220
  go_wp2
  refine wp_loop_rounds 5 ?_
  rw [rounds_succ]
  go_wp2
  go_region
  go_wp2
  rw [rounds_succ]
  go_wp2
  go_region
  go_wp2
  rw [rounds_succ]
  go_wp2
  rw [rounds_succ]
  go_wp2
  refine bodyPost_ret (v := .agg #[.int .u64 x1, .int .u64 x2, .int .u64 x3, .int .u64 0]) (by simp [results, Tryz.results220, go_sem]) rfl ?_
  refine ⟨rfl, ?_⟩
  repeat (first | with_reducible exact Mo.refl _ | with_reducible apply Mo.drew | with_reducible apply Mo.drewN | with_reducible apply Mo.alloc | with_reducible refine Mo.setCell ?_ (by simp <;> omega) _ | with_reducible refine Mo.trans ?_ (by with_reducible assumption))

set_option maxHeartbeats 2000000 in
theorem shl_2 (a0 a1 a2 a3 n x0 x1 x2 x3 : Int) (r : Nat) (w : World) (ha : U4 a0 a1 a2 a3) (hq : n / 64 = 2) (hr : n % 64 = (r : Int)) (_h64 : r < 64) (_hn0 : 0 ≤ n) (_hn : n ≤ 256) (e0 : IntKind.u64.wrap (a0 * 2 ^ r) = x0) (e1 : bits .or .u64 (IntKind.u64.wrap (a1 * 2 ^ r)) (a0 / 2 ^ (64 - r)) = x1) (_e2 : bits .or .u64 (IntKind.u64.wrap (a2 * 2 ^ r)) (a1 / 2 ^ (64 - r)) = x2) (_e3 : bits .or .u64 (IntKind.u64.wrap (a3 * 2 ^ r)) (a2 / 2 ^ (64 - r)) = x3) :
    Calls Tryz.prog 219 #[.agg #[.int .u64 a0, .int .u64 a1, .int .u64 a2, .int .u64 a3], .int .i64 n] w fun e w' =>
      e = .returned (.agg #[.int .u64 0, .int .u64 0, .int .u64 x0, .int .u64 x1]) ∧ Mo w w' := by
  obtain ⟨⟨p0, q0⟩, ⟨p1, q1⟩, ⟨p2, q2⟩, ⟨p3, q3⟩⟩ := ha
  go_enter Tryz.func219, Tryz.ntmps219
  go_wp2
  refine wp_loop_rounds 5 ?_
  rw [rounds_succ]
  go_wp2
  rw [rounds_succ]
  go_wp2
  go_region
  go_wp2
  rw [rounds_succ]
  go_wp2
  refine bodyPost_ret (v := .agg #[.int .u64 0, .int .u64 0, .int .u64 x0, .int .u64 x1]) (by simp [results, Tryz.results219, go_sem]) rfl ?_
  refine ⟨rfl, ?_⟩
  repeat (first | with_reducible exact Mo.refl _ | with_reducible apply Mo.drew | with_reducible apply Mo.drewN | with_reducible apply Mo.alloc | with_reducible refine Mo.setCell ?_ (by simp <;> omega) _ | with_reducible refine Mo.trans ?_ (by with_reducible assumption))

set_option maxHeartbeats 2000000 in
theorem shr_2 (a0 a1 a2 a3 n x0 x1 x2 x3 : Int) (r : Nat) (w : World) (ha : U4 a0 a1 a2 a3) (hq : n / 64 = 2) (hr : n % 64 = (r : Int)) (_h64 : r < 64) (_hn0 : 0 ≤ n) (_hn : n ≤ 256) (_e0 : bits .or .u64 (a0 / 2 ^ r) (IntKind.u64.wrap (a1 * 2 ^ (64 - r))) = x0) (_e1 : bits .or .u64 (a1 / 2 ^ r) (IntKind.u64.wrap (a2 * 2 ^ (64 - r))) = x1) (e2 : bits .or .u64 (a2 / 2 ^ r) (IntKind.u64.wrap (a3 * 2 ^ (64 - r))) = x2) (e3 : a3 / 2 ^ r = x3) :
    Calls Tryz.prog 220 #[.agg #[.int .u64 a0, .int .u64 a1, .int .u64 a2, .int .u64 a3], .int .i64 n] w fun e w' =>
      e = .returned (.agg #[.int .u64 x2, .int .u64 x3, .int .u64 0, .int .u64 0]) ∧ Mo w w' := by
  obtain ⟨⟨p0, q0⟩, ⟨p1, q1⟩, ⟨p2, q2⟩, ⟨p3, q3⟩⟩ := ha
  go_enter Tryz.func220, Tryz.ntmps220
  go_wp2
  refine wp_loop_rounds 5 ?_
  rw [rounds_succ]
  go_wp2
  go_region
  go_wp2
  rw [rounds_succ]
  go_wp2
  rw [rounds_succ]
  go_wp2
  refine bodyPost_ret (v := .agg #[.int .u64 x2, .int .u64 x3, .int .u64 0, .int .u64 0]) (by simp [results, Tryz.results220, go_sem]) rfl ?_
  refine ⟨rfl, ?_⟩
  repeat (first | with_reducible exact Mo.refl _ | with_reducible apply Mo.drew | with_reducible apply Mo.drewN | with_reducible apply Mo.alloc | with_reducible refine Mo.setCell ?_ (by simp <;> omega) _ | with_reducible refine Mo.trans ?_ (by with_reducible assumption))

set_option maxHeartbeats 2000000 in
theorem shl_3 (a0 a1 a2 a3 n x0 x1 x2 x3 : Int) (r : Nat) (w : World) (ha : U4 a0 a1 a2 a3) (hq : n / 64 = 3) (hr : n % 64 = (r : Int)) (_h64 : r < 64) (_hn0 : 0 ≤ n) (_hn : n ≤ 256) (e0 : IntKind.u64.wrap (a0 * 2 ^ r) = x0) (_e1 : bits .or .u64 (IntKind.u64.wrap (a1 * 2 ^ r)) (a0 / 2 ^ (64 - r)) = x1) (_e2 : bits .or .u64 (IntKind.u64.wrap (a2 * 2 ^ r)) (a1 / 2 ^ (64 - r)) = x2) (_e3 : bits .or .u64 (IntKind.u64.wrap (a3 * 2 ^ r)) (a2 / 2 ^ (64 - r)) = x3) :
    Calls Tryz.prog 219 #[.agg #[.int .u64 a0, .int .u64 a1, .int .u64 a2, .int .u64 a3], .int .i64 n] w fun e w' =>
      e = .returned (.agg #[.int .u64 0, .int .u64 0, .int .u64 0, .int .u64 x0]) ∧ Mo w w' := by
  obtain ⟨⟨p0, q0⟩, ⟨p1, q1⟩, ⟨p2, q2⟩, ⟨p3, q3⟩⟩ := ha
  go_enter Tryz.func219, Tryz.ntmps219
  go_wp2
  refine wp_loop_rounds 5 ?_
  rw [rounds_succ]
  go_wp2
  rw [rounds_succ]
  go_wp2
  refine bodyPost_ret (v := .agg #[.int .u64 0, .int .u64 0, .int .u64 0, .int .u64 x0]) (by simp [results, Tryz.results219, go_sem]) rfl ?_
  refine ⟨rfl, ?_⟩
  repeat (first | with_reducible exact Mo.refl _ | with_reducible apply Mo.drew | with_reducible apply Mo.drewN | with_reducible apply Mo.alloc | with_reducible refine Mo.setCell ?_ (by simp <;> omega) _ | with_reducible refine Mo.trans ?_ (by with_reducible assumption))

set_option maxHeartbeats 2000000 in
theorem shr_3 (a0 a1 a2 a3 n x0 x1 x2 x3 : Int) (r : Nat) (w : World) (ha : U4 a0 a1 a2 a3) (hq : n / 64 = 3) (hr : n % 64 = (r : Int)) (_h64 : r < 64) (_hn0 : 0 ≤ n) (_hn : n ≤ 256) (_e0 : bits .or .u64 (a0 / 2 ^ r) (IntKind.u64.wrap (a1 * 2 ^ (64 - r))) = x0) (_e1 : bits .or .u64 (a1 / 2 ^ r) (IntKind.u64.wrap (a2 * 2 ^ (64 - r))) = x1) (_e2 : bits .or .u64 (a2 / 2 ^ r) (IntKind.u64.wrap (a3 * 2 ^ (64 - r))) = x2) (e3 : a3 / 2 ^ r = x3) :
    Calls Tryz.prog 220 #[.agg #[.int .u64 a0, .int .u64 a1, .int .u64 a2, .int .u64 a3], .int .i64 n] w fun e w' =>
      e = .returned (.agg #[.int .u64 x3, .int .u64 0, .int .u64 0, .int .u64 0]) ∧ Mo w w' := by
  obtain ⟨⟨p0, q0⟩, ⟨p1, q1⟩, ⟨p2, q2⟩, ⟨p3, q3⟩⟩ := ha
  go_enter Tryz.func220, Tryz.ntmps220
  go_wp2
  refine wp_loop_rounds 5 ?_
  rw [rounds_succ]
  go_wp2
  rw [rounds_succ]
  go_wp2
  refine bodyPost_ret (v := .agg #[.int .u64 x3, .int .u64 0, .int .u64 0, .int .u64 0]) (by simp [results, Tryz.results220, go_sem]) rfl ?_
  refine ⟨rfl, ?_⟩
  repeat (first | with_reducible exact Mo.refl _ | with_reducible apply Mo.drew | with_reducible apply Mo.drewN | with_reducible apply Mo.alloc | with_reducible refine Mo.setCell ?_ (by simp <;> omega) _ | with_reducible refine Mo.trans ?_ (by with_reducible assumption))

set_option maxHeartbeats 2000000 in
theorem shl_4 (a0 a1 a2 a3 n : Int) (r : Nat) (w : World) (ha : U4 a0 a1 a2 a3) (hq : n / 64 = 4) (hr : n % 64 = (r : Int)) (_h64 : r < 64) (_hn0 : 0 ≤ n) (_hn : n ≤ 256) :
    Calls Tryz.prog 219 #[.agg #[.int .u64 a0, .int .u64 a1, .int .u64 a2, .int .u64 a3], .int .i64 n] w fun e w' =>
      e = .returned (.agg #[.int .u64 0, .int .u64 0, .int .u64 0, .int .u64 0]) ∧ Mo w w' := by
  obtain ⟨⟨p0, q0⟩, ⟨p1, q1⟩, ⟨p2, q2⟩, ⟨p3, q3⟩⟩ := ha
  go_enter Tryz.func219, Tryz.ntmps219
  go_wp2
  refine wp_loop_rounds 5 ?_
  rw [rounds_succ]
  go_wp2
  refine bodyPost_ret (v := .agg #[.int .u64 0, .int .u64 0, .int .u64 0, .int .u64 0]) (by simp [results, Tryz.results219, go_sem]) rfl ?_
  refine ⟨rfl, ?_⟩
  repeat (first | with_reducible exact Mo.refl _ | with_reducible apply Mo.drew | with_reducible apply Mo.drewN | with_reducible apply Mo.alloc | with_reducible refine Mo.setCell ?_ (by simp <;> omega) _ | with_reducible refine Mo.trans ?_ (by with_reducible assumption))

set_option maxHeartbeats 2000000 in
theorem shr_4 (a0 a1 a2 a3 n : Int) (r : Nat) (w : World) (ha : U4 a0 a1 a2 a3) (hq : n / 64 = 4) (hr : n % 64 = (r : Int)) (_h64 : r < 64) (_hn0 : 0 ≤ n) (_hn : n ≤ 256) :
    Calls Tryz.prog 220 #[.agg #[.int .u64 a0, .int .u64 a1, .int .u64 a2, .int .u64 a3], .int .i64 n] w fun e w' =>
      e = .returned (.agg #[.int .u64 0, .int .u64 0, .int .u64 0, .int .u64 0]) ∧ Mo w w' := by
  obtain ⟨⟨p0, q0⟩, ⟨p1, q1⟩, ⟨p2, q2⟩, ⟨p3, q3⟩⟩ := ha
  go_enter Tryz.func220, Tryz.ntmps220
  go_wp2
  refine wp_loop_rounds 5 ?_
  rw [rounds_succ]
  go_wp2
  refine bodyPost_ret (v := .agg #[.int .u64 0, .int .u64 0, .int .u64 0, .int .u64 0]) (by simp [results, Tryz.results220, go_sem]) rfl ?_
  refine ⟨rfl, ?_⟩
  repeat (first | with_reducible exact Mo.refl _ | with_reducible apply Mo.drew | with_reducible apply Mo.drewN | with_reducible apply Mo.alloc | with_reducible refine Mo.setCell ?_ (by simp <;> omega) _ | with_reducible refine Mo.trans ?_ (by with_reducible assumption))
theorem nv_top (X c : Int) : nv (X + MM * c) = nv X := by
  rw [← nv_mod (X + MM * c), Int.add_mul_emod_self_left, nv_mod]
theorem nv_up (Y : Int) : nv (18446744073709551616 * Y) = .agg #[.int .u64 0, .int .u64 (l0 Y), .int .u64 (l1 Y), .int .u64 (l2 Y)] := by
  obtain ⟨a, b, c, d, _⟩ := sh (v := 0) (Y := Y) (by decide) (by decide)
  rw [Int.zero_add] at a b c d
  rw [nv, a, b, c, d]
theorem nv_down {Y : Int} (h0 : 0 ≤ Y) (h : Y < MM) : nv (Y / 18446744073709551616) = .agg #[.int .u64 (l1 Y), .int .u64 (l2 Y), .int .u64 (l3 Y), .int .u64 0] := by
  have a : l0 (Y / 18446744073709551616) = l1 Y := by unfold l0 l1; rfl
  have b : l1 (Y / 18446744073709551616) = l2 Y := by unfold l1 l2; omega
  have c : l2 (Y / 18446744073709551616) = l3 Y := by unfold l2 l3; omega
  have d : l3 (Y / 18446744073709551616) = 0 := by unfold l3; unfold MM at h; omega
  rw [nv, a, b, c, d]
theorem cases64 (n : Int) (h0 : 0 ≤ n) (h : n ≤ 256) : ∃ r : Nat, r < 64 ∧ n % 64 = (r : Int) ∧ (n / 64 = 0 ∨ n / 64 = 1 ∨ n / 64 = 2 ∨ n / 64 = 3 ∨ n / 64 = 4) :=
  ⟨(n % 64).toNat, by omega, by omega, by omega⟩
theorem pow64 (n : Int) (r k : Nat) (h0 : 0 ≤ n) (hr : n % 64 = (r : Int)) (hk : n / 64 = (k : Int)) : (2 : Int) ^ n.toNat = 2 ^ r * 18446744073709551616 ^ k := by
  rw [show n.toNat = r + 64 * k from by omega, Int.pow_add, Int.pow_mul]; rfl
theorem shl_any (a0 a1 a2 a3 n : Int) (w : World) (ha : U4 a0 a1 a2 a3) (h0 : 0 ≤ n) (h : n ≤ 256) :
    Calls Tryz.prog 219 #[.agg #[.int .u64 a0, .int .u64 a1, .int .u64 a2, .int .u64 a3], .int .i64 n] w fun e w' =>
      e = .returned (nv (vl a0 a1 a2 a3 * 2 ^ n.toNat)) ∧ Mo w w' := by
  obtain ⟨r, hr, er, hq⟩ := cases64 n h0 h
  obtain ⟨u, e⟩ := sl_vl r hr ha
  have g := ha
  obtain ⟨g0, g1, g2, g3⟩ := g
  have c0 := sl_0 r a0
  have c1 := sl_or r hr g1 g0
  have c2 := sl_or r hr g2 g1
  have c3 := sl_or r hr g3 g2
  generalize sl r a0 0 = x0 at *
  generalize sl r a1 a0 = x1 at *
  generalize sl r a2 a1 = x2 at *
  generalize sl r a3 a2 = x3 at *
  rcases hq with hq | hq | hq | hq | hq
  · rw [pow64 n r 0 h0 er hq, Int.pow_zero, Int.mul_one, ← e, nv_top, nv_vl u]
    exact shl_0 a0 a1 a2 a3 n x0 x1 x2 x3 r w ha hq er hr h0 h c0 c1 c2 c3
  · rw [pow64 n r 1 h0 er hq, ← Int.mul_assoc, ← e, show ∀ t : Int, t * 18446744073709551616 ^ 1 = 18446744073709551616 * t from fun t => by rw [Int.pow_one, Int.mul_comm], Int.mul_add, Int.mul_left_comm, nv_top, nv_up, l0_vl u, l1_vl u, l2_vl u]
    exact shl_1 a0 a1 a2 a3 n x0 x1 x2 x3 r w ha hq er hr h0 h c0 c1 c2 c3
  · rw [pow64 n r 2 h0 er hq, ← Int.mul_assoc, ← e, show ∀ t : Int, t * 18446744073709551616 ^ 2 = 18446744073709551616 * (18446744073709551616 * t) from fun t => by omega, Int.mul_add, Int.mul_left_comm _ MM, Int.mul_add, Int.mul_left_comm _ MM, nv_top, nv_up]
    obtain ⟨a, b, c, _⟩ := sh (v := 0) (Y := vl x0 x1 x2 x3) (by decide) (by decide)
    rw [Int.zero_add] at a b c
    rw [a, b, c, l0_vl u, l1_vl u]
    exact shl_2 a0 a1 a2 a3 n x0 x1 x2 x3 r w ha hq er hr h0 h c0 c1 c2 c3
  · have k : nv (vl a0 a1 a2 a3 * 2 ^ n.toNat) = .agg #[.int .u64 0, .int .u64 0, .int .u64 0, .int .u64 x0] := by
      rw [pow64 n r 3 h0 er hq, ← Int.mul_assoc, ← e]
      have i0 := l0_vl u
      generalize hX : vl x0 x1 x2 x3 = X at *
      have s0 : l0 ((X + MM * (a3 / 2 ^ (64 - r))) * 18446744073709551616 ^ 3) = 0 := by unfold l0 MM; omega
      have s1 : l1 ((X + MM * (a3 / 2 ^ (64 - r))) * 18446744073709551616 ^ 3) = 0 := by unfold l1 MM; omega
      have s2 : l2 ((X + MM * (a3 / 2 ^ (64 - r))) * 18446744073709551616 ^ 3) = 0 := by unfold l2 MM; omega
      have s3 : l3 ((X + MM * (a3 / 2 ^ (64 - r))) * 18446744073709551616 ^ 3) = l0 X := by unfold l3 l0 MM; omega
      rw [nv, s0, s1, s2, s3, i0]
    rw [k]
    exact shl_3 a0 a1 a2 a3 n x0 x1 x2 x3 r w ha hq er hr h0 h c0 c1 c2 c3
  · have k : nv (vl a0 a1 a2 a3 * 2 ^ n.toNat) = .agg #[.int .u64 0, .int .u64 0, .int .u64 0, .int .u64 0] := by
      rw [pow64 n r 4 h0 er hq, ← Int.mul_assoc, ← nv_mod, show ((18446744073709551616 : Int) ^ 4) = MM from by decide, Int.mul_emod_left]
      simp [nv, l0, l1, l2, l3]
    rw [k]
    exact shl_4 a0 a1 a2 a3 n r w ha hq er hr h0 h
theorem shr_any (a0 a1 a2 a3 n : Int) (w : World) (ha : U4 a0 a1 a2 a3) (h0 : 0 ≤ n) (h : n ≤ 256) :
    Calls Tryz.prog 220 #[.agg #[.int .u64 a0, .int .u64 a1, .int .u64 a2, .int .u64 a3], .int .i64 n] w fun e w' =>
      e = .returned (nv (vl a0 a1 a2 a3 / 2 ^ n.toNat)) ∧ Mo w w' := by
  obtain ⟨r, hr, er, hq⟩ := cases64 n h0 h
  obtain ⟨u, e⟩ := sr_vl r hr ha
  have hP := (pq r hr).1
  have bd := vl_bd ha
  have g := ha
  obtain ⟨g0, g1, g2, g3⟩ := g
  have c0 := sr_or r hr g0 g1
  have c1 := sr_or r hr g1 g2
  have c2 := sr_or r hr g2 g3
  have c3 := sr_0 r a3
  generalize sr r a0 a1 = x0 at *
  generalize sr r a1 a2 = x1 at *
  generalize sr r a2 a3 = x2 at *
  generalize sr r a3 0 = x3 at *
  have ub := vl_bd u
  have q : ∀ k : Nat, n / 64 = (k : Int) → vl a0 a1 a2 a3 / 2 ^ n.toNat = vl x0 x1 x2 x3 / 18446744073709551616 ^ k := fun k hk => by
    rw [pow64 n r k h0 er hk, e, Int.ediv_ediv_of_nonneg (by omega)]
  rcases hq with hq | hq | hq | hq | hq
  · rw [q 0 hq, Int.pow_zero, Int.ediv_one, nv_vl u]
    exact shr_0 a0 a1 a2 a3 n x0 x1 x2 x3 r w ha hq er hr h0 h c0 c1 c2 c3
  · rw [q 1 hq, Int.pow_one, nv_down ub.1 ub.2, l1_vl u, l2_vl u, l3_vl u]
    exact shr_1 a0 a1 a2 a3 n x0 x1 x2 x3 r w ha hq er hr h0 h c0 c1 c2 c3
  · have k : nv (vl a0 a1 a2 a3 / 2 ^ n.toNat) = .agg #[.int .u64 x2, .int .u64 x3, .int .u64 0, .int .u64 0] := by
      rw [q 2 hq]
      unfold U4 U1 at u
      have s0 : l0 (vl x0 x1 x2 x3 / 18446744073709551616 ^ 2) = x2 := by unfold l0 vl; omega
      have s1 : l1 (vl x0 x1 x2 x3 / 18446744073709551616 ^ 2) = x3 := by unfold l1 vl; omega
      have s2 : l2 (vl x0 x1 x2 x3 / 18446744073709551616 ^ 2) = 0 := by unfold l2 vl; omega
      have s3 : l3 (vl x0 x1 x2 x3 / 18446744073709551616 ^ 2) = 0 := by unfold l3 vl; omega
      rw [nv, s0, s1, s2, s3]
    rw [k]
    exact shr_2 a0 a1 a2 a3 n x0 x1 x2 x3 r w ha hq er hr h0 h c0 c1 c2 c3
  · have k : nv (vl a0 a1 a2 a3 / 2 ^ n.toNat) = .agg #[.int .u64 x3, .int .u64 0, .int .u64 0, .int .u64 0] := by
      rw [q 3 hq]
      unfold U4 U1 at u
      have s0 : l0 (vl x0 x1 x2 x3 / 18446744073709551616 ^ 3) = x3 := by unfold l0 vl; omega
      have s1 : l1 (vl x0 x1 x2 x3 / 18446744073709551616 ^ 3) = 0 := by unfold l1 vl; omega
      have s2 : l2 (vl x0 x1 x2 x3 / 18446744073709551616 ^ 3) = 0 := by unfold l2 vl; omega
      have s3 : l3 (vl x0 x1 x2 x3 / 18446744073709551616 ^ 3) = 0 := by unfold l3 vl; omega
      rw [nv, s0, s1, s2, s3]
    rw [k]
    exact shr_3 a0 a1 a2 a3 n x0 x1 x2 x3 r w ha hq er hr h0 h c0 c1 c2 c3
  · have k : nv (vl a0 a1 a2 a3 / 2 ^ n.toNat) = .agg #[.int .u64 0, .int .u64 0, .int .u64 0, .int .u64 0] := by
      rw [q 4 hq, show ((18446744073709551616 : Int) ^ 4) = MM from by decide, Int.ediv_eq_zero_of_lt ub.1 ub.2]
      simp [nv, l0, l1, l2, l3]
    rw [k]
    exact shr_4 a0 a1 a2 a3 n r w ha hq er hr h0 h
theorem bl_le {a : Int} (h : U1 a) (h0 : a ≠ 0) : (Lib.bitLen a.toNat : Int) ≤ 64 ∧ (0 : Int) ≤ Lib.bitLen a.toNat := by
  obtain ⟨p, q⟩ := h
  obtain ⟨b1, b2, b3, b4⟩ := bitLen_bd 64 a.toNat (by omega) (by omega) (by omega)
  omega
set_option maxHeartbeats 1000000 in
theorem bits_any (a0 a1 a2 a3 : Int) (w : World) (ha : U4 a0 a1 a2 a3) :
    Calls Tryz.prog 218 #[.agg #[.int .u64 a0, .int .u64 a1, .int .u64 a2, .int .u64 a3]] w fun e w' =>
      e = .returned (.int .i64 (bln (vl a0 a1 a2 a3))) ∧ Mo w w' := by
  have fin : ∀ (r : Int) (w' : World), r = bln (vl a0 a1 a2 a3) → Mo w w' → (Ending.returned (.int .i64 r) = .returned (.int .i64 (bln (vl a0 a1 a2 a3))) ∧ Mo w w') := fun r w' h m => ⟨ret_int h, m⟩
  obtain ⟨g0, g1, g2, g3⟩ := ha
  have g := g0
  have g' := g1
  have g'' := g2
  have g''' := g3
  obtain ⟨p0, q0⟩ := g
  obtain ⟨p1, q1⟩ := g'
  obtain ⟨p2, q2⟩ := g''
  obtain ⟨p3, q3⟩ := g'''
  go_enter Tryz.func218, Tryz.ntmps218
  go_wp2
  refine wp_loop_rounds 5 ?_
  rw [rounds_succ]
  by_cases h3 : a3 = 0
  · have e3 : (a3 != 0) = false := by simp [h3]
    have H3 : Hid _ := h3
    clear h3
    go_wp2
    rw [rounds_succ]
    by_cases h2 : a2 = 0
    · have e2 : (a2 != 0) = false := by simp [h2]
      have H2 : Hid _ := h2
      clear h2
      go_wp2
      rw [rounds_succ]
      by_cases h1 : a1 = 0
      · have e1 : (a1 != 0) = false := by simp [h1]
        have H1 : Hid _ := h1
        clear h1
        go_wp2
        rw [rounds_succ]
        by_cases h0 : a0 = 0
        · have e0 : (a0 != 0) = false := by simp [h0]
          have H0 : Hid _ := h0
          clear h0
          go_wp2
          rw [rounds_succ]
          go_wp2
          go_ret
          refine fin _ _ ?_ ((Mo.refl _).alloc _ _)
          rw [H0.out, H1.out, H2.out, H3.out]; decide
        · have e0 : (a0 != 0) = true := by simp [h0]
          have b := bl_le g0 h0
          obtain ⟨b1, b2⟩ := b
          go_wp2_with (go_at_call 126; refine (Tryz.bits_Len64 a0 _ (by omega) (by omega)).mono ?_; rintro e w' ⟨rfl, rfl⟩)
          go_ret
          refine fin _ _ ?_ ((Mo.refl _).alloc _ _)
          have k := bln_join (a := a0) (low := 0) 0 (by omega) q0 (by omega) (by decide)
          rw [H1.out, H2.out, H3.out, show vl a0 0 0 0 = a0 * 2 ^ 0 + 0 from by unfold vl; omega, k]; simp
      · have e1 : (a1 != 0) = true := by simp [h1]
        have b := bl_le g1 h1
        obtain ⟨b1, b2⟩ := b
        go_wp2_with (go_at_call 126; refine (Tryz.bits_Len64 a1 _ (by omega) (by omega)).mono ?_; rintro e w' ⟨rfl, rfl⟩)
        go_ret
        refine fin _ _ ?_ ((Mo.refl _).alloc _ _)
        have k := bln_join (a := a1) (low := a0) 64 (by omega) q1 (by omega) (by omega)
        rw [H2.out, H3.out, show vl a0 a1 0 0 = a1 * 2 ^ 64 + a0 from by unfold vl; omega, k]; simp
    · have e2 : (a2 != 0) = true := by simp [h2]
      have b := bl_le g2 h2
      obtain ⟨b1, b2⟩ := b
      go_wp2_with (go_at_call 126; refine (Tryz.bits_Len64 a2 _ (by omega) (by omega)).mono ?_; rintro e w' ⟨rfl, rfl⟩)
      go_ret
      refine fin _ _ ?_ ((Mo.refl _).alloc _ _)
      have k := bln_join (a := a2) (low := a0 + 18446744073709551616 * a1) 128 (by omega) q2 (by omega) (by omega)
      rw [H3.out, show vl a0 a1 a2 0 = a2 * 2 ^ 128 + (a0 + 18446744073709551616 * a1) from by unfold vl; omega, k]; simp
  · have e3 : (a3 != 0) = true := by simp [h3]
    have b := bl_le g3 h3
    obtain ⟨b1, b2⟩ := b
    go_wp2_with (go_at_call 126; refine (Tryz.bits_Len64 a3 _ (by omega) (by omega)).mono ?_; rintro e w' ⟨rfl, rfl⟩)
    go_ret
    refine fin _ _ ?_ ((Mo.refl _).alloc _ _)
    have k := bln_join (a := a3) (low := a0 + 18446744073709551616 * a1 + 340282366920938463463374607431768211456 * a2) 192 (by omega) q3 (by omega) (by omega)
    rw [show vl a0 a1 a2 a3 = a3 * 2 ^ 192 + (a0 + 18446744073709551616 * a1 + 340282366920938463463374607431768211456 * a2) from by unfold vl; omega, k]; simp

set_option maxHeartbeats 4000000 in
theorem cmp15_any (a0 a1 a2 a3 b0 b1 b2 b3 : Int) (w : World) (ha : U4 a0 a1 a2 a3) (hb : U4 b0 b1 b2 b3) :
    Calls Tryz.prog 209 #[.agg #[.int .u64 a0, .int .u64 a1, .int .u64 a2, .int .u64 a3], .agg #[.int .u64 b0, .int .u64 b1, .int .u64 b2, .int .u64 b3]] w fun e w' =>
      e = .returned (.int .i64 (cm (vl a0 a1 a2 a3) (vl b0 b1 b2 b3))) ∧ Mo w w' := by
  have fin : ∀ (r : Int) (w' : World), r = cm (vl a0 a1 a2 a3) (vl b0 b1 b2 b3) → Mo w w' → (Ending.returned (.int .i64 r) = .returned (.int .i64 (cm (vl a0 a1 a2 a3) (vl b0 b1 b2 b3))) ∧ Mo w w') := fun r w' h m => ⟨ret_int h, m⟩
  obtain ⟨⟨p0, q0⟩, ⟨p1, q1⟩, ⟨p2, q2⟩, ⟨p3, q3⟩⟩ := ha
  obtain ⟨⟨r0, s0⟩, ⟨r1, s1⟩, ⟨r2, s2⟩, ⟨r3, s3⟩⟩ := hb
  go_enter Tryz.func209, Tryz.ntmps209
  go_wp2
  refine wp_loop_rounds 5 ?_
  rw [rounds_succ]
  by_cases h3 : a3 < b3
  · go_wp2
    go_quiet (fail)
    go_wp2
    go_ret
    refine fin _ _ (by unfold cm vl; split <;> (try split) <;> omega) ?_
    repeat (first | exact Mo.refl _ | apply Mo.drew | apply Mo.drewN | apply Mo.alloc)
  by_cases h3' : b3 < a3
  · go_wp2
    go_quiet (fail)
    go_wp2
    go_quiet (fail)
    go_wp2
    go_ret
    refine fin _ _ (by unfold cm vl; split <;> (try split) <;> omega) ?_
    repeat (first | exact Mo.refl _ | apply Mo.drew | apply Mo.drewN | apply Mo.alloc)
  go_wp2
  go_quiet (fail)
  go_wp2
  go_quiet (fail)
  go_wp2
  rw [rounds_succ]
  by_cases h2 : a2 < b2
  · go_wp2
    go_quiet (fail)
    go_wp2
    go_ret
    refine fin _ _ (by unfold cm vl; split <;> (try split) <;> omega) ?_
    repeat (first | exact Mo.refl _ | apply Mo.drew | apply Mo.drewN | apply Mo.alloc)
  by_cases h2' : b2 < a2
  · go_wp2
    go_quiet (fail)
    go_wp2
    go_quiet (fail)
    go_wp2
    go_ret
    refine fin _ _ (by unfold cm vl; split <;> (try split) <;> omega) ?_
    repeat (first | exact Mo.refl _ | apply Mo.drew | apply Mo.drewN | apply Mo.alloc)
  go_wp2
  go_quiet (fail)
  go_wp2
  go_quiet (fail)
  go_wp2
  rw [rounds_succ]
  by_cases h1 : a1 < b1
  · go_wp2
    go_quiet (fail)
    go_wp2
    go_ret
    refine fin _ _ (by unfold cm vl; split <;> (try split) <;> omega) ?_
    repeat (first | exact Mo.refl _ | apply Mo.drew | apply Mo.drewN | apply Mo.alloc)
  by_cases h1' : b1 < a1
  · go_wp2
    go_quiet (fail)
    go_wp2
    go_quiet (fail)
    go_wp2
    go_ret
    refine fin _ _ (by unfold cm vl; split <;> (try split) <;> omega) ?_
    repeat (first | exact Mo.refl _ | apply Mo.drew | apply Mo.drewN | apply Mo.alloc)
  go_wp2
  go_quiet (fail)
  go_wp2
  go_quiet (fail)
  go_wp2
  rw [rounds_succ]
  by_cases h0 : a0 < b0
  · go_wp2
    go_quiet (fail)
    go_wp2
    go_ret
    refine fin _ _ (by unfold cm vl; split <;> (try split) <;> omega) ?_
    repeat (first | exact Mo.refl _ | apply Mo.drew | apply Mo.drewN | apply Mo.alloc)
  by_cases h0' : b0 < a0
  · go_wp2
    go_quiet (fail)
    go_wp2
    go_quiet (fail)
    go_wp2
    go_ret
    refine fin _ _ (by unfold cm vl; split <;> (try split) <;> omega) ?_
    repeat (first | exact Mo.refl _ | apply Mo.drew | apply Mo.drewN | apply Mo.alloc)
  go_wp2
  go_quiet (fail)
  go_wp2
  go_quiet (fail)
  go_wp2
  rw [rounds_succ]
  go_wp2
  go_ret
  refine fin _ _ (by unfold cm vl; split <;> (try split) <;> omega) ?_
  repeat (first | exact Mo.refl _ | apply Mo.drew | apply Mo.drewN | apply Mo.alloc)

set_option maxHeartbeats 4000000 in
theorem cmp16_any (a0 a1 a2 a3 b0 b1 b2 b3 : Int) (w : World) (ha : U4 a0 a1 a2 a3) (hb : U4 b0 b1 b2 b3) :
    Calls Tryz.prog 179 #[.agg #[.int .u64 a0, .int .u64 a1, .int .u64 a2, .int .u64 a3], .agg #[.int .u64 b0, .int .u64 b1, .int .u64 b2, .int .u64 b3]] w fun e w' =>
      e = .returned (.int .i64 (cm (vl a0 a1 a2 a3) (vl b0 b1 b2 b3))) ∧ Mo w w' := by
  have fin : ∀ (r : Int) (w' : World), r = cm (vl a0 a1 a2 a3) (vl b0 b1 b2 b3) → Mo w w' → (Ending.returned (.int .i64 r) = .returned (.int .i64 (cm (vl a0 a1 a2 a3) (vl b0 b1 b2 b3))) ∧ Mo w w') := fun r w' h m => ⟨ret_int h, m⟩
  obtain ⟨⟨p0, q0⟩, ⟨p1, q1⟩, ⟨p2, q2⟩, ⟨p3, q3⟩⟩ := ha
  obtain ⟨⟨r0, s0⟩, ⟨r1, s1⟩, ⟨r2, s2⟩, ⟨r3, s3⟩⟩ := hb
  go_enter Tryz.func179, Tryz.ntmps179
  go_wp2
  refine wp_loop_rounds 5 ?_
  rw [rounds_succ]
  by_cases h3 : a3 < b3
  · go_wp2
    go_quiet (fail)
    go_wp2
    go_ret
    refine fin _ _ (by unfold cm vl; split <;> (try split) <;> omega) ?_
    repeat (first | exact Mo.refl _ | apply Mo.drew | apply Mo.drewN | apply Mo.alloc)
  by_cases h3' : b3 < a3
  · go_wp2
    go_quiet (fail)
    go_wp2
    go_quiet (fail)
    go_wp2
    go_ret
    refine fin _ _ (by unfold cm vl; split <;> (try split) <;> omega) ?_
    repeat (first | exact Mo.refl _ | apply Mo.drew | apply Mo.drewN | apply Mo.alloc)
  go_wp2
  go_quiet (fail)
  go_wp2
  go_quiet (fail)
  go_wp2
  rw [rounds_succ]
  by_cases h2 : a2 < b2
  · go_wp2
    go_quiet (fail)
    go_wp2
    go_ret
    refine fin _ _ (by unfold cm vl; split <;> (try split) <;> omega) ?_
    repeat (first | exact Mo.refl _ | apply Mo.drew | apply Mo.drewN | apply Mo.alloc)
  by_cases h2' : b2 < a2
  · go_wp2
    go_quiet (fail)
    go_wp2
    go_quiet (fail)
    go_wp2
    go_ret
    refine fin _ _ (by unfold cm vl; split <;> (try split) <;> omega) ?_
    repeat (first | exact Mo.refl _ | apply Mo.drew | apply Mo.drewN | apply Mo.alloc)
  go_wp2
  go_quiet (fail)
  go_wp2
  go_quiet (fail)
  go_wp2
  rw [rounds_succ]
  by_cases h1 : a1 < b1
  · go_wp2
    go_quiet (fail)
    go_wp2
    go_ret
    refine fin _ _ (by unfold cm vl; split <;> (try split) <;> omega) ?_
    repeat (first | exact Mo.refl _ | apply Mo.drew | apply Mo.drewN | apply Mo.alloc)
  by_cases h1' : b1 < a1
  · go_wp2
    go_quiet (fail)
    go_wp2
    go_quiet (fail)
    go_wp2
    go_ret
    refine fin _ _ (by unfold cm vl; split <;> (try split) <;> omega) ?_
    repeat (first | exact Mo.refl _ | apply Mo.drew | apply Mo.drewN | apply Mo.alloc)
  go_wp2
  go_quiet (fail)
  go_wp2
  go_quiet (fail)
  go_wp2
  rw [rounds_succ]
  by_cases h0 : a0 < b0
  · go_wp2
    go_quiet (fail)
    go_wp2
    go_ret
    refine fin _ _ (by unfold cm vl; split <;> (try split) <;> omega) ?_
    repeat (first | exact Mo.refl _ | apply Mo.drew | apply Mo.drewN | apply Mo.alloc)
  by_cases h0' : b0 < a0
  · go_wp2
    go_quiet (fail)
    go_wp2
    go_quiet (fail)
    go_wp2
    go_ret
    refine fin _ _ (by unfold cm vl; split <;> (try split) <;> omega) ?_
    repeat (first | exact Mo.refl _ | apply Mo.drew | apply Mo.drewN | apply Mo.alloc)
  go_wp2
  go_quiet (fail)
  go_wp2
  go_quiet (fail)
  go_wp2
  rw [rounds_succ]
  go_wp2
  go_ret
  refine fin _ _ (by unfold cm vl; split <;> (try split) <;> omega) ?_
  repeat (first | exact Mo.refl _ | apply Mo.drew | apply Mo.drewN | apply Mo.alloc)
/-- The block k holds four zeros. -/
def At0 (w : World) (k : Nat) : Prop := At4 w k 0 0 0 0 ∧ Fz w k ∧ k < w.heap.size
theorem At0.mo {w w' : World} {k : Nat} (h : At0 w k) (m : Mo w w') : At0 w' k := ⟨h.1.mo m h.2.2, h.2.1.mo m, Nat.lt_of_lt_of_le h.2.2 m.size⟩
theorem At0.new (w : World) : At0 (w.alloc (.cells #[.int .u64 0, .int .u64 0, .int .u64 0, .int .u64 0] 24)) w.heap.size :=
  ⟨by simp [At4, go_sem], fun o => by simp [go_sem], by simp⟩
theorem At0.mk1 {w w' : World} (m : Mo ((w.alloc (.cells #[.int .u64 0, .int .u64 0, .int .u64 0, .int .u64 0] 24)).drew) w') : At0 w' w.heap.size :=
  (At0.new w).mo (((Mo.refl _).drew).trans m)
theorem At0.mk2 {w w' : World} (m : Mo (w.alloc (.cells #[.int .u64 0, .int .u64 0, .int .u64 0, .int .u64 0] 24)) w') : At0 w' w.heap.size := (At0.new w).mo m
theorem At0.same {w : World} {k : Nat} (h : At0 w k) (z : Int) : AtN (st4 w k z) k z := by
  obtain ⟨⟨b0, b1, b2, b3⟩, f, s⟩ := h
  refine ⟨by simp [At4, go_sem, *], fun o => by simp [World.frozen?_setCell, f o], by simpa [World.setCell] using s⟩

theorem divStep_n (P x D : Int) (w : World) (h0 : 0 ≤ P) (h : P < D) (hD : D < MM) (hx : U1 x) :
    Calls Tryz.prog 221 #[nv P, .int .u64 x, nv D] w fun e w' => e = .returned (.tuple #[.int .u64 ((P * 18446744073709551616 + x) / D), nv ((P * 18446744073709551616 + x) % D)]) ∧ Mo w w' :=
  divStep_any (l0 P) (l1 P) (l2 P) (l3 P) x (l0 D) (l1 D) (l2 D) (l3 D) (P * 18446744073709551616 + x) D w (u4_lb P) hx (u4_lb D) (show _ = _ by rw [vl_lb P h0 (by omega)]) (show _ = _ by rw [vl_lb D (by omega) hD]) (show _ < _ by rw [vl_lb P h0 (by omega)]; exact h)
/-- The world between two steps. -/
def LW (w wr : World) (kr kq : Nat) (H low D P c0 c1 c2 c3 : Int) : Prop := VW w wr H low D ∧ AtN wr kr P ∧ At4 wr kq c0 c1 c2 c3 ∧ Fz wr kq ∧ kq < wr.heap.size ∧ w.heap.size + 1 + 1 + 1 + 1 < kr ∧ kr < kq
theorem LW.mo {w wr w1 : World} {kr kq : Nat} {H low D P c0 c1 c2 c3 : Int} (h : LW w wr kr kq H low D P c0 c1 c2 c3) (m : Mo wr w1) : LW w w1 kr kq H low D P c0 c1 c2 c3 := by
  obtain ⟨h1, h2, h3, h4, h5, h6, h7⟩ := h
  exact ⟨h1.mo m, h2.mo m, h3.mo m h5, h4.mo m, Nat.lt_of_lt_of_le h5 m.size, h6, h7⟩
theorem AtN.cell {w : World} {k j o : Nat} {n : Int} (h : AtN w j n) (hk : j ≠ k) (v : Value) : AtN (w.setCell ⟨k, o, none⟩ v) j n := by
  obtain ⟨⟨b0, b1, b2, b3⟩, f, s⟩ := h
  refine ⟨by simp [At4, go_sem, *], fun o => by simp [World.frozen?_setCell, f o], by simpa [World.setCell] using s⟩
theorem VW.cell {w wx : World} {h l d : Int} (v : VW w wx h l d) {k o : Nat} (hk : w.heap.size + 1 + 1 + 1 + 1 < k) (x : Value) : VW w (wx.setCell ⟨k, o, none⟩ x) h l d := by
  obtain ⟨v1, v2, v3, v4, v5, v6⟩ := v
  exact ⟨v1.setCell (by show w.heap.size ≤ k; omega) _, v2.cell (by omega) _, v3.cell (by omega) _, v4.cell (by omega) _, v5.cell (by omega) _, v6.cell (by omega) _⟩
theorem LW.put0 {w w1 : World} {kr kq : Nat} {H low D P c0 c1 c2 c3 : Int} (h : LW w w1 kr kq H low D P c0 c1 c2 c3) (q P' : Int) : LW w (st4 (w1.setCell ⟨kq, 0, none⟩ (.int .u64 q)) kr P') kr kq H low D P' q c1 c2 c3 := by
  obtain ⟨h1, h2, ⟨d0, d1, d2, d3⟩, h4, h5, h6, h7⟩ := h
  have n1 : kr ≠ kq := by omega
  have n2 : kq ≠ kr := by omega
  refine ⟨(h1.cell (by omega) _).setk h6 _, (h2.cell n1 _).same _, ?_, ?_, ?_, h6, h7⟩
  · simp [At4, go_sem, *]
  · intro o; simp [World.frozen?_setCell, h4 o]
  · simpa [World.setCell] using h5
theorem LW.put1 {w w1 : World} {kr kq : Nat} {H low D P c0 c1 c2 c3 : Int} (h : LW w w1 kr kq H low D P c0 c1 c2 c3) (q P' : Int) : LW w (st4 (w1.setCell ⟨kq, 1, none⟩ (.int .u64 q)) kr P') kr kq H low D P' c0 q c2 c3 := by
  obtain ⟨h1, h2, ⟨d0, d1, d2, d3⟩, h4, h5, h6, h7⟩ := h
  have n1 : kr ≠ kq := by omega
  have n2 : kq ≠ kr := by omega
  refine ⟨(h1.cell (by omega) _).setk h6 _, (h2.cell n1 _).same _, ?_, ?_, ?_, h6, h7⟩
  · simp [At4, go_sem, *]
  · intro o; simp [World.frozen?_setCell, h4 o]
  · simpa [World.setCell] using h5
theorem LW.put2 {w w1 : World} {kr kq : Nat} {H low D P c0 c1 c2 c3 : Int} (h : LW w w1 kr kq H low D P c0 c1 c2 c3) (q P' : Int) : LW w (st4 (w1.setCell ⟨kq, 2, none⟩ (.int .u64 q)) kr P') kr kq H low D P' c0 c1 q c3 := by
  obtain ⟨h1, h2, ⟨d0, d1, d2, d3⟩, h4, h5, h6, h7⟩ := h
  have n1 : kr ≠ kq := by omega
  have n2 : kq ≠ kr := by omega
  refine ⟨(h1.cell (by omega) _).setk h6 _, (h2.cell n1 _).same _, ?_, ?_, ?_, h6, h7⟩
  · simp [At4, go_sem, *]
  · intro o; simp [World.frozen?_setCell, h4 o]
  · simpa [World.setCell] using h5
theorem LW.put3 {w w1 : World} {kr kq : Nat} {H low D P c0 c1 c2 c3 : Int} (h : LW w w1 kr kq H low D P c0 c1 c2 c3) (q P' : Int) : LW w (st4 (w1.setCell ⟨kq, 3, none⟩ (.int .u64 q)) kr P') kr kq H low D P' c0 c1 c2 q := by
  obtain ⟨h1, h2, ⟨d0, d1, d2, d3⟩, h4, h5, h6, h7⟩ := h
  have n1 : kr ≠ kq := by omega
  have n2 : kq ≠ kr := by omega
  refine ⟨(h1.cell (by omega) _).setk h6 _, (h2.cell n1 _).same _, ?_, ?_, ?_, h6, h7⟩
  · simp [At4, go_sem, *]
  · intro o; simp [World.frozen?_setCell, h4 o]
  · simpa [World.setCell] using h5

set_option maxHeartbeats 4000000 in
theorem div_yes (H L D P4 D' : Int) (s : Nat) (w : World) (hH0 : 0 ≤ H) (hHM : H < MM) (hL0 : 0 ≤ L) (hLM : L < MM) (hD0 : 0 ≤ D) (hDM : D < MM) (hlt : Hid (H < D))
    (hs : 256 - bln D = (s : Int)) (hs2 : s ≤ 255) (hP4 : Hid (P4 = H * 2 ^ s + L / 2 ^ (256 - s))) (hD' : Hid (D' = D * 2 ^ s)) (hHs : Hid (0 ≤ H * 2 ^ s ∧ H * 2 ^ s < MM)) (hLs : Hid (0 ≤ L / 2 ^ (256 - s) ∧ L / 2 ^ (256 - s) < MM))
    (low q0 q1 q2 q3 P3 P2 P1 P0 : Int) (hlow : Hid (low = L * 2 ^ s % MM)) (e3 : Hid ((P4 * 18446744073709551616 + l3 low) / D' = q3)) (f3 : Hid ((P4 * 18446744073709551616 + l3 low) % D' = P3)) (e2 : Hid ((P3 * 18446744073709551616 + l2 low) / D' = q2)) (f2 : Hid ((P3 * 18446744073709551616 + l2 low) % D' = P2)) (e1 : Hid ((P2 * 18446744073709551616 + l1 low) / D' = q1)) (f1 : Hid ((P2 * 18446744073709551616 + l1 low) % D' = P1)) (e0 : Hid ((P1 * 18446744073709551616 + l0 low) / D' = q0)) (f0 : Hid ((P1 * 18446744073709551616 + l0 low) % D' = P0)) (hDM' : Hid (D' < MM)) (b4 : Hid (0 ≤ P4 ∧ P4 < D')) (b3 : Hid (0 ≤ P3 ∧ P3 < D')) (b2 : Hid (0 ≤ P2 ∧ P2 < D')) (b1 : Hid (0 ≤ P1 ∧ P1 < D')) (b0 : Hid (0 ≤ P0 ∧ P0 < D')) :
    Calls Tryz.prog 205 #[nv H, nv L, nv D] w fun e w' =>
      e = .returned (.tuple #[.agg #[.int .u64 q0, .int .u64 q1, .int .u64 q2, .int .u64 q3], nv (P0 / 2 ^ s), .bool true]) ∧ Mo w w' := by
  have s0 : (0 : Int) ≤ (s : Int) := by omega
  have s1 : (s : Int) ≤ 256 := by omega
  have s2 : (0 : Int) ≤ 256 - (s : Int) := by omega
  have s3 : 256 - (s : Int) ≤ 256 := by omega
  have hwr : IntKind.i64.wrap (256 - (s : Int)) = 256 - (s : Int) := by rw [IntKind.wrap_i64]; omega
  go_enter Tryz.func205, Tryz.ntmps205
  go_wp2_with fail
  refine (cmp15_any (l0 H) (l1 H) (l2 H) (l3 H) (l0 D) (l1 D) (l2 D) (l3 D) _ (u4_lb H) (u4_lb D)).mono ?_
  rintro e w1 ⟨rfl, hm1⟩
  rw [vl_lb H hH0 hHM, vl_lb D hD0 hDM, show cm H D = -1 from by unfold cm; rw [if_pos hlt.out]]
  have v1 := (VW.start w H L D).mo hm1
  clear hm1
  have o1 := v1.2.2.2.1.1
  obtain ⟨c0, c1, c2, c3⟩ := o1
  go_wp2_with fail
  refine (bits_any (l0 D) (l1 D) (l2 D) (l3 D) _ (u4_lb D)).mono ?_
  rintro e w2 ⟨rfl, hm2⟩
  rw [vl_lb D hD0 hDM]
  have v2 := v1.mo hm2
  clear hm2 v1 c0 c1 c2 c3
  go_upto_region 4 with fail
  go_cut [] from 23 to 25 (fun wx => VW w wx H L D')
  case first =>
    have o1 := v2.2.2.2.1.1
    obtain ⟨c0, c1, c2, c3⟩ := o1
    go_wp2_with fail
    refine (shl_any (l0 D) (l1 D) (l2 D) (l3 D) s _ (u4_lb D) s0 s1).mono ?_
    rintro e w3 ⟨rfl, hm3⟩
    rw [vl_lb D hD0 hDM, Int.toNat_natCast, ← hD'.out]
    have v3 := v2.mo hm3
    clear hm3 c0 c1 c2 c3
    have o1 := v3.2.2.2.1
    obtain ⟨⟨c0, c1, c2, c3⟩, f, z⟩ := o1
    have f := fun o => f o
    go_wp2
    go_meet
    case rel => exact v3.setd _
  case rest =>
    clear v2
    have v := hcut
    go_upto_region 5 with fail
    go_cut [10, 11] from 26 to 36 (fun s10 _ wx => ∃ k, s10 = .pointer (some ⟨k, 0, none⟩) ∧ w.heap.size + 1 + 1 + 1 + 1 < k ∧ VW w wx H L D' ∧ AtN wx k P4)
    case first =>
      have nH := v.2.1
      have nL := v.2.2.1
      have o1 := nH
      have o2 := nL
      obtain ⟨⟨c0, c1, c2, c3⟩, _, y1⟩ := o1
      obtain ⟨⟨d0, d1, d2, d3⟩, _, y2⟩ := o2
      go_region_held3 (fun w' => w'.cell? ⟨w.heap.size, 0, none⟩ = some (.int .u64 (l0 H)) ∧ w'.cell? ⟨w.heap.size, 1, none⟩ = some (.int .u64 (l1 H)) ∧ w'.cell? ⟨w.heap.size, 2, none⟩ = some (.int .u64 (l2 H)) ∧ w'.cell? ⟨w.heap.size, 3, none⟩ = some (.int .u64 (l3 H)) ∧ w'.cell? ⟨w.heap.size + 1, 0, none⟩ = some (.int .u64 (l0 L)) ∧ w'.cell? ⟨w.heap.size + 1, 1, none⟩ = some (.int .u64 (l1 L)) ∧ w'.cell? ⟨w.heap.size + 1, 2, none⟩ = some (.int .u64 (l2 L)) ∧ w'.cell? ⟨w.heap.size + 1, 3, none⟩ = some (.int .u64 (l3 L))) (simp [go_sem, World.cell?_alloc_past, *])
        (first | (go_at_call 219; refine (shl_any (l0 H) (l1 H) (l2 H) (l3 H) s _ (u4_lb H) s0 s1).mono ?_; rintro e w4 ⟨rfl, hm4⟩; rw [vl_lb H hH0 hHM, Int.toNat_natCast]; have m4 : Mo wc w4 := Mo.trans (by repeat (first | with_reducible exact Mo.refl _ | with_reducible apply Mo.drew | with_reducible apply Mo.alloc)) hm4; (try (with_reducible have k4 := At0.mk1 hm4)); obtain ⟨⟨e0, e1, e2, e3⟩, _, y3⟩ := nH.mo m4; obtain ⟨⟨f0, f1, f2, f3⟩, _, y4⟩ := nL.mo m4) | (go_at_call 220; refine (shr_any (l0 L) (l1 L) (l2 L) (l3 L) (256 - s) _ (u4_lb L) s2 s3).mono ?_; rintro e w5 ⟨rfl, hm5⟩; rw [vl_lb L hL0 hLM, show (256 - (s : Int)).toNat = 256 - s from (by omega)]; have m5 : Mo w4 w5 := Mo.trans (by repeat (first | with_reducible exact Mo.refl _ | with_reducible apply Mo.drew | with_reducible apply Mo.alloc)) hm5; (try (with_reducible have k5 := At0.mk2 hm5)); (try (with_reducible have k5 := k4.mo m5)); obtain ⟨⟨g0, g1, g2, g3⟩, _, y5⟩ := nH.mo (m4.trans m5); obtain ⟨⟨h0, h1, h2, h3⟩, _, y6⟩ := nL.mo (m4.trans m5)) | (go_at_call 207; refine (add_any _ _ _ _ _ _ _ _ _ (u4_lb _) (u4_lb _)).mono ?_; rintro e w6 ⟨rfl, hm6⟩; rw [vl_lb _ hHs.out.1 hHs.out.2, vl_lb _ hLs.out.1 hLs.out.2, ← hP4.out]; have m6 : Mo w5 w6 := Mo.trans (by repeat (first | with_reducible exact Mo.refl _ | with_reducible apply Mo.drew | with_reducible apply Mo.alloc)) hm6; (try (with_reducible have k6 := At0.mk2 hm6)); (try (with_reducible have k6 := k5.mo m6)); (try have k7 := k6); (try obtain ⟨⟨i0, i1, i2, i3⟩, ff, y9⟩ := k6); (try have ff := fun o => ff o); obtain ⟨⟨j0, j1, j2, j3⟩, _, y7⟩ := nH.mo ((m4.trans m5).trans m6); obtain ⟨⟨t0, t1, t2, t3⟩, _, y8⟩ := nL.mo ((m4.trans m5).trans m6)))
      all_goals
        go_wp2
        go_meet
        case rel =>
          have m := (m4.trans m5).trans m6
          have x1 := v.2.2.2.2.2.2.2
          have x2 := m4.size
          have x3 := m5.size
          have x4 := m6.size
          refine ⟨_, rfl, by omega, ?_, ?_⟩
          · first | exact (v.mo m).setk (by omega) _ | exact (v.mo m).mo ((Mo.refl _).alloc _ _)
          · first | exact k7.same _ | exact AtN.new _ _
    case rest =>
      clear v
      obtain ⟨kr, rfl, hkr, v, nr⟩ := hcut
      have nr0 := nr
      have o1 := v.2.2.1.1
      obtain ⟨c0, c1, c2, c3⟩ := o1
      go_wp2_with fail
      refine (shl_any (l0 L) (l1 L) (l2 L) (l3 L) s _ (u4_lb L) s0 s1).mono ?_
      rintro e w7 ⟨rfl, hm7⟩
      rw [vl_lb L hL0 hLM, Int.toNat_natCast, ← nv_mod, ← hlow.out]
      have v7 := v.mo hm7
      have n7 := nr0.mo hm7
      clear hm7 c0 c1 c2 c3 nr nr0 v
      have S0 : LW w ((st4 w7 (w.heap.size + 1) low).alloc (.cells #[.int .u64 0, .int .u64 0, .int .u64 0, .int .u64 0] 24)) kr w7.heap.size H low D' P4 0 0 0 0 := by
        have a : Mo (st4 w7 (w.heap.size + 1) low) ((st4 w7 (w.heap.size + 1) low).alloc (.cells #[.int .u64 0, .int .u64 0, .int .u64 0, .int .u64 0] 24)) := (Mo.refl _).alloc _ _
        have z := At0.new (st4 w7 (w.heap.size + 1) low)
        rw [show (st4 w7 (w.heap.size + 1) low).heap.size = w7.heap.size from by simp [World.setCell]] at z
        exact ⟨(v7.setl low).mo a, (n7.other (by omega) low).mo a, z.1, z.2.1, z.2.2, hkr, n7.2.2⟩
      have o1 := v7.2.2.1
      obtain ⟨⟨c0, c1, c2, c3⟩, f, z⟩ := o1
      have f := fun o => f o
      go_wp2
      go_loopw [13] (fun i wr => (i = .int .i64 3 ∧ LW w wr kr w7.heap.size H low D' P4 0 0 0 0) ∨ (i = .int .i64 2 ∧ LW w wr kr w7.heap.size H low D' P3 0 0 0 q3) ∨ (i = .int .i64 1 ∧ LW w wr kr w7.heap.size H low D' P2 0 0 q2 q3) ∨ (i = .int .i64 0 ∧ LW w wr kr w7.heap.size H low D' P1 0 q1 q2 q3) ∨ (i = .int .i64 (-1) ∧ LW w wr kr w7.heap.size H low D' P0 q0 q1 q2 q3)) (fun i _ => (intOf i + 1).toNat)
      case atStart => exact Or.inl ⟨rfl, S0⟩
      case round =>
        clear S0 c0 c1 c2 c3 f z v7 n7
        obtain ⟨rfl, hw⟩ | ⟨rfl, hw⟩ | ⟨rfl, hw⟩ | ⟨rfl, hw⟩ | ⟨rfl, hw⟩ := hrel
        · have hw0 := hw
          obtain ⟨⟨_, _, ⟨⟨c0, c1, c2, c3⟩, _, _⟩, ⟨⟨d0, d1, d2, d3⟩, _, _⟩, _, _⟩, ⟨⟨r0, r1, r2, r3⟩, _, _⟩, _⟩ := hw
          go_wp2
          go_region_with
            (first | (go_at_call 221; refine (divStep_n P4 (l3 low) D' _ b4.out.1 b4.out.2 hDM'.out (u_l3 low)).mono ?_; rintro e w8 ⟨rfl, hm8⟩; rw [e3.out, f3.out]; have hw1 := hw0.mo (Mo.trans (by repeat (first | with_reducible exact Mo.refl _ | with_reducible apply Mo.drew)) hm8); have hw2 := hw1; obtain ⟨⟨_, _, ⟨⟨c0, c1, c2, c3⟩, _, _⟩, ⟨⟨d0, d1, d2, d3⟩, _, _⟩, _, _⟩, ⟨⟨r0, r1, r2, r3⟩, fr, _⟩, ⟨x0, x1, x2, x3⟩, fq, _, _, _⟩ := hw2; have fr := fun o => fr o; have fq := fun o => fq o))
          all_goals
            go_wp2
            go_roundw
            case rel => exact Or.inr (Or.inl ⟨rfl, hw1.put3 _ _⟩)
            case measure => simp [intOf]
        · have hw0 := hw
          obtain ⟨⟨_, _, ⟨⟨c0, c1, c2, c3⟩, _, _⟩, ⟨⟨d0, d1, d2, d3⟩, _, _⟩, _, _⟩, ⟨⟨r0, r1, r2, r3⟩, _, _⟩, _⟩ := hw
          go_wp2
          go_region_with
            (first | (go_at_call 221; refine (divStep_n P3 (l2 low) D' _ b3.out.1 b3.out.2 hDM'.out (u_l2 low)).mono ?_; rintro e w8 ⟨rfl, hm8⟩; rw [e2.out, f2.out]; have hw1 := hw0.mo (Mo.trans (by repeat (first | with_reducible exact Mo.refl _ | with_reducible apply Mo.drew)) hm8); have hw2 := hw1; obtain ⟨⟨_, _, ⟨⟨c0, c1, c2, c3⟩, _, _⟩, ⟨⟨d0, d1, d2, d3⟩, _, _⟩, _, _⟩, ⟨⟨r0, r1, r2, r3⟩, fr, _⟩, ⟨x0, x1, x2, x3⟩, fq, _, _, _⟩ := hw2; have fr := fun o => fr o; have fq := fun o => fq o))
          all_goals
            go_wp2
            go_roundw
            case rel => exact Or.inr (Or.inr (Or.inl ⟨rfl, hw1.put2 _ _⟩))
            case measure => simp [intOf]
        · have hw0 := hw
          obtain ⟨⟨_, _, ⟨⟨c0, c1, c2, c3⟩, _, _⟩, ⟨⟨d0, d1, d2, d3⟩, _, _⟩, _, _⟩, ⟨⟨r0, r1, r2, r3⟩, _, _⟩, _⟩ := hw
          go_wp2
          go_region_with
            (first | (go_at_call 221; refine (divStep_n P2 (l1 low) D' _ b2.out.1 b2.out.2 hDM'.out (u_l1 low)).mono ?_; rintro e w8 ⟨rfl, hm8⟩; rw [e1.out, f1.out]; have hw1 := hw0.mo (Mo.trans (by repeat (first | with_reducible exact Mo.refl _ | with_reducible apply Mo.drew)) hm8); have hw2 := hw1; obtain ⟨⟨_, _, ⟨⟨c0, c1, c2, c3⟩, _, _⟩, ⟨⟨d0, d1, d2, d3⟩, _, _⟩, _, _⟩, ⟨⟨r0, r1, r2, r3⟩, fr, _⟩, ⟨x0, x1, x2, x3⟩, fq, _, _, _⟩ := hw2; have fr := fun o => fr o; have fq := fun o => fq o))
          all_goals
            go_wp2
            go_roundw
            case rel => exact Or.inr (Or.inr (Or.inr (Or.inl ⟨rfl, hw1.put1 _ _⟩)))
            case measure => simp [intOf]
        · have hw0 := hw
          obtain ⟨⟨_, _, ⟨⟨c0, c1, c2, c3⟩, _, _⟩, ⟨⟨d0, d1, d2, d3⟩, _, _⟩, _, _⟩, ⟨⟨r0, r1, r2, r3⟩, _, _⟩, _⟩ := hw
          go_wp2
          go_region_with
            (first | (go_at_call 221; refine (divStep_n P1 (l0 low) D' _ b1.out.1 b1.out.2 hDM'.out (u_l0 low)).mono ?_; rintro e w8 ⟨rfl, hm8⟩; rw [e0.out, f0.out]; have hw1 := hw0.mo (Mo.trans (by repeat (first | with_reducible exact Mo.refl _ | with_reducible apply Mo.drew)) hm8); have hw2 := hw1; obtain ⟨⟨_, _, ⟨⟨c0, c1, c2, c3⟩, _, _⟩, ⟨⟨d0, d1, d2, d3⟩, _, _⟩, _, _⟩, ⟨⟨r0, r1, r2, r3⟩, fr, _⟩, ⟨x0, x1, x2, x3⟩, fq, _, _, _⟩ := hw2; have fr := fun o => fr o; have fq := fun o => fq o))
          all_goals
            go_wp2
            go_roundw
            case rel => exact Or.inr (Or.inr (Or.inr (Or.inr ⟨rfl, hw1.put0 _ _⟩)))
            case measure => simp [intOf]
        · have hw0 := hw
          obtain ⟨⟨k1, _, _, _, ⟨⟨c0, c1, c2, c3⟩, fc, _⟩, ⟨⟨d0, d1, d2, d3⟩, fd, _⟩⟩, ⟨⟨r0, r1, r2, r3⟩, _, _⟩, ⟨x0, x1, x2, x3⟩, _⟩ := hw
          go_wp2
          go_cut [8] from 55 to 58 (fun s8 wx => s8 = .bool true ∧ At4 wx (w.heap.size + 1 + 1 + 1) q0 q1 q2 q3 ∧ AtN wx (w.heap.size + 1 + 1 + 1 + 1) (P0 / 2 ^ s) ∧ Mo w wx)
          case first =>
            go_region_held3 (fun w' => w'.cell? ⟨w7.heap.size, 0, none⟩ = some (.int .u64 q0) ∧ w'.cell? ⟨w7.heap.size, 1, none⟩ = some (.int .u64 q1) ∧ w'.cell? ⟨w7.heap.size, 2, none⟩ = some (.int .u64 q2) ∧ w'.cell? ⟨w7.heap.size, 3, none⟩ = some (.int .u64 q3) ∧ w'.cell? ⟨kr, 0, none⟩ = some (.int .u64 (l0 P0)) ∧ w'.cell? ⟨kr, 1, none⟩ = some (.int .u64 (l1 P0)) ∧ w'.cell? ⟨kr, 2, none⟩ = some (.int .u64 (l2 P0)) ∧ w'.cell? ⟨kr, 3, none⟩ = some (.int .u64 (l3 P0))) (simp [go_sem, *])
              (first | (go_at_call 220; refine (shr_any (l0 P0) (l1 P0) (l2 P0) (l3 P0) s _ (u4_lb P0) s0 s1).mono ?_; rintro e w9 ⟨rfl, hm9⟩; rw [vl_lb P0 b0.out.1 (Int.lt_trans b0.out.2 hDM'.out), Int.toNat_natCast]; have hw1 := hw0.mo (Mo.trans (by repeat (first | with_reducible exact Mo.refl _ | with_reducible apply Mo.drew)) hm9); have hw2 := hw1; obtain ⟨⟨k1, _, _, _, ⟨⟨c0, c1, c2, c3⟩, fc, zc⟩, ⟨⟨d0, d1, d2, d3⟩, fd, zd⟩⟩, ⟨⟨r0, r1, r2, r3⟩, _, _⟩, ⟨x0, x1, x2, x3⟩, _, _, zq, zr⟩ := hw2; have fc := fun o => fc o; have fd := fun o => fd o; have n1 : ¬ kr = w.heap.size + 1 + 1 + 1 := (by omega); have n2 : ¬ kr = w.heap.size + 1 + 1 + 1 + 1 := (by omega); have n3 : ¬ w7.heap.size = w.heap.size + 1 + 1 + 1 := (by omega); have n4 : ¬ w7.heap.size = w.heap.size + 1 + 1 + 1 + 1 := (by omega)))
            go_wp2
            go_meet
            case rel =>
              have le1 : w.heap.size ≤ w.heap.size + 1 + 1 + 1 := by omega
              have le2 : w.heap.size ≤ w.heap.size + 1 + 1 + 1 + 1 := by omega
              refine ⟨rfl, by simp [At4, go_sem, c0, c1, c2, c3], ⟨by simp [At4, go_sem, d0, d1, d2, d3], fun o => by simp [World.frozen?_setCell, fd o], by simpa [World.setCell] using zd⟩, ?_⟩
              repeat (first | with_reducible exact k1 | with_reducible apply Mo.drew | with_reducible refine Mo.setCell ?_ le1 _ | with_reducible refine Mo.setCell ?_ le2 _)
          case rest =>
            obtain ⟨rfl, ⟨a0, a1, a2, a3⟩, ⟨⟨g0, g1, g2, g3⟩, _, _⟩, hmo⟩ := hcut
            go_wp2
            refine bodyPost_ret (v := .tuple #[.agg #[.int .u64 q0, .int .u64 q1, .int .u64 q2, .int .u64 q3], nv (P0 / 2 ^ s), .bool true]) (by simp [results, Tryz.results205, go_sem, a0, a1, a2, a3, g0, g1, g2, g3]) rfl ?_
            exact ⟨rfl, hmo⟩

set_option maxHeartbeats 1000000 in
theorem div_no (H L D : Int) (w : World) (hH0 : 0 ≤ H) (hHM : H < MM) (hD0 : 0 ≤ D) (hDM : D < MM) (hge : D ≤ H) :
    Calls Tryz.prog 205 #[nv H, nv L, nv D] w fun e w' =>
      e = .returned (.tuple #[.agg #[.int .u64 0, .int .u64 0, .int .u64 0, .int .u64 0], .agg #[.int .u64 0, .int .u64 0, .int .u64 0, .int .u64 0], .bool false]) ∧ Mo w w' := by
  have hc : cm H D = 0 ∨ cm H D = 1 := by unfold cm; rw [if_neg (by omega)]; split <;> simp
  have z0 : l0 0 = 0 := by decide
  have z1 : l1 0 = 0 := by decide
  have z2 : l2 0 = 0 := by decide
  have z3 : l3 0 = 0 := by decide
  rcases hc with hc | hc
  all_goals
    have Hc : Hid _ := hc
    clear hc
    go_enter Tryz.func205, Tryz.ntmps205
    go_wp2_with fail
    refine (cmp15_any (l0 H) (l1 H) (l2 H) (l3 H) (l0 D) (l1 D) (l2 D) (l3 D) _ (u4_lb H) (u4_lb D)).mono ?_
    rintro e w1 ⟨rfl, hm1⟩
    rw [vl_lb H hH0 hHM, vl_lb D hD0 hDM, Hc.out]
    have v1 := (VW.start w H L D).mo hm1
    clear hm1
    obtain ⟨m1, _, _, _, ⟨⟨c0, c1, c2, c3⟩, fc, zc⟩, ⟨⟨d0, d1, d2, d3⟩, fd, zd⟩⟩ := v1
    rw [z0] at c0 d0; rw [z1] at c1 d1; rw [z2] at c2 d2; rw [z3] at c3 d3
    have fc := fun o => fc o
    have fd := fun o => fd o
    go_wp2
    refine bodyPost_ret (v := .tuple #[.agg #[.int .u64 0, .int .u64 0, .int .u64 0, .int .u64 0], .agg #[.int .u64 0, .int .u64 0, .int .u64 0, .int .u64 0], .bool false]) (by simp [results, Tryz.results205, go_sem, c0, c1, c2, c3, d0, d1, d2, d3]) rfl ?_
    refine ⟨rfl, ?_⟩
    have le1 : w.heap.size ≤ w.heap.size + 1 + 1 + 1 := by omega
    have le2 : w.heap.size ≤ w.heap.size + 1 + 1 + 1 + 1 := by omega
    repeat (first | with_reducible exact m1 | with_reducible apply Mo.drew | with_reducible refine Mo.setCell ?_ le1 _ | with_reducible refine Mo.setCell ?_ le2 _)

/-- What Div answers. -/
def dq (H L D : Int) : Int := if D ≤ H then 0 else (H * MM + L) / D
def dr (H L D : Int) : Int := if D ≤ H then 0 else (H * MM + L) % D
def dok (H D : Int) : Bool := decide (H < D)
theorem div_any (h0 h1 h2 h3 l0' l1' l2' l3' d0 d1 d2 d3 : Int) (w : World) (hh : U4 h0 h1 h2 h3) (hl : U4 l0' l1' l2' l3') (hd : U4 d0 d1 d2 d3) :
    Calls Tryz.prog 205 #[.agg #[.int .u64 h0, .int .u64 h1, .int .u64 h2, .int .u64 h3], .agg #[.int .u64 l0', .int .u64 l1', .int .u64 l2', .int .u64 l3'], .agg #[.int .u64 d0, .int .u64 d1, .int .u64 d2, .int .u64 d3]] w fun e w' =>
      e = .returned (.tuple #[nv (dq (vl h0 h1 h2 h3) (vl l0' l1' l2' l3') (vl d0 d1 d2 d3)), nv (dr (vl h0 h1 h2 h3) (vl l0' l1' l2' l3') (vl d0 d1 d2 d3)), .bool (dok (vl h0 h1 h2 h3) (vl d0 d1 d2 d3))]) ∧ Mo w w' := by
  obtain ⟨a1, a2⟩ := vl_bd hh
  obtain ⟨b1, b2⟩ := vl_bd hl
  obtain ⟨c1, c2⟩ := vl_bd hd
  rw [← nv_vl hh, ← nv_vl hl, ← nv_vl hd]
  generalize vl h0 h1 h2 h3 = H at *
  generalize vl l0' l1' l2' l3' = L at *
  generalize vl d0 d1 d2 d3 = D at *
  by_cases hge : D ≤ H
  · have e1 : nv (dq H L D) = .agg #[.int .u64 0, .int .u64 0, .int .u64 0, .int .u64 0] := by unfold dq; rw [if_pos hge]; simp [nv, l0, l1, l2, l3]
    have e2 : nv (dr H L D) = .agg #[.int .u64 0, .int .u64 0, .int .u64 0, .int .u64 0] := by unfold dr; rw [if_pos hge]; simp [nv, l0, l1, l2, l3]
    have e3 : dok H D = false := decide_eq_false (by omega)
    rw [e1, e2, e3]
    exact div_no H L D w a1 a2 c1 c2 hge
  · have hlt : H < D := by omega
    obtain ⟨s, hs, hs2, m1, m2⟩ := dshift (D := D) (by omega) c2
    obtain ⟨p1, p2, p3, p4⟩ := shifted (s := s) (H := H) (L := L) (D := D) hs2 a1 hlt b1 b2
    have low0 : 0 ≤ L * 2 ^ s % MM := Int.emod_nonneg _ (by decide)
    have low1 : L * 2 ^ s % MM < MM := Int.emod_lt_of_pos _ (by decide)
    obtain ⟨u, w3, w2, w1, w0, k1, k2⟩ := steps_eq p1 p2 low0 low1 rfl rfl rfl rfl rfl rfl rfl rfl
    have hP : (0 : Int) < 2 ^ s := Int.pow_pos (by decide)
    have hQ : (0 : Int) < 2 ^ (256 - s) := Int.pow_pos (by decide)
    have q1 : 0 ≤ H * 2 ^ s := Int.mul_nonneg a1 (by omega)
    have q2 : 0 ≤ L / 2 ^ (256 - s) := Int.ediv_nonneg b1 (by omega)
    have e3 : dok H D = true := decide_eq_true hlt
    have e1 : dq H L D = (H * MM + L) / D := if_neg hge
    have e2 : dr H L D = (H * MM + L) % D := if_neg hge
    rw [e1, e2, e3, ← k1.trans p3, nv_vl u, ← p4, ← k2]
    exact div_yes H L D _ _ s w a1 a2 b1 b2 c1 c2 hlt hs hs2 rfl rfl ⟨q1, by omega⟩ ⟨q2, by omega⟩ _ _ _ _ _ _ _ _ _ rfl rfl rfl rfl rfl rfl rfl rfl rfl m1 ⟨p1, p2⟩ w3 w2 w1 w0
theorem vint {k : IntKind} {a b : Int} (h : a = b) : Value.int k a = .int k b := by rw [h]
theorem setl0 (X : World) (m N : Nat) (x0 x1 x2 x3 v u : Value) (hN : N = X.heap.size) (h : v = u) :
    ((X.alloc (.cells #[x0, x1, x2, x3] 24)).drewN m).setCell ⟨N, 0, none⟩ v = (X.alloc (.cells #[u, x1, x2, x3] 24)).drewN m := by
  subst hN; subst h
  show (((X.alloc (.cells #[x0, x1, x2, x3] 24)).setCell ⟨X.heap.size, 0, none⟩ v).drewN m) = _
  rw [World.setCell_alloc_at _ _ _ _ _ rfl]
  rfl
theorem setl1 (X : World) (m N : Nat) (x0 x1 x2 x3 v u : Value) (hN : N = X.heap.size) (h : v = u) :
    ((X.alloc (.cells #[x0, x1, x2, x3] 24)).drewN m).setCell ⟨N, 1, none⟩ v = (X.alloc (.cells #[x0, u, x2, x3] 24)).drewN m := by
  subst hN; subst h
  show (((X.alloc (.cells #[x0, x1, x2, x3] 24)).setCell ⟨X.heap.size, 1, none⟩ v).drewN m) = _
  rw [World.setCell_alloc_at _ _ _ _ _ rfl]
  rfl
theorem setl2 (X : World) (m N : Nat) (x0 x1 x2 x3 v u : Value) (hN : N = X.heap.size) (h : v = u) :
    ((X.alloc (.cells #[x0, x1, x2, x3] 24)).drewN m).setCell ⟨N, 2, none⟩ v = (X.alloc (.cells #[x0, x1, u, x3] 24)).drewN m := by
  subst hN; subst h
  show (((X.alloc (.cells #[x0, x1, x2, x3] 24)).setCell ⟨X.heap.size, 2, none⟩ v).drewN m) = _
  rw [World.setCell_alloc_at _ _ _ _ _ rfl]
  rfl
theorem setl3 (X : World) (m N : Nat) (x0 x1 x2 x3 v u : Value) (hN : N = X.heap.size) (h : v = u) :
    ((X.alloc (.cells #[x0, x1, x2, x3] 24)).drewN m).setCell ⟨N, 3, none⟩ v = (X.alloc (.cells #[x0, x1, x2, u] 24)).drewN m := by
  subst hN; subst h
  show (((X.alloc (.cells #[x0, x1, x2, x3] 24)).setCell ⟨X.heap.size, 3, none⟩ v).drewN m) = _
  rw [World.setCell_alloc_at _ _ _ _ _ rfl]
  rfl

set_option maxHeartbeats 4000000 in
theorem radd_raw (a0 a1 a2 a3 b0 b1 b2 b3 n1 n2 n3 n4 : Int) (w : World) (ha : U4 a0 a1 a2 a3) (hb : U4 b0 b1 b2 b3) (h1 : Hid (n1 = a0 + b0)) (h2 : Hid (n2 = a1 + b1 + n1 / 18446744073709551616)) (h3 : Hid (n3 = a2 + b2 + n2 / 18446744073709551616)) (h4 : Hid (n4 = a3 + b3 + n3 / 18446744073709551616)) :
    Calls Tryz.prog 180 #[.agg #[.int .u64 a0, .int .u64 a1, .int .u64 a2, .int .u64 a3], .agg #[.int .u64 b0, .int .u64 b1, .int .u64 b2, .int .u64 b3]] w fun e w' =>
      e = .returned (.tuple #[.agg #[.int .u64 (n1 % 18446744073709551616), .int .u64 (n2 % 18446744073709551616), .int .u64 (n3 % 18446744073709551616), .int .u64 (n4 % 18446744073709551616)], .bool (n4 / 18446744073709551616 == 1)]) ∧ Mo w w' := by
  obtain ⟨⟨p0, q0⟩, ⟨p1, q1⟩, ⟨p2, q2⟩, ⟨p3, q3⟩⟩ := ha
  obtain ⟨⟨r0, s0⟩, ⟨r1, s1⟩, ⟨r2, s2⟩, ⟨r3, s3⟩⟩ := hb
  have j1 : 0 ≤ n1 / 18446744073709551616 := by have := h1.out; omega
  have j1' : n1 / 18446744073709551616 ≤ 1 := by have := h1.out; omega
  have j2 : 0 ≤ n2 / 18446744073709551616 := by have := h2.out; omega
  have j2' : n2 / 18446744073709551616 ≤ 1 := by have := h2.out; omega
  have j3 : 0 ≤ n3 / 18446744073709551616 := by have := h3.out; omega
  have j3' : n3 / 18446744073709551616 ≤ 1 := by have := h3.out; omega
  go_enter Tryz.func180, Tryz.ntmps180
  go_wp2
  go_loopw [7, 8] (fun c i wr => ∃ m : Nat,
      (i = .int .i64 0 ∧ c = .int .u64 0 ∧ wr = ((((w.alloc (.cells #[.int .u64 a0, .int .u64 a1, .int .u64 a2, .int .u64 a3] 24)).alloc (.cells #[.int .u64 b0, .int .u64 b1, .int .u64 b2, .int .u64 b3] 24)).alloc (.cells #[.int .u64 0, .int .u64 0, .int .u64 0, .int .u64 0] 24)).alloc (.cells #[.int .u64 0, .int .u64 0, .int .u64 0, .int .u64 0] 24)).drewN m) ∨
      (i = .int .i64 1 ∧ c = .int .u64 (n1 / 18446744073709551616) ∧ wr = ((((w.alloc (.cells #[.int .u64 a0, .int .u64 a1, .int .u64 a2, .int .u64 a3] 24)).alloc (.cells #[.int .u64 b0, .int .u64 b1, .int .u64 b2, .int .u64 b3] 24)).alloc (.cells #[.int .u64 0, .int .u64 0, .int .u64 0, .int .u64 0] 24)).alloc (.cells #[.int .u64 (n1 % 18446744073709551616), .int .u64 0, .int .u64 0, .int .u64 0] 24)).drewN m) ∨
      (i = .int .i64 2 ∧ c = .int .u64 (n2 / 18446744073709551616) ∧ wr = ((((w.alloc (.cells #[.int .u64 a0, .int .u64 a1, .int .u64 a2, .int .u64 a3] 24)).alloc (.cells #[.int .u64 b0, .int .u64 b1, .int .u64 b2, .int .u64 b3] 24)).alloc (.cells #[.int .u64 0, .int .u64 0, .int .u64 0, .int .u64 0] 24)).alloc (.cells #[.int .u64 (n1 % 18446744073709551616), .int .u64 (n2 % 18446744073709551616), .int .u64 0, .int .u64 0] 24)).drewN m) ∨
      (i = .int .i64 3 ∧ c = .int .u64 (n3 / 18446744073709551616) ∧ wr = ((((w.alloc (.cells #[.int .u64 a0, .int .u64 a1, .int .u64 a2, .int .u64 a3] 24)).alloc (.cells #[.int .u64 b0, .int .u64 b1, .int .u64 b2, .int .u64 b3] 24)).alloc (.cells #[.int .u64 0, .int .u64 0, .int .u64 0, .int .u64 0] 24)).alloc (.cells #[.int .u64 (n1 % 18446744073709551616), .int .u64 (n2 % 18446744073709551616), .int .u64 (n3 % 18446744073709551616), .int .u64 0] 24)).drewN m) ∨
      (i = .int .i64 4 ∧ c = .int .u64 (n4 / 18446744073709551616) ∧ wr = ((((w.alloc (.cells #[.int .u64 a0, .int .u64 a1, .int .u64 a2, .int .u64 a3] 24)).alloc (.cells #[.int .u64 b0, .int .u64 b1, .int .u64 b2, .int .u64 b3] 24)).alloc (.cells #[.int .u64 0, .int .u64 0, .int .u64 0, .int .u64 0] 24)).alloc (.cells #[.int .u64 (n1 % 18446744073709551616), .int .u64 (n2 % 18446744073709551616), .int .u64 (n3 % 18446744073709551616), .int .u64 (n4 % 18446744073709551616)] 24)).drewN m)) (fun _ i _ => 4 - (intOf i).toNat)
  case atStart => exact ⟨0, Or.inl ⟨rfl, rfl, rfl⟩⟩
  case round =>
    obtain ⟨m, ⟨rfl, rfl, rfl⟩ | ⟨rfl, rfl, rfl⟩ | ⟨rfl, rfl, rfl⟩ | ⟨rfl, rfl, rfl⟩ | ⟨rfl, rfl, rfl⟩⟩ := hrel
    · go_wp2
      go_quiet (fail)
      go_wp2
      all_goals
        go_roundw
        case rel =>
          have hn := h1.out
          simp only [IntKind.wrap_u64] at *
          refine ⟨m + nq, Or.inr (Or.inl ⟨by trivial, vint (by omega), ?_⟩)⟩
          exact setl0 _ _ _ _ _ _ _ _ _ (by simp) (vint (by omega))
        case measure => simp [intOf]
    · go_wp2
      go_quiet (fail)
      go_wp2
      all_goals
        go_roundw
        case rel =>
          have hn := h2.out
          simp only [IntKind.wrap_u64] at *
          refine ⟨m + nq, Or.inr (Or.inr (Or.inl ⟨by trivial, vint (by omega), ?_⟩))⟩
          exact setl1 _ _ _ _ _ _ _ _ _ (by simp) (vint (by omega))
        case measure => simp [intOf]
    · go_wp2
      go_quiet (fail)
      go_wp2
      all_goals
        go_roundw
        case rel =>
          have hn := h3.out
          simp only [IntKind.wrap_u64] at *
          refine ⟨m + nq, Or.inr (Or.inr (Or.inr (Or.inl ⟨by trivial, vint (by omega), ?_⟩)))⟩
          exact setl2 _ _ _ _ _ _ _ _ _ (by simp) (vint (by omega))
        case measure => simp [intOf]
    · go_wp2
      go_quiet (fail)
      go_wp2
      all_goals
        go_roundw
        case rel =>
          have hn := h4.out
          simp only [IntKind.wrap_u64] at *
          refine ⟨m + nq, Or.inr (Or.inr (Or.inr (Or.inr ⟨by trivial, vint (by omega), ?_⟩)))⟩
          exact setl3 _ _ _ _ _ _ _ _ _ (by simp) (vint (by omega))
        case measure => simp [intOf]
    · go_wp2
      refine bodyPost_ret (by simp [results, Tryz.results180, go_sem]; rfl) rfl ?_
      refine ⟨rfl, ?_⟩
      repeat (first | exact Mo.refl _ | with_reducible apply Mo.drew | with_reducible apply Mo.drewN | with_reducible apply Mo.alloc | with_reducible refine Mo.setCell ?_ (by simp <;> omega) _ | with_reducible refine Mo.trans ?_ (by assumption))

theorem ov_eq {a b c d e f g h : Int} (h1 : U4 a b c d) (h2 : U4 e f g h) : ((vl a b c d + vl e f g h) / MM == 1) = ov (vl a b c d + vl e f g h) := by
  obtain ⟨p, q⟩ := vl_bd h1; obtain ⟨r, s⟩ := vl_bd h2
  unfold ov; unfold MM at *
  rw [Bool.eq_iff_iff]; simp; omega

theorem radd_any (a0 a1 a2 a3 b0 b1 b2 b3 : Int) (w : World) (ha : U4 a0 a1 a2 a3) (hb : U4 b0 b1 b2 b3) :
    Calls Tryz.prog 180 #[.agg #[.int .u64 a0, .int .u64 a1, .int .u64 a2, .int .u64 a3], .agg #[.int .u64 b0, .int .u64 b1, .int .u64 b2, .int .u64 b3]] w fun e w' =>
      e = .returned (.tuple #[nv (vl a0 a1 a2 a3 + vl b0 b1 b2 b3), .bool (ov (vl a0 a1 a2 a3 + vl b0 b1 b2 b3))]) ∧ Mo w w' := by
  refine (radd_raw a0 a1 a2 a3 b0 b1 b2 b3 _ _ _ _ w ha hb rfl rfl rfl rfl).mono ?_
  rintro e w' ⟨rfl, hm⟩
  obtain ⟨e0, e1, e2, e3, e4⟩ := addc_eq ha hb rfl
  refine ⟨?_, hm⟩
  rw [nv_of e0 e1 e2 e3, e4, ov_eq ha hb]
/-- The world between two rows: what lies in the blocks of the call. -/
def MW (w wr : World) (a0 a1 a2 a3 x0 x1 x2 x3 x4 x5 x6 x7 : Int) : Prop := Mo w wr ∧ w.heap.size + 1 + 1 + 1 + 1 < wr.heap.size ∧ At4 wr w.heap.size a0 a1 a2 a3 ∧ At4 wr (w.heap.size + 1 + 1) 0 0 0 0 ∧ At4 wr (w.heap.size + 1 + 1 + 1) 0 0 0 0 ∧ At8 wr (w.heap.size + 1 + 1 + 1 + 1) x0 x1 x2 x3 x4 x5 x6 x7 ∧ Fz wr (w.heap.size + 1 + 1) ∧ Fz wr (w.heap.size + 1 + 1 + 1) ∧ Fz wr (w.heap.size + 1 + 1 + 1 + 1)
theorem MW.mo {w wr w1 : World} {a0 a1 a2 a3 x0 x1 x2 x3 x4 x5 x6 x7 : Int} (h : MW w wr a0 a1 a2 a3 x0 x1 x2 x3 x4 x5 x6 x7) (m : Mo wr w1) : MW w w1 a0 a1 a2 a3 x0 x1 x2 x3 x4 x5 x6 x7 := by
  obtain ⟨h1, h2, h3, h4, h5, h6, h7, h8, h9⟩ := h
  have := m.size
  exact ⟨h1.trans m, by omega, h3.mo m (by omega), h4.mo m (by omega), h5.mo m (by omega), h6.mo m (by omega), h7.mo m, h8.mo m, h9.mo m⟩

theorem At4.set {w : World} {k k' : Nat} {a b c d : Int} (h : At4 w k a b c d) (hk : k ≠ k') (o : Nat) (v : Value) : At4 (w.setCell ⟨k', o, none⟩ v) k a b c d := by
  obtain ⟨h0, h1, h2, h3⟩ := h
  have e : ∀ j, (w.setCell ⟨k', o, none⟩ v).cell? ⟨k, j, none⟩ = w.cell? ⟨k, j, none⟩ := fun j => World.cell?_of_block (Below.heap_setCell _ _ _ _ hk)
  exact ⟨(e 0).trans h0, (e 1).trans h1, (e 2).trans h2, (e 3).trans h3⟩
theorem Fz.set {w : World} {k : Nat} (h : Fz w k) (a : Addr) (v : Value) : Fz (w.setCell a v) k := fun o => (World.frozen?_setCell _ _ _ _).trans (h o)
theorem MW.put0 {w w1 : World} {a0 a1 a2 a3 x0 x1 x2 x3 x4 x5 x6 x7 : Int} (h : MW w w1 a0 a1 a2 a3 x0 x1 x2 x3 x4 x5 x6 x7) (y : Int) : MW w (w1.setCell ⟨w.heap.size + 1 + 1 + 1 + 1, 0, none⟩ (.int .u64 y)) a0 a1 a2 a3 y x1 x2 x3 x4 x5 x6 x7 := by
  obtain ⟨h1, h2, h3, h4, h5, h6, h7, h8, h9⟩ := h
  refine ⟨h1.setCell (by show w.heap.size ≤ w.heap.size + 1 + 1 + 1 + 1; omega) _, by simpa [World.setCell] using h2, h3.set (by omega) _ _, h4.set (by omega) _ _, h5.set (by omega) _ _, ?_, h7.set _ _, h8.set _ _, h9.set _ _⟩
  obtain ⟨d0, d1, d2, d3, d4, d5, d6, d7⟩ := h6
  simp [At8, go_sem, *]
theorem MW.put1 {w w1 : World} {a0 a1 a2 a3 x0 x1 x2 x3 x4 x5 x6 x7 : Int} (h : MW w w1 a0 a1 a2 a3 x0 x1 x2 x3 x4 x5 x6 x7) (y : Int) : MW w (w1.setCell ⟨w.heap.size + 1 + 1 + 1 + 1, 1, none⟩ (.int .u64 y)) a0 a1 a2 a3 x0 y x2 x3 x4 x5 x6 x7 := by
  obtain ⟨h1, h2, h3, h4, h5, h6, h7, h8, h9⟩ := h
  refine ⟨h1.setCell (by show w.heap.size ≤ w.heap.size + 1 + 1 + 1 + 1; omega) _, by simpa [World.setCell] using h2, h3.set (by omega) _ _, h4.set (by omega) _ _, h5.set (by omega) _ _, ?_, h7.set _ _, h8.set _ _, h9.set _ _⟩
  obtain ⟨d0, d1, d2, d3, d4, d5, d6, d7⟩ := h6
  simp [At8, go_sem, *]
theorem MW.put2 {w w1 : World} {a0 a1 a2 a3 x0 x1 x2 x3 x4 x5 x6 x7 : Int} (h : MW w w1 a0 a1 a2 a3 x0 x1 x2 x3 x4 x5 x6 x7) (y : Int) : MW w (w1.setCell ⟨w.heap.size + 1 + 1 + 1 + 1, 2, none⟩ (.int .u64 y)) a0 a1 a2 a3 x0 x1 y x3 x4 x5 x6 x7 := by
  obtain ⟨h1, h2, h3, h4, h5, h6, h7, h8, h9⟩ := h
  refine ⟨h1.setCell (by show w.heap.size ≤ w.heap.size + 1 + 1 + 1 + 1; omega) _, by simpa [World.setCell] using h2, h3.set (by omega) _ _, h4.set (by omega) _ _, h5.set (by omega) _ _, ?_, h7.set _ _, h8.set _ _, h9.set _ _⟩
  obtain ⟨d0, d1, d2, d3, d4, d5, d6, d7⟩ := h6
  simp [At8, go_sem, *]
theorem MW.put3 {w w1 : World} {a0 a1 a2 a3 x0 x1 x2 x3 x4 x5 x6 x7 : Int} (h : MW w w1 a0 a1 a2 a3 x0 x1 x2 x3 x4 x5 x6 x7) (y : Int) : MW w (w1.setCell ⟨w.heap.size + 1 + 1 + 1 + 1, 3, none⟩ (.int .u64 y)) a0 a1 a2 a3 x0 x1 x2 y x4 x5 x6 x7 := by
  obtain ⟨h1, h2, h3, h4, h5, h6, h7, h8, h9⟩ := h
  refine ⟨h1.setCell (by show w.heap.size ≤ w.heap.size + 1 + 1 + 1 + 1; omega) _, by simpa [World.setCell] using h2, h3.set (by omega) _ _, h4.set (by omega) _ _, h5.set (by omega) _ _, ?_, h7.set _ _, h8.set _ _, h9.set _ _⟩
  obtain ⟨d0, d1, d2, d3, d4, d5, d6, d7⟩ := h6
  simp [At8, go_sem, *]
theorem MW.put4 {w w1 : World} {a0 a1 a2 a3 x0 x1 x2 x3 x4 x5 x6 x7 : Int} (h : MW w w1 a0 a1 a2 a3 x0 x1 x2 x3 x4 x5 x6 x7) (y : Int) : MW w (w1.setCell ⟨w.heap.size + 1 + 1 + 1 + 1, 4, none⟩ (.int .u64 y)) a0 a1 a2 a3 x0 x1 x2 x3 y x5 x6 x7 := by
  obtain ⟨h1, h2, h3, h4, h5, h6, h7, h8, h9⟩ := h
  refine ⟨h1.setCell (by show w.heap.size ≤ w.heap.size + 1 + 1 + 1 + 1; omega) _, by simpa [World.setCell] using h2, h3.set (by omega) _ _, h4.set (by omega) _ _, h5.set (by omega) _ _, ?_, h7.set _ _, h8.set _ _, h9.set _ _⟩
  obtain ⟨d0, d1, d2, d3, d4, d5, d6, d7⟩ := h6
  simp [At8, go_sem, *]
theorem MW.put5 {w w1 : World} {a0 a1 a2 a3 x0 x1 x2 x3 x4 x5 x6 x7 : Int} (h : MW w w1 a0 a1 a2 a3 x0 x1 x2 x3 x4 x5 x6 x7) (y : Int) : MW w (w1.setCell ⟨w.heap.size + 1 + 1 + 1 + 1, 5, none⟩ (.int .u64 y)) a0 a1 a2 a3 x0 x1 x2 x3 x4 y x6 x7 := by
  obtain ⟨h1, h2, h3, h4, h5, h6, h7, h8, h9⟩ := h
  refine ⟨h1.setCell (by show w.heap.size ≤ w.heap.size + 1 + 1 + 1 + 1; omega) _, by simpa [World.setCell] using h2, h3.set (by omega) _ _, h4.set (by omega) _ _, h5.set (by omega) _ _, ?_, h7.set _ _, h8.set _ _, h9.set _ _⟩
  obtain ⟨d0, d1, d2, d3, d4, d5, d6, d7⟩ := h6
  simp [At8, go_sem, *]
theorem MW.put6 {w w1 : World} {a0 a1 a2 a3 x0 x1 x2 x3 x4 x5 x6 x7 : Int} (h : MW w w1 a0 a1 a2 a3 x0 x1 x2 x3 x4 x5 x6 x7) (y : Int) : MW w (w1.setCell ⟨w.heap.size + 1 + 1 + 1 + 1, 6, none⟩ (.int .u64 y)) a0 a1 a2 a3 x0 x1 x2 x3 x4 x5 y x7 := by
  obtain ⟨h1, h2, h3, h4, h5, h6, h7, h8, h9⟩ := h
  refine ⟨h1.setCell (by show w.heap.size ≤ w.heap.size + 1 + 1 + 1 + 1; omega) _, by simpa [World.setCell] using h2, h3.set (by omega) _ _, h4.set (by omega) _ _, h5.set (by omega) _ _, ?_, h7.set _ _, h8.set _ _, h9.set _ _⟩
  obtain ⟨d0, d1, d2, d3, d4, d5, d6, d7⟩ := h6
  simp [At8, go_sem, *]
theorem MW.put7 {w w1 : World} {a0 a1 a2 a3 x0 x1 x2 x3 x4 x5 x6 x7 : Int} (h : MW w w1 a0 a1 a2 a3 x0 x1 x2 x3 x4 x5 x6 x7) (y : Int) : MW w (w1.setCell ⟨w.heap.size + 1 + 1 + 1 + 1, 7, none⟩ (.int .u64 y)) a0 a1 a2 a3 x0 x1 x2 x3 x4 x5 x6 y := by
  obtain ⟨h1, h2, h3, h4, h5, h6, h7, h8, h9⟩ := h
  refine ⟨h1.setCell (by show w.heap.size ≤ w.heap.size + 1 + 1 + 1 + 1; omega) _, by simpa [World.setCell] using h2, h3.set (by omega) _ _, h4.set (by omega) _ _, h5.set (by omega) _ _, ?_, h7.set _ _, h8.set _ _, h9.set _ _⟩
  obtain ⟨d0, d1, d2, d3, d4, d5, d6, d7⟩ := h6
  simp [At8, go_sem, *]

set_option maxHeartbeats 4000000 in
theorem mul_raw (a0 a1 a2 a3 b0 b1 b2 b3 Y0 Y1 Y2 Y3 : Int) (w : World) (ha : U4 a0 a1 a2 a3) (hb : U4 b0 b1 b2 b3) (hY0 : Hid (Y0 = vl a0 a1 a2 a3 * b0)) (hY1 : Hid (Y1 = Y0 / 18446744073709551616 + vl a0 a1 a2 a3 * b1)) (hY2 : Hid (Y2 = Y1 / 18446744073709551616 + vl a0 a1 a2 a3 * b2)) (hY3 : Hid (Y3 = Y2 / 18446744073709551616 + vl a0 a1 a2 a3 * b3)) :
    Calls Tryz.prog 204 #[.agg #[.int .u64 a0, .int .u64 a1, .int .u64 a2, .int .u64 a3], .agg #[.int .u64 b0, .int .u64 b1, .int .u64 b2, .int .u64 b3]] w fun e w' =>
      e = .returned (.tuple #[.agg #[.int .u64 (l1 Y3), .int .u64 (l2 Y3), .int .u64 (l3 Y3), .int .u64 (l0 (Y3 / MM))], .agg #[.int .u64 (l0 Y0), .int .u64 (l0 Y1), .int .u64 (l0 Y2), .int .u64 (l0 Y3)]]) ∧ Mo w w' := by
  have hv := vl_bd ha
  have hb' := hb
  obtain ⟨g0, g1, g2, g3⟩ := hb'
  have pb0 := pbd hv.1 hv.2 g0
  have pb1 := pbd hv.1 hv.2 g1
  have pb2 := pbd hv.1 hv.2 g2
  have pb3 := pbd hv.1 hv.2 g3
  have yb0 : 0 ≤ Y0 ∧ Y0 < 2135987035920910082395021706169552114602704522356652769947041607822219725780640550022962086936576 := by have := hY0.out; omega
  have yb1 := ybd yb0.1 yb0.2 pb1.1 pb1.2 hY1.out
  have yb2 := ybd yb1.1 yb1.2 pb2.1 pb2.2 hY2.out
  have HB : Hid ((0 ≤ Y0 ∧ Y0 < 2135987035920910082395021706169552114602704522356652769947041607822219725780640550022962086936576) ∧ (0 ≤ Y1 ∧ Y1 < 2135987035920910082395021706169552114602704522356652769947041607822219725780640550022962086936576) ∧ (0 ≤ Y2 ∧ Y2 < 2135987035920910082395021706169552114602704522356652769947041607822219725780640550022962086936576)) := ⟨yb0, yb1, yb2⟩
  have HP : Hid (vl a0 a1 a2 a3 * b0 ≤ 2135987035920910082395021706169552114602704522356652769947041607822219725780640550022962086936576 - 115792089237316195423570985008687907853269984665640564039457584007913129639936 ∧ vl a0 a1 a2 a3 * b1 ≤ 2135987035920910082395021706169552114602704522356652769947041607822219725780640550022962086936576 - 115792089237316195423570985008687907853269984665640564039457584007913129639936 ∧ vl a0 a1 a2 a3 * b2 ≤ 2135987035920910082395021706169552114602704522356652769947041607822219725780640550022962086936576 - 115792089237316195423570985008687907853269984665640564039457584007913129639936 ∧ vl a0 a1 a2 a3 * b3 ≤ 2135987035920910082395021706169552114602704522356652769947041607822219725780640550022962086936576 - 115792089237316195423570985008687907853269984665640564039457584007913129639936) := ⟨by omega, by omega, by omega, by omega⟩
  have HQ : Hid (0 ≤ vl a0 a1 a2 a3 * b0 ∧ 0 ≤ vl a0 a1 a2 a3 * b1 ∧ 0 ≤ vl a0 a1 a2 a3 * b2 ∧ 0 ≤ vl a0 a1 a2 a3 * b3) := ⟨pb0.1, pb1.1, pb2.1, pb3.1⟩
  clear pb0 pb1 pb2 pb3 yb0 yb1 yb2 hv
  have ix0 := idx0
  have ix1 := idx1
  have ix2 := idx2
  have ix3 := idx3
  go_enter Tryz.func204, Tryz.ntmps204
  go_wp2
  go_loopw [17] (fun i wr => (i = .int .i64 0 ∧ MW w wr a0 a1 a2 a3 0 0 0 0 0 0 0 0) ∨ (i = .int .i64 1 ∧ MW w wr a0 a1 a2 a3 (l0 Y0) (l1 Y0) (l2 Y0) (l3 Y0) (l0 (Y0 / MM)) 0 0 0) ∨ (i = .int .i64 2 ∧ MW w wr a0 a1 a2 a3 (l0 Y0) (l0 Y1) (l1 Y1) (l2 Y1) (l3 Y1) (l0 (Y1 / MM)) 0 0) ∨ (i = .int .i64 3 ∧ MW w wr a0 a1 a2 a3 (l0 Y0) (l0 Y1) (l0 Y2) (l1 Y2) (l2 Y2) (l3 Y2) (l0 (Y2 / MM)) 0) ∨ (i = .int .i64 4 ∧ MW w wr a0 a1 a2 a3 (l0 Y0) (l0 Y1) (l0 Y2) (l0 Y3) (l1 Y3) (l2 Y3) (l3 Y3) (l0 (Y3 / MM)))) (fun i _ => 4 - (intOf i).toNat)
  case atStart =>
    refine Or.inl ⟨rfl, ?_⟩
    refine ⟨by repeat (first | with_reducible exact Mo.refl _ | with_reducible apply Mo.drew | with_reducible apply Mo.drewN | with_reducible apply Mo.alloc | with_reducible refine Mo.setCell ?_ (by simp <;> omega) _ | with_reducible refine Mo.trans ?_ (by with_reducible assumption)), by simp, ?_, ?_, ?_, ?_, ?_, ?_, ?_⟩
    · simp [At4, go_sem]
    · simp [At4, go_sem]
    · simp [At4, go_sem]
    · simp [At8, go_sem]
    · intro o; simp [go_sem]
    · intro o; simp [go_sem]
    · intro o; simp [go_sem]
  case round =>
    obtain ⟨rfl, hw⟩ | ⟨rfl, hw⟩ | ⟨rfl, hw⟩ | ⟨rfl, hw⟩ | ⟨rfl, hw⟩ := hrel
    · have hw0 := hw
      obtain ⟨k0, k1, ⟨A0, A1, A2, A3⟩, _⟩ := hw
      go_wp2_with fail
      refine (mulLimb_any a0 a1 a2 a3 b0 _ ha g0).mono ?_
      rintro e w1 ⟨rfl, hm⟩
      have hw1 := hw0.mo hm
      have hw2 := hw1
      clear A0 A1 A2 A3 k0 k1
      obtain ⟨k0, k1, ⟨A0, A1, A2, A3⟩, ⟨B0, B1, B2, B3⟩, ⟨C0, C1, C2, C3⟩, ⟨D0, D1, D2, D3, D4, D5, D6, D7⟩, F1, F2, F3⟩ := hw1
      have F1 := fun o => F1 o
      have F2 := fun o => F2 o
      have F3 := fun o => F3 o
      obtain ⟨E0, E1, E2, E3, E4, E5, E6, E7, E8x⟩ := rnd0 (p := (vl a0 a1 a2 a3 * b0)) HQ.out.1 HP.out.1
      have E8 : Hid _ := E8x
      clear E8x
      obtain ⟨m4, n4⟩ := rnd0b (p := (vl a0 a1 a2 a3 * b0)) HQ.out.1 HP.out.1
      go_wp2_with fail
      refine wp_loop_rounds 5 ?_
      rw [rounds_succ]
      go_wp2_with (simp only [add64_0 0 (l0 (vl a0 a1 a2 a3 * b0)) (Int.le_refl 0) (u_l0 _).1])
      rw [rounds_succ]
      go_wp2_with (simp only [add64_0 0 (l1 (vl a0 a1 a2 a3 * b0)) (Int.le_refl 0) (u_l1 _).1])
      rw [rounds_succ]
      go_wp2_with (simp only [add64_0 0 (l2 (vl a0 a1 a2 a3 * b0)) (Int.le_refl 0) (u_l2 _).1])
      rw [rounds_succ]
      go_wp2_with (simp only [add64_0 0 (l3 (vl a0 a1 a2 a3 * b0)) (Int.le_refl 0) (u_l3 _).1])
      rw [rounds_succ]
      go_wp2
      go_roundw
      case rel =>
        refine Or.inr (Or.inl ⟨rfl, ?_⟩)
        rw [hY0.out, ← E8.out]
        exact (((((hw2.put0 _).put1 _).put2 _).put3 _).put4 _).mo ((Mo.refl _).alloc _ _)
      case measure => simp [intOf]
    · have hw0 := hw
      obtain ⟨k0, k1, ⟨A0, A1, A2, A3⟩, _⟩ := hw
      go_wp2_with fail
      refine (mulLimb_any a0 a1 a2 a3 b1 _ ha g1).mono ?_
      rintro e w1 ⟨rfl, hm⟩
      have hw1 := hw0.mo hm
      have hw2 := hw1
      clear A0 A1 A2 A3 k0 k1
      obtain ⟨k0, k1, ⟨A0, A1, A2, A3⟩, ⟨B0, B1, B2, B3⟩, ⟨C0, C1, C2, C3⟩, ⟨D0, D1, D2, D3, D4, D5, D6, D7⟩, F1, F2, F3⟩ := hw1
      have F1 := fun o => F1 o
      have F2 := fun o => F2 o
      have F3 := fun o => F3 o
      obtain ⟨c1, c2, c3, c4, E0, E1, E2, E3, E4, E5, E6, E7, E8, ⟨m1, n1⟩, ⟨m2, n2⟩, ⟨m3, n3⟩, m4, n4⟩ := rnd (Y := Y1) ⟨u_l1 Y0, u_l2 Y0, u_l3 Y0, u_l0 (Y0 / MM)⟩ (up HB.out.1.1 HB.out.1.2) HQ.out.2.1 HP.out.2.1 hY1.out
      go_wp2_with fail
      refine wp_loop_rounds 5 ?_
      rw [rounds_succ]
      go_wp2_with (simp only [add64_0 (l1 Y0) (l0 (vl a0 a1 a2 a3 * b1)) (u_l1 _).1 (u_l0 _).1])
      rw [rounds_succ]
      go_wp2_with (simp only [add64 (l2 Y0) (l1 (vl a0 a1 a2 a3 * b1)) c1 (u_l2 _).1 (u_l1 _).1 m1 n1])
      rw [rounds_succ]
      go_wp2_with (simp only [add64 (l3 Y0) (l2 (vl a0 a1 a2 a3 * b1)) c2 (u_l3 _).1 (u_l2 _).1 m2 n2])
      rw [rounds_succ]
      go_wp2_with (simp only [add64 (l0 (Y0 / MM)) (l3 (vl a0 a1 a2 a3 * b1)) c3 (u_l0 _).1 (u_l3 _).1 m3 n3])
      rw [rounds_succ]
      go_wp2
      go_roundw
      case rel =>
        refine Or.inr (Or.inr (Or.inl ⟨rfl, ?_⟩))
        exact (((((hw2.put1 _).put2 _).put3 _).put4 _).put5 _).mo ((Mo.refl _).alloc _ _)
      case measure => simp [intOf]
    · have hw0 := hw
      obtain ⟨k0, k1, ⟨A0, A1, A2, A3⟩, _⟩ := hw
      go_wp2_with fail
      refine (mulLimb_any a0 a1 a2 a3 b2 _ ha g2).mono ?_
      rintro e w1 ⟨rfl, hm⟩
      have hw1 := hw0.mo hm
      have hw2 := hw1
      clear A0 A1 A2 A3 k0 k1
      obtain ⟨k0, k1, ⟨A0, A1, A2, A3⟩, ⟨B0, B1, B2, B3⟩, ⟨C0, C1, C2, C3⟩, ⟨D0, D1, D2, D3, D4, D5, D6, D7⟩, F1, F2, F3⟩ := hw1
      have F1 := fun o => F1 o
      have F2 := fun o => F2 o
      have F3 := fun o => F3 o
      obtain ⟨c1, c2, c3, c4, E0, E1, E2, E3, E4, E5, E6, E7, E8, ⟨m1, n1⟩, ⟨m2, n2⟩, ⟨m3, n3⟩, m4, n4⟩ := rnd (Y := Y2) ⟨u_l1 Y1, u_l2 Y1, u_l3 Y1, u_l0 (Y1 / MM)⟩ (up HB.out.2.1.1 HB.out.2.1.2) HQ.out.2.2.1 HP.out.2.2.1 hY2.out
      go_wp2_with fail
      refine wp_loop_rounds 5 ?_
      rw [rounds_succ]
      go_wp2_with (simp only [add64_0 (l1 Y1) (l0 (vl a0 a1 a2 a3 * b2)) (u_l1 _).1 (u_l0 _).1])
      rw [rounds_succ]
      go_wp2_with (simp only [add64 (l2 Y1) (l1 (vl a0 a1 a2 a3 * b2)) c1 (u_l2 _).1 (u_l1 _).1 m1 n1])
      rw [rounds_succ]
      go_wp2_with (simp only [add64 (l3 Y1) (l2 (vl a0 a1 a2 a3 * b2)) c2 (u_l3 _).1 (u_l2 _).1 m2 n2])
      rw [rounds_succ]
      go_wp2_with (simp only [add64 (l0 (Y1 / MM)) (l3 (vl a0 a1 a2 a3 * b2)) c3 (u_l0 _).1 (u_l3 _).1 m3 n3])
      rw [rounds_succ]
      go_wp2
      go_roundw
      case rel =>
        refine Or.inr (Or.inr (Or.inr (Or.inl ⟨rfl, ?_⟩)))
        exact (((((hw2.put2 _).put3 _).put4 _).put5 _).put6 _).mo ((Mo.refl _).alloc _ _)
      case measure => simp [intOf]
    · have hw0 := hw
      obtain ⟨k0, k1, ⟨A0, A1, A2, A3⟩, _⟩ := hw
      go_wp2_with fail
      refine (mulLimb_any a0 a1 a2 a3 b3 _ ha g3).mono ?_
      rintro e w1 ⟨rfl, hm⟩
      have hw1 := hw0.mo hm
      have hw2 := hw1
      clear A0 A1 A2 A3 k0 k1
      obtain ⟨k0, k1, ⟨A0, A1, A2, A3⟩, ⟨B0, B1, B2, B3⟩, ⟨C0, C1, C2, C3⟩, ⟨D0, D1, D2, D3, D4, D5, D6, D7⟩, F1, F2, F3⟩ := hw1
      have F1 := fun o => F1 o
      have F2 := fun o => F2 o
      have F3 := fun o => F3 o
      obtain ⟨c1, c2, c3, c4, E0, E1, E2, E3, E4, E5, E6, E7, E8, ⟨m1, n1⟩, ⟨m2, n2⟩, ⟨m3, n3⟩, m4, n4⟩ := rnd (Y := Y3) ⟨u_l1 Y2, u_l2 Y2, u_l3 Y2, u_l0 (Y2 / MM)⟩ (up HB.out.2.2.1 HB.out.2.2.2) HQ.out.2.2.2 HP.out.2.2.2 hY3.out
      go_wp2_with fail
      refine wp_loop_rounds 5 ?_
      rw [rounds_succ]
      go_wp2_with (simp only [add64_0 (l1 Y2) (l0 (vl a0 a1 a2 a3 * b3)) (u_l1 _).1 (u_l0 _).1])
      rw [rounds_succ]
      go_wp2_with (simp only [add64 (l2 Y2) (l1 (vl a0 a1 a2 a3 * b3)) c1 (u_l2 _).1 (u_l1 _).1 m1 n1])
      rw [rounds_succ]
      go_wp2_with (simp only [add64 (l3 Y2) (l2 (vl a0 a1 a2 a3 * b3)) c2 (u_l3 _).1 (u_l2 _).1 m2 n2])
      rw [rounds_succ]
      go_wp2_with (simp only [add64 (l0 (Y2 / MM)) (l3 (vl a0 a1 a2 a3 * b3)) c3 (u_l0 _).1 (u_l3 _).1 m3 n3])
      rw [rounds_succ]
      go_wp2
      go_roundw
      case rel =>
        refine Or.inr (Or.inr (Or.inr (Or.inr ⟨rfl, ?_⟩)))
        exact (((((hw2.put3 _).put4 _).put5 _).put6 _).put7 _).mo ((Mo.refl _).alloc _ _)
      case measure => simp [intOf]
    · obtain ⟨k0, k1, ⟨A0, A1, A2, A3⟩, ⟨B0, B1, B2, B3⟩, ⟨C0, C1, C2, C3⟩, ⟨D0, D1, D2, D3, D4, D5, D6, D7⟩, F1, F2, F3⟩ := hw
      have F1 := fun o => F1 o
      have F2 := fun o => F2 o
      have F3 := fun o => F3 o
      have z2 : w.heap.size + 1 + 1 < wr.heap.size := by omega
      have z3 : w.heap.size + 1 + 1 + 1 < wr.heap.size := by omega
      have z4 : w.heap.size + 1 + 1 < wr.heap.size + 1 := by omega
      have z5 : w.heap.size + 1 + 1 + 1 < wr.heap.size + 1 := by omega
      go_wp2
      go_cut [] from 73 to 74 (fun wx => At4 wx (w.heap.size + 1 + 1) (l1 Y3) (l2 Y3) (l3 Y3) (l0 (Y3 / MM)) ∧ At4 wx (w.heap.size + 1 + 1 + 1) (l0 Y0) (l0 Y1) (l0 Y2) (l0 Y3) ∧ Mo w wx)
      case first =>
        go_region
        go_wp2
        go_meet
        case rel =>
          refine ⟨?_, ?_, ?_⟩
          · simp [At4, go_sem, B0, B1, B2, B3, z2, z4]
          · simp [At4, go_sem, C0, C1, C2, C3, z3, z5]
          · repeat (first | with_reducible exact Mo.refl _ | with_reducible apply Mo.drew | with_reducible apply Mo.drewN | with_reducible apply Mo.alloc | with_reducible refine Mo.setCell ?_ (by simp <;> omega) _ | with_reducible refine Mo.trans ?_ (by with_reducible assumption))
      case rest =>
        obtain ⟨⟨P0, P1, P2, P3⟩, ⟨R0, R1, R2, R3⟩, hmo⟩ := hcut
        go_wp2
        refine bodyPost_ret (v := .tuple #[.agg #[.int .u64 (l1 Y3), .int .u64 (l2 Y3), .int .u64 (l3 Y3), .int .u64 (l0 (Y3 / MM))], .agg #[.int .u64 (l0 Y0), .int .u64 (l0 Y1), .int .u64 (l0 Y2), .int .u64 (l0 Y3)]]) (by simp [results, Tryz.results204, go_sem, P0, P1, P2, P3, R0, R1, R2, R3]) rfl ?_
        exact ⟨rfl, hmo⟩

theorem mul_any (a0 a1 a2 a3 b0 b1 b2 b3 : Int) (w : World) (ha : U4 a0 a1 a2 a3) (hb : U4 b0 b1 b2 b3) :
    Calls Tryz.prog 204 #[.agg #[.int .u64 a0, .int .u64 a1, .int .u64 a2, .int .u64 a3], .agg #[.int .u64 b0, .int .u64 b1, .int .u64 b2, .int .u64 b3]] w fun e w' =>
      e = .returned (.tuple #[nv (vl a0 a1 a2 a3 * vl b0 b1 b2 b3 / MM), nv (vl a0 a1 a2 a3 * vl b0 b1 b2 b3)]) ∧ Mo w w' := by
  refine (mul_raw a0 a1 a2 a3 b0 b1 b2 b3 _ _ _ _ w ha hb rfl rfl rfl rfl).mono ?_
  rintro e w' ⟨rfl, hm⟩
  have hP : vl a0 a1 a2 a3 * vl b0 b1 b2 b3 = vl a0 a1 a2 a3 * b0 + 18446744073709551616 * (vl a0 a1 a2 a3 * b1 + 18446744073709551616 * (vl a0 a1 a2 a3 * b2 + 18446744073709551616 * (vl a0 a1 a2 a3 * b3))) := by
    rw [show vl b0 b1 b2 b3 = b0 + 18446744073709551616 * (b1 + 18446744073709551616 * (b2 + 18446744073709551616 * b3)) from by unfold vl; omega]
    generalize vl a0 a1 a2 a3 = v
    have q : ∀ x y : Int, v * (x + 18446744073709551616 * y) = v * x + 18446744073709551616 * (v * y) := fun x y => by rw [Int.mul_add, Int.mul_left_comm]
    rw [q, q, q]
  obtain ⟨e0, e1, e2, e3, e4, e5, e6, e7⟩ := prod_eq rfl rfl rfl rfl hP
  refine ⟨?_, hm⟩
  rw [nv_of e0 e1 e2 e3, nv_of e4 e5 e6 e7]
theorem nv_add_mod (n m : Int) : nv (n % MM + m % MM) = nv (n + m) := by
  rw [← nv_mod (n % MM + m % MM), ← nv_mod (n + m), ← Int.add_emod]

/-- The blocks of the call: the two numbers and the result. -/
def SW (w wx : World) (a b : Int) : Prop := Mo w wx ∧ AtN wx w.heap.size a ∧ AtN wx (w.heap.size + 1) b ∧ AtN wx (w.heap.size + 1 + 1) 0
theorem SW.mo {w wx w1 : World} {a b : Int} (v : SW w wx a b) (m : Mo wx w1) : SW w w1 a b := by
  obtain ⟨v1, v2, v3, v4⟩ := v
  exact ⟨v1.trans m, v2.mo m, v3.mo m, v4.mo m⟩
theorem SW.setk {w wx : World} {a b : Int} (v : SW w wx a b) {k : Nat} (hk : w.heap.size + 1 + 1 < k) (z : Int) : SW w (st4 wx k z) a b := by
  obtain ⟨v1, v2, v3, v4⟩ := v
  exact ⟨v1.st4 (by omega) z, v2.other (by omega) z, v3.other (by omega) z, v4.other (by omega) z⟩
theorem SW.start (w : World) (a b : Int) : SW w (((w.alloc (.cells #[.int .u64 (l0 a), .int .u64 (l1 a), .int .u64 (l2 a), .int .u64 (l3 a)] 24)).alloc (.cells #[.int .u64 (l0 b), .int .u64 (l1 b), .int .u64 (l2 b), .int .u64 (l3 b)] 24)).alloc (.cells #[.int .u64 0, .int .u64 0, .int .u64 0, .int .u64 0] 24)) a b := by
  have z0 : l0 0 = 0 := by decide
  have z1 : l1 0 = 0 := by decide
  have z2 : l2 0 = 0 := by decide
  have z3 : l3 0 = 0 := by decide
  refine ⟨(((Mo.refl _).alloc _ _).alloc _ _).alloc _ _, ⟨by simp [At4, go_sem], fun o => by simp [go_sem], by simp <;> omega⟩, ⟨by simp [At4, go_sem], fun o => by simp [go_sem], by simp <;> omega⟩, ⟨by simp [At4, go_sem, z0, z1, z2, z3], fun o => by simp [go_sem], by simp <;> omega⟩⟩

set_option maxHeartbeats 4000000 in
theorem rsub_n (A B : Int) (w : World) (hA0 : 0 ≤ A) (hAM : A < MM) (hB0 : 0 ≤ B) (hBM : B < MM) :
    Calls Tryz.prog 182 #[nv A, nv B] w fun e w' =>
      e = .returned (.tuple #[nv (A - B), .bool (un (A - B))]) ∧ Mo w w' := by
  have hcm : decide (cm A B < 0) = un (A - B) := by
    unfold cm un
    by_cases h : A < B
    · rw [if_pos h, decide_eq_true (by decide), decide_eq_true (by omega)]
    · rw [if_neg h, decide_eq_false (p := A - B < 0) (by omega)]
      split <;> decide
  have Hcm : Hid _ := hcm
  clear hcm
  have v0 := SW.start w A B
  have H1 : Hid (nv (A + (MM - 1 - B) % MM) = nv (A + (MM - 1 - B))) := by
    show _ = _
    rw [← nv_mod (A + (MM - 1 - B) % MM), Int.add_emod_emod, nv_mod]
  have H2 : Hid (nv ((A + (MM - 1 - B)) % MM + 1 % MM) = nv (A - B)) := by
    show _ = _
    rw [nv_add_mod, show A + (MM - 1 - B) + 1 = A - B + MM * 1 from by omega, nv_top]
  go_enter Tryz.func182, Tryz.ntmps182
  go_upto_region 1 with fail
  revert v0
  generalize ((w.alloc (.cells #[.int .u64 (l0 A), .int .u64 (l1 A), .int .u64 (l2 A), .int .u64 (l3 A)] 24)).alloc (.cells #[.int .u64 (l0 B), .int .u64 (l1 B), .int .u64 (l2 B), .int .u64 (l3 B)] 24)).alloc (.cells #[.int .u64 0, .int .u64 0, .int .u64 0, .int .u64 0] 24) = W0
  intro v0
  go_cut [6, 7] from 8 to 14 (fun s6 _ wx => ∃ k, s6 = .pointer (some ⟨k, 0, none⟩) ∧ w.heap.size + 1 + 1 < k ∧ SW w wx A B ∧ AtN wx k (A + (MM - 1 - B)))
  case first =>
    have v0z := v0
    obtain ⟨_, ⟨⟨c0, c1, c2, c3⟩, _, x1⟩, ⟨⟨d0, d1, d2, d3⟩, _, x2⟩, _, _, x3⟩ := v0z
    go_region_held3 (fun w' => w'.cell? ⟨w.heap.size, 0, none⟩ = some (.int .u64 (l0 A)) ∧ w'.cell? ⟨w.heap.size, 1, none⟩ = some (.int .u64 (l1 A)) ∧ w'.cell? ⟨w.heap.size, 2, none⟩ = some (.int .u64 (l2 A)) ∧ w'.cell? ⟨w.heap.size, 3, none⟩ = some (.int .u64 (l3 A)) ∧ w'.cell? ⟨w.heap.size + 1, 0, none⟩ = some (.int .u64 (l0 B)) ∧ w'.cell? ⟨w.heap.size + 1, 1, none⟩ = some (.int .u64 (l1 B)) ∧ w'.cell? ⟨w.heap.size + 1, 2, none⟩ = some (.int .u64 (l2 B)) ∧ w'.cell? ⟨w.heap.size + 1, 3, none⟩ = some (.int .u64 (l3 B))) (simp [go_sem, World.cell?_alloc_past, *])
      (first | (go_at_call 203; refine (not_any (l0 B) (l1 B) (l2 B) (l3 B) _ (u4_lb B)).mono ?_; rintro e w1 ⟨rfl, hm1⟩; rw [vl_lb B hB0 hBM]; have v1 := v0.mo (Mo.trans (by repeat (first | with_reducible exact Mo.refl _ | with_reducible apply Mo.drew | with_reducible apply Mo.alloc)) hm1); (try (with_reducible have k1 := At0.mk1 hm1)); have v1z := v1; obtain ⟨_, ⟨⟨e0, e1, e2, e3⟩, _, y1⟩, ⟨⟨f0, f1, f2, f3⟩, _, y2⟩, _, _, y3⟩ := v1z) | (go_at_call 180; refine (radd_any (l0 A) (l1 A) (l2 A) (l3 A) _ _ _ _ _ (u4_lb A) (u4_lb _)).mono ?_; rintro e w2 ⟨rfl, hm2⟩; rw [vl_lb A hA0 hAM, vl_nv, H1.out]; have m2 : Mo w1 w2 := Mo.trans (by repeat (first | with_reducible exact Mo.refl _ | with_reducible apply Mo.drew | with_reducible apply Mo.alloc)) hm2; (try (with_reducible have k2 := At0.mk2 hm2)); (try (with_reducible have k2 := k1.mo m2)); (try have k3 := k2); (try obtain ⟨⟨i0, i1, i2, i3⟩, ff, y9⟩ := k2); (try have ff := fun o => ff o); have v2 := v1.mo m2; have v2z := v2; obtain ⟨_, ⟨⟨g0, g1, g2, g3⟩, _, y4⟩, ⟨⟨h0, h1, h2, h3⟩, _, y5⟩, _, _, y6⟩ := v2z))
    all_goals
      go_wp2
      go_meet
      case rel =>
        have z1 := hm1.size
        have z2 := m2.size
        simp at z1
        refine ⟨_, rfl, by omega, ?_, ?_⟩
        · first | exact v2.setk (by omega) _ | exact v2.mo ((Mo.refl _).alloc _ _)
        · first | exact k3.same _ | exact AtN.new _ _
  case rest =>
    clear v0
    obtain ⟨k, rfl, hk, v, n⟩ := hcut
    go_upto_region 2 with fail
    go_cut [] from 15 to 20 (fun wx => SW w wx A B ∧ AtN wx k (A - B))
    case first =>
      have vz := v
      have nz := n
      obtain ⟨⟨i0, i1, i2, i3⟩, _, x0⟩ := nz
      go_region_with
        (first | (go_at_call 99; refine (from34_any 1 _ ⟨by decide, by decide⟩).mono ?_; rintro e w1 ⟨rfl, hm1⟩; have m1 : Mo wc w1 := Mo.trans (by repeat (first | with_reducible exact Mo.refl _ | with_reducible apply Mo.drew | with_reducible apply Mo.alloc)) hm1; obtain ⟨⟨i0, i1, i2, i3⟩, _, x1⟩ := n.mo m1) | (go_at_call 180; refine (radd_any (l0 (A + (MM - 1 - B))) (l1 (A + (MM - 1 - B))) (l2 (A + (MM - 1 - B))) (l3 (A + (MM - 1 - B))) (l0 1) (l1 1) (l2 1) (l3 1) _ (u4_lb _) (u4_lb _)).mono ?_; rintro e w2 ⟨rfl, hm2⟩; rw [vl_nv (A + (MM - 1 - B)), vl_nv 1, H2.out]; have m2 : Mo w1 w2 := Mo.trans (by repeat (first | with_reducible exact Mo.refl _ | with_reducible apply Mo.drew | with_reducible apply Mo.alloc)) hm2; have m3 := m1.trans m2; obtain ⟨⟨i0, i1, i2, i3⟩, ff, x1⟩ := n.mo m3; have ff := fun o => ff o))
      all_goals
        go_wp2
        go_meet
        case rel => exact ⟨(v.mo m3).setk hk _, (n.mo m3).same _⟩
    case rest =>
      clear v n
      obtain ⟨v, n⟩ := hcut
      go_upto_region 3 with fail
      go_cut [5] from 21 to 25 (fun s5 wx => s5 = .bool (un (A - B)) ∧ AtN wx (w.heap.size + 1 + 1) (A - B) ∧ Mo w wx)
      case first =>
        have hcm := Hcm.out
        have vz := v
        have nz := n
        obtain ⟨_, ⟨⟨c0, c1, c2, c3⟩, _, x1⟩, ⟨⟨d0, d1, d2, d3⟩, _, x2⟩, _, _, x3⟩ := vz
        obtain ⟨⟨i0, i1, i2, i3⟩, _, x0⟩ := nz
        have ne : ¬ k = w.heap.size + 1 + 1 := by omega
        go_region_held3 (fun w' => w'.cell? ⟨w.heap.size, 0, none⟩ = some (.int .u64 (l0 A)) ∧ w'.cell? ⟨w.heap.size, 1, none⟩ = some (.int .u64 (l1 A)) ∧ w'.cell? ⟨w.heap.size, 2, none⟩ = some (.int .u64 (l2 A)) ∧ w'.cell? ⟨w.heap.size, 3, none⟩ = some (.int .u64 (l3 A)) ∧ w'.cell? ⟨w.heap.size + 1, 0, none⟩ = some (.int .u64 (l0 B)) ∧ w'.cell? ⟨w.heap.size + 1, 1, none⟩ = some (.int .u64 (l1 B)) ∧ w'.cell? ⟨w.heap.size + 1, 2, none⟩ = some (.int .u64 (l2 B)) ∧ w'.cell? ⟨w.heap.size + 1, 3, none⟩ = some (.int .u64 (l3 B)) ∧ w'.cell? ⟨k, 0, none⟩ = some (.int .u64 (l0 (A - B))) ∧ w'.cell? ⟨k, 1, none⟩ = some (.int .u64 (l1 (A - B))) ∧ w'.cell? ⟨k, 2, none⟩ = some (.int .u64 (l2 (A - B))) ∧ w'.cell? ⟨k, 3, none⟩ = some (.int .u64 (l3 (A - B)))) (simp [go_sem, *])
          (first | (go_at_call 179; refine (cmp16_any (l0 A) (l1 A) (l2 A) (l3 A) (l0 B) (l1 B) (l2 B) (l3 B) _ (u4_lb A) (u4_lb B)).mono ?_; rintro e w1 ⟨rfl, hm1⟩; rw [vl_lb A hA0 hAM, vl_lb B hB0 hBM]; have m1 : Mo wc w1 := Mo.trans (by repeat (first | with_reducible exact Mo.refl _ | with_reducible apply Mo.drew | with_reducible apply Mo.alloc)) hm1; have v1 := v.mo m1; obtain ⟨q1, ⟨⟨c0, c1, c2, c3⟩, _, y1⟩, ⟨⟨d0, d1, d2, d3⟩, _, y2⟩, ⟨⟨e0, e1, e2, e3⟩, fe, y3⟩⟩ := v1; obtain ⟨⟨i0, i1, i2, i3⟩, _, y0⟩ := n.mo m1; have fe := fun o => fe o))
        all_goals
          go_wp2
          go_meet
          case rel =>
            have v1 := v.mo m1
            exact ⟨rfl, v1.2.2.2.same _, v1.1.st4 (by omega) _⟩
      case rest =>
        obtain ⟨rfl, ⟨⟨a0, a1, a2, a3⟩, _, _⟩, hmo⟩ := hcut
        go_wp2
        refine bodyPost_ret (v := .tuple #[nv (A - B), .bool (un (A - B))]) (by simp [results, Tryz.results182, go_sem, a0, a1, a2, a3]) rfl ?_
        exact ⟨rfl, hmo⟩
theorem nv_mul_mod (n c : Int) : nv (n % MM * c) = nv (n * c) := by
  rw [← nv_mod (n % MM * c), ← nv_mod (n * c), Int.mul_emod, Int.emod_emod, ← Int.mul_emod]
/-- The world between two rounds. -/
def TT (w wr : World) (b : Nat) (n : Int) : Prop := Mo w wr ∧ w.heap.size < b ∧ b < wr.heap.size ∧ At4 wr w.heap.size 0 0 0 0 ∧ Fz wr w.heap.size ∧ At4 wr b (l0 n) (l1 n) (l2 n) (l3 n) ∧ Fz wr b
theorem TT.mo {w wr w1 : World} {b : Nat} {n : Int} (h : TT w wr b n) (m : Mo wr w1) : TT w w1 b n := by
  obtain ⟨h1, h2, h3, h4, h5, h6, h7⟩ := h
  have := m.size
  exact ⟨h1.trans m, h2, by omega, h4.mo m (by omega), h5.mo m, h6.mo m h3, h7.mo m⟩
theorem TT.put {w w1 : World} {b : Nat} {n q : Int} (h : TT w w1 b n) : TT w ((((w1.setCell ⟨b, 0, none⟩ (.int .u64 (l0 q))).setCell ⟨b, 1, none⟩ (.int .u64 (l1 q))).setCell ⟨b, 2, none⟩ (.int .u64 (l2 q))).setCell ⟨b, 3, none⟩ (.int .u64 (l3 q))) b q := by
  obtain ⟨h1, h2, h3, ⟨c0, c1, c2, c3⟩, h5, ⟨b0, b1, b2, b3⟩, h7⟩ := h
  have ne : ¬ w.heap.size = b := by omega
  have le : w.heap.size ≤ b := by omega
  refine ⟨(((h1.setCell le _).setCell le _).setCell le _).setCell le _, h2, by simpa [World.setCell] using h3, ?_, ?_, ?_, ?_⟩
  · simp [At4, go_sem, *]
  · intro o; simp [World.frozen?_setCell, h5 o]
  · simp [At4, go_sem, *]
  · intro o; simp [World.frozen?_setCell, h7 o]

set_option maxHeartbeats 1000000 in
theorem ten_yes (n : Nat) (w : World) (h7 : n ≤ 77) :
    Calls Tryz.prog 208 #[.int .i64 n] w fun e w' => e = .returned (.tuple #[nv (10 ^ n), .bool true]) ∧ Mo w w' := by
  have e1 : nv 1 = .agg #[.int .u64 1, .int .u64 0, .int .u64 0, .int .u64 0] := by simp [nv, l0, l1, l2, l3]
  have hn : ¬ ((n : Int) < 0) := by omega
  have hn7 : ¬ (77 < (n : Int)) := by omega
  go_enter Tryz.func208, Tryz.ntmps208
  go_wp2_with fail
  refine (from20_any 1 _ ⟨by decide, by decide⟩).mono ?_
  rintro e w1 ⟨rfl, hm⟩
  have hz := hm.size
  simp only [World.size_alloc] at hz
  have hA : At4 w1 w.heap.size 0 0 0 0 := At4.mo (by simp [At4, go_sem]) hm (by simp)
  have hF : Fz w1 w.heap.size := Fz.mo (fun o => by simp [go_sem]) hm
  have hM : Mo w w1 := ((Mo.refl _).alloc _ _).trans hm
  have hS : TT w (w1.alloc (.cells #[.int .u64 (l0 1), .int .u64 (l1 1), .int .u64 (l2 1), .int .u64 (l3 1)] 24)) w1.heap.size 1 := by
    have z : w.heap.size < w1.heap.size := by omega
    exact ⟨hM.alloc _ _, z, by simp, hA.mo ((Mo.refl _).alloc _ _) z, hF.mo ((Mo.refl _).alloc _ _), by simp [At4, go_sem], fun o => by simp [go_sem]⟩
  have HS : Hid _ := hS
  clear hS hA hF e1
  go_wp2
  go_loopw [14] (fun i wr => ∃ k : Nat, k ≤ n ∧ i = .int .i64 k ∧ TT w wr w1.heap.size (10 ^ k)) (fun i _ => n - (intOf i).toNat)
  case atStart => exact ⟨0, Nat.zero_le _, rfl, HS.out⟩
  case round =>
    obtain ⟨k, hk, rfl, ht⟩ := hrel
    by_cases hlt : k < n
    · have ht0 := ht
      obtain ⟨g1, g2, g3, ⟨c0, c1, c2, c3⟩, g5, ⟨b0, b1, b2, b3⟩, g7⟩ := ht
      clear g5 g7
      go_wp2_with fail
      refine (mulLimb_any (l0 (10 ^ k)) (l1 (10 ^ k)) (l2 (10 ^ k)) (l3 (10 ^ k)) 10 _ (u4_lb _) ⟨by decide, by decide⟩).mono ?_
      rintro e w2 ⟨rfl, hm2⟩
      rw [vl_nv, nv_mul_mod, ← Int.pow_succ]
      have t1 := ht0.mo hm2
      have t3 := t1.put (q := 10 ^ (k + 1))
      clear b0 b1 b2 b3 c0 c1 c2 c3 g1 g2 g3
      obtain ⟨g1, g2, g3, ⟨c0, c1, c2, c3⟩, g5, ⟨b0, b1, b2, b3⟩, g7⟩ := t1
      have g7 := fun o => g7 o
      clear g5
      go_wp2
      go_roundw
      case rel => exact ⟨k + 1, by omega, by go_num, t3⟩
      case measure => simp [intOf]; omega
    · have hkn : k = n := by omega
      subst hkn
      obtain ⟨g1, g2, g3, ⟨c0, c1, c2, c3⟩, g5, ⟨b0, b1, b2, b3⟩, g7⟩ := ht
      have g5 := fun o => g5 o
      go_wp2
      refine bodyPost_ret (v := .tuple #[nv (10 ^ k), .bool true]) (by simp [results, Tryz.results208, go_sem, c0, c1, c2, c3]) rfl ?_
      refine ⟨rfl, ?_⟩
      exact (((g1.setCell (Nat.le_refl _) _).setCell (Nat.le_refl _) _).setCell (Nat.le_refl _) _).setCell (Nat.le_refl _) _
theorem mul_n (A B : Int) (w : World) (hA0 : 0 ≤ A) (hAM : A < MM) (hB0 : 0 ≤ B) (hBM : B < MM) :
    Calls Tryz.prog 204 #[nv A, nv B] w fun e w' => e = .returned (.tuple #[nv (A * B / MM), nv (A * B)]) ∧ Mo w w' := by
  have h := mul_any (l0 A) (l1 A) (l2 A) (l3 A) (l0 B) (l1 B) (l2 B) (l3 B) w (u4_lb A) (u4_lb B)
  rw [vl_lb A hA0 hAM, vl_lb B hB0 hBM] at h
  exact h
theorem add_n (A B : Int) (w : World) (hA0 : 0 ≤ A) (hAM : A < MM) (hB0 : 0 ≤ B) (hBM : B < MM) :
    Calls Tryz.prog 207 #[nv A, nv B] w fun e w' => e = .returned (.tuple #[nv (A + B), .bool (ov (A + B))]) ∧ Mo w w' := by
  have h := add_any (l0 A) (l1 A) (l2 A) (l3 A) (l0 B) (l1 B) (l2 B) (l3 B) w (u4_lb A) (u4_lb B)
  rw [vl_lb A hA0 hAM, vl_lb B hB0 hBM] at h
  exact h
theorem radd_n (A B : Int) (w : World) (hA0 : 0 ≤ A) (hAM : A < MM) (hB0 : 0 ≤ B) (hBM : B < MM) :
    Calls Tryz.prog 180 #[nv A, nv B] w fun e w' => e = .returned (.tuple #[nv (A + B), .bool (ov (A + B))]) ∧ Mo w w' := by
  have h := radd_any (l0 A) (l1 A) (l2 A) (l3 A) (l0 B) (l1 B) (l2 B) (l3 B) w (u4_lb A) (u4_lb B)
  rw [vl_lb A hA0 hAM, vl_lb B hB0 hBM] at h
  exact h
theorem sub_n (A B : Int) (w : World) (hA0 : 0 ≤ A) (hAM : A < MM) (hB0 : 0 ≤ B) (hBM : B < MM) :
    Calls Tryz.prog 210 #[nv A, nv B] w fun e w' => e = .returned (.tuple #[nv (A - B), .bool (un (A - B))]) ∧ Mo w w' := by
  have h := sub_any (l0 A) (l1 A) (l2 A) (l3 A) (l0 B) (l1 B) (l2 B) (l3 B) w (u4_lb A) (u4_lb B)
  rw [vl_lb A hA0 hAM, vl_lb B hB0 hBM, nv_mod] at h
  exact h
theorem cmp_n (A B : Int) (w : World) (hA0 : 0 ≤ A) (hAM : A < MM) (hB0 : 0 ≤ B) (hBM : B < MM) :
    Calls Tryz.prog 209 #[nv A, nv B] w fun e w' => e = .returned (.int .i64 (cm A B)) ∧ Mo w w' := by
  have h := cmp15_any (l0 A) (l1 A) (l2 A) (l3 A) (l0 B) (l1 B) (l2 B) (l3 B) w (u4_lb A) (u4_lb B)
  rw [vl_lb A hA0 hAM, vl_lb B hB0 hBM] at h
  exact h
theorem rcmp_n (A B : Int) (w : World) (hA0 : 0 ≤ A) (hAM : A < MM) (hB0 : 0 ≤ B) (hBM : B < MM) :
    Calls Tryz.prog 179 #[nv A, nv B] w fun e w' => e = .returned (.int .i64 (cm A B)) ∧ Mo w w' := by
  have h := cmp16_any (l0 A) (l1 A) (l2 A) (l3 A) (l0 B) (l1 B) (l2 B) (l3 B) w (u4_lb A) (u4_lb B)
  rw [vl_lb A hA0 hAM, vl_lb B hB0 hBM] at h
  exact h
theorem div_n (H L D : Int) (w : World) (hH0 : 0 ≤ H) (hHM : H < MM) (hL0 : 0 ≤ L) (hLM : L < MM) (hD0 : 0 ≤ D) (hDM : D < MM) :
    Calls Tryz.prog 205 #[nv H, nv L, nv D] w fun e w' => e = .returned (.tuple #[nv (dq H L D), nv (dr H L D), .bool (dok H D)]) ∧ Mo w w' := by
  have h := div_any (l0 H) (l1 H) (l2 H) (l3 H) (l0 L) (l1 L) (l2 L) (l3 L) (l0 D) (l1 D) (l2 D) (l3 D) w (u4_lb H) (u4_lb L) (u4_lb D)
  rw [vl_lb H hH0 hHM, vl_lb L hL0 hLM, vl_lb D hD0 hDM] at h
  exact h
end Go.Proofs.YtfmfeipeeedfpaaGreat
namespace Go.Proofs.YtfmfeipeeedfpaaGreat
open S Go.RowKit
abbrev z0 : Value := nv 0
set_option maxRecDepth 20000 in
theorem p_isSc (s : Int) (w : World) : Calls Tryz.prog 184 #[.int .i64 s] w fun r W => r = .returned (.bool (sc s)) ∧ Mb w W := by
  refine fn_pure [.int .i64 s] Tryz.func184 rfl rfl rfl (run_ok (st mo ?_))
  refine ⟨fun h => st mo ⟨fun h2 => st mo ?_, fun h2 => st mo ?_⟩, fun h => st mo ?_⟩
  · show _ = _; unfold sc; rw [decide_eq_true h, decide_eq_true h2]; rfl
  · show _ = _; unfold sc; rw [decide_eq_true h, decide_eq_false (by omega)]; rfl
  · show _ = _; unfold sc; rw [decide_eq_false (by omega)]; rfl
theorem p_isSc' {s : Int} {b : Bool} (h : sc s = b) (w : World) : Calls Tryz.prog 184 #[.int .i64 s] w fun r W => r = .returned (.bool b) ∧ Mb w W := h ▸ p_isSc s w
theorem MM_0 : (0 : Int) ≤ 0 ∧ (0 : Int) < MM := by decide
abbrev dcl (f : Value) (n s : Int) : Value := .agg #[f, .int .u64 (l0 n), .int .u64 (l1 n), .int .u64 (l2 n), .int .u64 (l3 n), .int .i64 s]
set_option maxRecDepth 20000 in
theorem p_dck (b : Bool) (n s : Int) (hn : 0 ≤ n ∧ n < MM) (w : World) : Calls Tryz.prog 157 #[dc b n s] w fun r W => r = .returned (.int .i64 (ck b n s)) ∧ Mb w W := by
  cases b
  · refine fn_pure [dcl litF n s] Tryz.func157 rfl rfl rfl (run_ok (st mo ?_))
    cases hs : sc s with
    | false =>
      refine ⟨_, fun nn => r_call (t := litF) rfl rfl Tryz.func184 (fun W M E => p_isSc' hs W), st mo ?_⟩
      show _ = _; rw [ck, hs]; rfl
    | true =>
      refine ⟨_, fun nn => r_call (t := litT) rfl rfl Tryz.func184 (fun W M E => p_isSc' hs W), st mo ?_⟩
      show _ = _; rw [ck, hs]; rfl
  · refine fn_pure [dcl litT n s] Tryz.func157 rfl rfl rfl (run_ok (st mo ?_))
    cases hs : sc s with
    | false =>
      refine ⟨_, fun nn => r_call (t := litF) rfl rfl Tryz.func184 (fun W M E => p_isSc' hs W), st mo ?_⟩
      show _ = _; rw [ck, hs]; rfl
    | true =>
      refine ⟨_, fun nn => r_call (t := litT) rfl rfl Tryz.func184 (fun W M E => p_isSc' hs W), st mo ?_⟩
      refine ⟨_, r_eqN n 0 hn MM_0, fun h => st mo ?_, fun h => st mo ?_⟩
      · show _ = _; rw [ck, hs, h]; rfl
      · show _ = _; rw [ck, hs, h]; rfl
theorem p_dck' {b : Bool} {n s c : Int} (h : ck b n s = c) (hn : 0 ≤ n ∧ n < MM) (w : World) : Calls Tryz.prog 157 #[dc b n s] w fun r W => r = .returned (.int .i64 c) ∧ Mb w W := h ▸ p_dck b n s hn w
set_option maxRecDepth 20000 in
theorem p_sgnd (b : Bool) (n s : Int) (hn : 0 ≤ n ∧ n < MM) (w : World) : Calls Tryz.prog 168 #[.bool b, nv n, .int .i64 s] w fun r W => r = .returned (dc (b && !decide (n = 0)) n s) ∧ Mb w W := by
  cases b
  · refine fn_pure [litF, nv n, .int .i64 s] Tryz.func168 rfl rfl rfl (run_ok (st mo ?_))
    exact ⟨dk, st mo rfl⟩
  · refine fn_pure [litT, nv n, .int .i64 s] Tryz.func168 rfl rfl rfl (run_ok (st mo ?_))
    refine ⟨_, r_neN n 0 hn MM_0, fun h => st mo ⟨dk, st mo ?_⟩, fun h => st mo ⟨dk, st mo ?_⟩⟩
    · show _ = _; rw [h]; rfl
    · show _ = _; rw [h]; rfl
set_option maxRecDepth 20000 in
theorem p_from (u : Int) (hu : 0 ≤ u ∧ u < 18446744073709551616) (w : World) : Calls Tryz.prog 159 #[.int .u64 u] w fun r W => r = .returned (nv u) ∧ Mb w W := by
  rw [show nv u = .agg #[.int .u64 u, .int .u64 0, .int .u64 0, .int .u64 0] by
    rw [nv, show l0 u = u by unfold l0; omega, show l1 u = 0 by unfold l1; omega, show l2 u = 0 by unfold l2; omega, show l3 u = 0 by unfold l3; omega]]
  exact fn_pure [.int .u64 u] Tryz.func159 rfl rfl rfl (run_ok (st mo rfl))
set_option maxRecDepth 20000 in
theorem p_odd (n : Int) (w : World) : Calls Tryz.prog 223 #[nv n] w fun r W => r = .returned (.bool (decide (n % 2 = 1))) ∧ Mb w W := by
  refine fn_pure [nv n] Tryz.func223 rfl rfl rfl (run_ok (st mo ?_))
  refine ⟨by decide, n % 2, by rw [Int.tmod_eq_emod_of_nonneg (by unfold l0; omega)]; unfold l0; omega, st mo ⟨fun h => st mo ?_, fun h => st mo ?_⟩⟩
  · show _ = _; rw [decide_eq_true h]
  · show _ = _; rw [decide_eq_false h]
theorem p_odd' {n : Int} {b : Bool} (h : decide (n % 2 = 1) = b) (w : World) : Calls Tryz.prog 223 #[nv n] w fun r W => r = .returned (.bool b) ∧ Mb w W := h ▸ p_odd n w
set_option maxRecDepth 20000 in
theorem p_ten (k : Nat) (hk : k ≤ 77) (w : World) : Calls Tryz.prog 190 #[.int .i64 (k : Int)] w fun r W => r = .returned (nv (10 ^ k)) ∧ Mb w W := by
  refine fn_pure [.int .i64 (k : Int)] Tryz.func190 rfl rfl rfl (run_ok (st mo ?_))
  refine ⟨_, fun nn => r_call (t := .tuple #[nv (10 ^ k), litT]) rfl rfl Tryz.func208 (fun W M E => (ten_yes k W hk).mono fun _ _ ⟨a, b⟩ => ⟨a, b.mb⟩), st mo ?_⟩
  rfl
set_option maxRecDepth 20000 in
theorem p_mulD (A B : Int) (hA : 0 ≤ A ∧ A < MM) (hB : 0 ≤ B ∧ B < MM) (w : World) : Calls Tryz.prog 187 #[nv A, nv B] w fun r W => r = .returned (dw (A * B)) ∧ Mb w W := by
  refine fn_pure [nv A, nv B] Tryz.func187 rfl rfl rfl (run_ok (st mo ?_))
  refine ⟨_, fun nn => r_call (t := .tuple #[nv (A * B / MM), nv (A * B)]) rfl rfl Tryz.func204 (fun W M E => (mul_n A B W hA.1 hA.2 hB.1 hB.2).mono fun _ _ ⟨a, b⟩ => ⟨a, b.mb⟩), st mo ?_⟩
  rfl
theorem p10_b {k : Nat} (h : k ≤ 77) : 0 ≤ (10 : Int) ^ k ∧ (10 : Int) ^ k < MM := by
  refine ⟨Int.le_of_lt (Int.pow_pos (by decide)), ?_⟩
  have h1 : (10 : Nat) ^ k ≤ 10 ^ 77 := Nat.pow_le_pow_right (by decide) h
  have h3 : ((10 ^ k : Nat) : Int) = (10 : Int) ^ k := by rw [Int.natCast_pow]; rfl
  have h2 : ((10 ^ 77 : Nat) : Int) < MM := by decide
  rw [← h3]
  exact Int.lt_of_le_of_lt (Int.ofNat_le.2 h1) h2
set_option maxRecDepth 20000 in
/-- A number in the last digits of a scale that is not below its own. -/
theorem p_lift (b : Bool) (n s S : Int) (k : Nat) (hn : 0 ≤ n ∧ n < MM) (hs : 0 ≤ s ∧ S ≤ 18) (hk : S - s = (k : Int)) (w : World) : Calls Tryz.prog 193 #[dc b n s, .int .i64 S] w fun r W => r = .returned (dw (n * 10 ^ k)) ∧ Mb w W := by
  refine fn_pure [dc b n s, .int .i64 S] Tryz.func193 rfl rfl rfl (run_ok (st mo ?_))
  refine ⟨(k : Int), wz k hk, st mo ?_⟩
  refine ⟨_, fun nn => r_call (t := nv (10 ^ k)) rfl rfl Tryz.func190 (fun W M E => p_ten k (by omega) W), st mo ?_⟩
  refine ⟨_, fun nn => r_call (t := dw (n * 10 ^ k)) rfl rfl Tryz.func187 (fun W M E => p_mulD n (10 ^ k) hn (p10_b (by omega)) W), st mo ⟨dk, st mo ?_⟩⟩
  rfl
abbrev bl (b : Bool) : Value := if b then litT else litF
theorem MM_p : (0 : Int) < MM := by decide
theorem hi_b {X : Int} (h : 0 ≤ X ∧ X < MM * MM) : 0 ≤ X / MM ∧ X / MM < MM := ⟨Int.ediv_nonneg h.1 (by decide), Int.ediv_lt_of_lt_mul MM_p h.2⟩
theorem lo_b (X : Int) : 0 ≤ X % MM ∧ X % MM < MM := ⟨Int.emod_nonneg _ (by decide), Int.emod_lt_of_pos _ MM_p⟩
theorem add_c (X Y : Int) (W : World) : Calls Tryz.prog 207 #[nv X, nv Y] W fun e W' => e = .returned (.tuple #[nv (X + Y), .bool (decide (MM ≤ X % MM + Y % MM))]) ∧ Mb W W' := by
  have q := add_n (X % MM) (Y % MM) W (lo_b X).1 (lo_b X).2 (lo_b Y).1 (lo_b Y).2
  rw [nv_mod, nv_mod, ← nv_mod (X % MM + Y % MM), ← Int.add_emod, nv_mod] at q
  exact q.mono fun _ _ ⟨a, b⟩ => ⟨a, b.mb⟩
theorem add_c' {X Y Z : Int} {o : Bool} (hz : Z = X + Y) (ho : decide (MM ≤ X % MM + Y % MM) = o) (W : World) : Calls Tryz.prog 207 #[nv X, nv Y] W fun e W' => e = .returned (.tuple #[nv Z, .bool o]) ∧ Mb W W' := by subst hz ho; exact add_c X Y W
theorem sub_c' {X Y Z : Int} {o : Bool} (hz : Z = X - Y) (ho : decide (X % MM - Y % MM < 0) = o) (W : World) : Calls Tryz.prog 210 #[nv X, nv Y] W fun e W' => e = .returned (.tuple #[nv Z, .bool o]) ∧ Mb W W' := by
  have q := sub_n (X % MM) (Y % MM) W (lo_b X).1 (lo_b X).2 (lo_b Y).1 (lo_b Y).2
  rw [nv_mod, nv_mod, ← nv_mod (X % MM - Y % MM), ← Int.sub_emod, nv_mod, show un (X % MM - Y % MM) = o from ho, ← hz] at q
  exact q.mono fun _ _ ⟨a, b⟩ => ⟨a, b.mb⟩
theorem cmp_c {A B c : Int} (hA : 0 ≤ A ∧ A < MM) (hB : 0 ≤ B ∧ B < MM) (h : cm A B = c) (W : World) : Calls Tryz.prog 209 #[nv A, nv B] W fun e W' => e = .returned (.int .i64 c) ∧ Mb W W' :=
  (cmp_n A B W hA.1 hA.2 hB.1 hB.2).mono fun _ _ ⟨a, b⟩ => ⟨h ▸ a, b.mb⟩
set_option maxRecDepth 20000 in
theorem p_addD (X Y : Int) (w : World) : Calls Tryz.prog 194 #[dw X, dw Y] w fun r W => r = .returned (dw (X + Y)) ∧ Mb w W := by
  refine fn_pure [dw X, dw Y] Tryz.func194 rfl rfl rfl (run_ok (st mo ?_))
  by_cases hc : MM ≤ X % MM + Y % MM
  · have e : (X + Y) / MM = X / MM + Y / MM + 1 := by unfold MM at *; omega
    refine ⟨_, fun nn => r_call (t := .tuple #[nv (X + Y), litT]) rfl rfl Tryz.func207 (fun W M E => add_c' rfl (decide_eq_true hc) W), st mo ?_⟩
    refine ⟨_, fun nn => r_call (t := .tuple #[nv (X / MM + Y / MM), .bool (decide (MM ≤ (X / MM) % MM + (Y / MM) % MM))]) rfl rfl Tryz.func207 (fun W M E => add_c' rfl rfl W), st mo ?_⟩
    refine ⟨_, fun nn => r_call (t := nv 1) rfl rfl Tryz.func159 (fun W M E => p_from 1 (by decide) W), st mo ?_⟩
    refine ⟨_, fun nn => r_call (t := .tuple #[nv ((X + Y) / MM), .bool (decide (MM ≤ (X / MM + Y / MM) % MM + 1 % MM))]) rfl rfl Tryz.func207 (fun W M E => add_c' e rfl W), st mo ⟨dk, st mo ?_⟩⟩
    rfl
  · have e : (X + Y) / MM = X / MM + Y / MM := by unfold MM at *; omega
    refine ⟨_, fun nn => r_call (t := .tuple #[nv (X + Y), litF]) rfl rfl Tryz.func207 (fun W M E => add_c' rfl (decide_eq_false hc) W), st mo ?_⟩
    refine ⟨_, fun nn => r_call (t := .tuple #[nv ((X + Y) / MM), .bool (decide (MM ≤ (X / MM) % MM + (Y / MM) % MM))]) rfl rfl Tryz.func207 (fun W M E => add_c' e rfl W), st mo ?_⟩
    rfl
set_option maxRecDepth 20000 in
theorem p_subD (X Y : Int) (w : World) : Calls Tryz.prog 196 #[dw X, dw Y] w fun r W => r = .returned (dw (X - Y)) ∧ Mb w W := by
  refine fn_pure [dw X, dw Y] Tryz.func196 rfl rfl rfl (run_ok (st mo ?_))
  by_cases hc : X % MM - Y % MM < 0
  · have e : (X - Y) / MM = X / MM - Y / MM - 1 := by unfold MM at *; omega
    refine ⟨_, fun nn => r_call (t := .tuple #[nv (X - Y), litT]) rfl rfl Tryz.func210 (fun W M E => sub_c' rfl (decide_eq_true hc) W), st mo ?_⟩
    refine ⟨_, fun nn => r_call (t := .tuple #[nv (X / MM - Y / MM), .bool (decide ((X / MM) % MM - (Y / MM) % MM < 0))]) rfl rfl Tryz.func210 (fun W M E => sub_c' rfl rfl W), st mo ?_⟩
    refine ⟨_, fun nn => r_call (t := nv 1) rfl rfl Tryz.func159 (fun W M E => p_from 1 (by decide) W), st mo ?_⟩
    refine ⟨_, fun nn => r_call (t := .tuple #[nv ((X - Y) / MM), .bool (decide ((X / MM - Y / MM) % MM - 1 % MM < 0))]) rfl rfl Tryz.func210 (fun W M E => sub_c' e rfl W), st mo ⟨dk, st mo ?_⟩⟩
    rfl
  · have e : (X - Y) / MM = X / MM - Y / MM := by unfold MM at *; omega
    refine ⟨_, fun nn => r_call (t := .tuple #[nv (X - Y), litF]) rfl rfl Tryz.func210 (fun W M E => sub_c' rfl (decide_eq_false hc) W), st mo ?_⟩
    refine ⟨_, fun nn => r_call (t := .tuple #[nv ((X - Y) / MM), .bool (decide ((X / MM) % MM - (Y / MM) % MM < 0))]) rfl rfl Tryz.func210 (fun W M E => sub_c' e rfl W), st mo ?_⟩
    rfl
theorem cm_hi {X Y : Int} (h : ¬ cm (X / MM) (Y / MM) = 0) : cm X Y = cm (X / MM) (Y / MM) := by
  unfold cm at *; unfold MM at *
  repeat (first | omega | split at * )
theorem cm_lo {X Y : Int} (h : cm (X / MM) (Y / MM) = 0) : cm X Y = cm (X % MM) (Y % MM) := by
  unfold cm at *; unfold MM at *
  repeat (first | omega | split at * )
set_option maxRecDepth 20000 in
theorem p_cmpD (X Y : Int) (hX : 0 ≤ X ∧ X < MM * MM) (hY : 0 ≤ Y ∧ Y < MM * MM) (w : World) : Calls Tryz.prog 195 #[dw X, dw Y] w fun r W => r = .returned (.int .i64 (cm X Y)) ∧ Mb w W := by
  refine fn_pure [dw X, dw Y] Tryz.func195 rfl rfl rfl (run_ok (st mo ?_))
  refine ⟨_, r_eqW X Y hX hY, fun h => st mo ?_, fun h => st mo ?_⟩
  · have h := of_decide_eq_true h
    show _ = _; rw [h]; unfold cm; rw [if_neg (by omega), if_neg (by omega)]
  · refine ⟨_, fun nn => r_call (t := .int .i64 (cm (X / MM) (Y / MM))) rfl rfl Tryz.func209 (fun W M E => cmp_c (hi_b hX) (hi_b hY) rfl W), st mo ⟨fun h1 => st mo ?_, fun h1 => st mo ?_⟩⟩
    · show _ = _; rw [cm_hi h1]
    · refine ⟨_, fun nn => r_call (t := .int .i64 (cm (X % MM) (Y % MM))) rfl rfl Tryz.func209 (fun W M E => cmp_c (lo_b X) (lo_b Y) rfl W) (by rw [nv_mod, nv_mod]; rfl), st mo ?_⟩
      show _ = _; rw [cm_lo h1]
abbrev DR.y (r : DR) : Value := .tuple #[dc r.b r.n r.s, .int .i64 r.e]
theorem fx_0 {b : Bool} {X s : Int} (h : X < MM) : fxR b X s = ⟨b && !decide (X = 0), X, s, 0⟩ := if_pos h
theorem fx_7 {b : Bool} {X s : Int} (h : ¬ X < MM) : fxR b X s = erR 7 := if_neg h
theorem hi_0 {X : Int} (h : X < MM) (h0 : 0 ≤ X) : X / MM = 0 := Int.ediv_eq_zero_of_lt h0 h
theorem hi_1 {X : Int} (h : ¬ X < MM) : ¬ X / MM = 0 := by unfold MM at *; omega
theorem lo_n {X : Int} (h : X < MM) (h0 : 0 ≤ X) : X % MM = X := Int.emod_eq_of_lt h0 h
set_option maxRecDepth 20000 in
theorem p_dfit (b : Bool) (X s : Int) (hX : 0 ≤ X ∧ X < MM * MM) (w : World) : Calls Tryz.prog 189 #[.bool b, dw X, .int .i64 s] w fun r W => r = .returned (fxR b X s).v ∧ Mb w W := by
  refine fn_pure [.bool b, dw X, .int .i64 s] Tryz.func189 rfl rfl rfl (run_ok (st mo ?_))
  refine ⟨_, r_neN (X / MM) 0 (hi_b hX) MM_0, fun h => st mo ?_, fun h => st mo ?_⟩
  · have h : ¬ X < MM := fun q => by rw [hi_0 q hX.1] at h; cases h
    show _ = _; rw [fx_7 h]; rfl
  · have h : X < MM := Classical.byContradiction fun q => by rw [decide_eq_false (hi_1 q)] at h; cases h
    refine ⟨_, fun nn => r_call (t := dc (b && !decide (X = 0)) X s) rfl rfl Tryz.func168 (fun W M E => p_sgnd b X s ⟨hX.1, h⟩ W), st mo ?_⟩
    show _ = _; rw [fx_0 h]; rfl
theorem p_dfit' {b : Bool} {X s : Int} {r : DR} (h : fxR b X s = r) (hX : 0 ≤ X ∧ X < MM * MM) (w : World) : Calls Tryz.prog 189 #[.bool b, dw X, .int .i64 s] w fun e W => e = .returned r.v ∧ Mb w W := h ▸ p_dfit b X s hX w
set_option maxRecDepth 20000 in
theorem p_ckb (b : Bool) (n s : Int) (c : Bool) (m t : Int) (hn : 0 ≤ n ∧ n < MM) (hm : 0 ≤ m ∧ m < MM) (h1 : ck b n s = 0) (h2 : ck c m t = 0) (w : World) : Calls Tryz.prog 185 #[dc b n s, dc c m t] w fun r W => r = .returned (.int .i64 0) ∧ Mb w W := by
  refine fn_pure [dc b n s, dc c m t] Tryz.func185 rfl rfl rfl (run_ok (st mo ?_))
  refine ⟨_, fun nn => r_call (t := .int .i64 0) rfl rfl Tryz.func157 (fun W M E => p_dck' h1 hn W), st mo ⟨fun h => absurd h (by decide), fun _ => st mo ?_⟩⟩
  refine ⟨_, fun nn => r_call (t := .int .i64 0) rfl rfl Tryz.func157 (fun W M E => p_dck' h2 hm W), st mo ?_⟩
  rfl
theorem r_max {w0 : B0} {X : World} {o : Oper} {fr : FT} {h : HT} {n : Nat} {y z : Operand} {ts : Array TypeId} (a b : Int) (ho : o.op = .call { callee := .builtin .max, args := #[y, z], argTypes := ts } := by rfl) (hy : den2 (evo fr y) = .int .i64 a := by rfl) (hz : den2 (evo fr z) = .int .i64 b := by rfl) (hpy : pur2 (evo fr y) = true := by rfl) (hpz : pur2 (evo fr z) = true := by rfl) : Oa (Am w0 X) Tryz.prog o fr h n ⟨.int .i64 (max a b), h, n, 0, 0⟩ := by
  refine Oa.val fun k W ac hA hop => ⟨.int .i64 (max a b), pur_vx rfl, ?_⟩
  have h1 := pur2_eq (hop y (by rw [ho]; simp [Op.operands, Call.operands])) hpy
  have h2 := pur2_eq (hop z (by rw [ho]; simp [Op.operands, Call.operands])) hpz
  rw [hy] at h1
  rw [hz] at h2
  by_cases hb : a < b
  · rw [show max a b = b by omega]
    simp [execOp, ho, resolve, invoke, builtin, h1, h2, Builtin.max_, Builtin.max2, show b > a by omega]
  · rw [show max a b = a by omega]
    simp [execOp, ho, resolve, invoke, builtin, h1, h2, Builtin.max_, Builtin.max2, show ¬ b > a by omega]
/-- == and != of two flags. -/
theorem r_eqB {w0 : B0} {X : World} {o : Oper} {fr : FT} {h : HT} {n : Nat} {y z : Operand} {t' : TypeId} (a b : Bool) (ho : o.op = .binOp .eql 4 y z t' := by rfl) (hy : den2 (evo fr y) = .bool a := by rfl) (hz : den2 (evo fr z) = .bool b := by rfl) (hpy : pur2 (evo fr y) = true := by rfl) (hpz : pur2 (evo fr z) = true := by rfl) : Oa (Am w0 X) Tryz.prog o fr h n ⟨.bool (a == b), h, n, 0, 0⟩ :=
  Oo.to (s_bin0 ho (fun k u hu => by rw [pur2_eq hu hpy, hy]) (fun k u hu => by rw [pur2_eq hu hpz, hz]) rfl (fun w => by kernel_rfl))
theorem r_neB {w0 : B0} {X : World} {o : Oper} {fr : FT} {h : HT} {n : Nat} {y z : Operand} {t' : TypeId} (a b : Bool) (ho : o.op = .binOp .neq 4 y z t' := by rfl) (hy : den2 (evo fr y) = .bool a := by rfl) (hz : den2 (evo fr z) = .bool b := by rfl) (hpy : pur2 (evo fr y) = true := by rfl) (hpz : pur2 (evo fr z) = true := by rfl) : Oa (Am w0 X) Tryz.prog o fr h n ⟨.bool (a != b), h, n, 0, 0⟩ :=
  Oo.to (s_bin0 ho (fun k u hu => by rw [pur2_eq hu hpy, hy]) (fun k u hu => by rw [pur2_eq hu hpz, hz]) rfl (fun w => by kernel_rfl))
theorem sgn_mul (b : Bool) (n k : Int) : sgn b n * k = sgn b (n * k) := by cases b <;> simp [sgn, Int.neg_mul]
theorem ab_sgn {b : Bool} {Z : Int} (h : 0 ≤ Z) : ab (sgn b Z) = Z := by unfold ab sgn; cases b <;> simp <;> omega
theorem lt_sgn {b : Bool} {Z : Int} (h : 0 ≤ Z) : decide (sgn b Z < 0) = (b && !decide (Z = 0)) := by
  unfold sgn
  cases b
  · simp; omega
  · by_cases q : Z = 0
    · simp [q]
    · simp [q]; omega
theorem fx_sgn {b : Bool} {Z S : Int} (h : 0 ≤ Z) : fxR b Z S = fzR (sgn b Z) S := by
  unfold fxR fzR; rw [ab_sgn h, lt_sgn h]
theorem lift_b {n : Int} {k : Nat} (h : 0 ≤ n ∧ n < MM) (hk : k ≤ 18) : 0 ≤ n * 10 ^ k ∧ n * 10 ^ k < 1000000000000000000 * MM := by
  have h1 : (10 : Nat) ^ k ≤ 10 ^ 18 := Nat.pow_le_pow_right (by decide) hk
  have h3 : ((10 ^ k : Nat) : Int) = (10 : Int) ^ k := by rw [Int.natCast_pow]; rfl
  have h4 : (10 : Int) ^ k ≤ 1000000000000000000 := by rw [← h3]; omega
  have h5 : (0 : Int) ≤ 10 ^ k := Int.le_of_lt (Int.pow_pos (by decide))
  have a : n * 10 ^ k ≤ n * 1000000000000000000 := Int.mul_le_mul_of_nonneg_left h4 h.1
  exact ⟨Int.mul_nonneg h.1 h5, by unfold MM at *; omega⟩
theorem lift_w {X : Int} (h : 0 ≤ X ∧ X < 1000000000000000000 * MM) : 0 ≤ X ∧ X < MM * MM := ⟨h.1, Int.lt_trans h.2 (by decide)⟩
/-- The lifted numbers of two. -/
theorem lifts {s t : Int} (hs : sc s = true) (ht : sc t = true) : ∃ i j : Nat, max s t - s = (i : Int) ∧ max s t - t = (j : Int) ∧ i ≤ 18 ∧ j ≤ 18 ∧ 0 ≤ s ∧ 0 ≤ t ∧ max s t ≤ 18 := by
  obtain ⟨s0, s1⟩ := sc_iff.1 hs
  obtain ⟨t0, t1⟩ := sc_iff.1 ht
  exact ⟨(max s t - s).toNat, (max s t - t).toNat, by omega, by omega, by omega, by omega, s0, t0, by omega⟩
theorem addR_same (b : Bool) {n s m t : Int} {i j : Nat} (hn : 0 ≤ n ∧ n < MM) (hm : 0 ≤ m ∧ m < MM) (hi : max s t - s = (i : Int)) (hj : max s t - t = (j : Int)) : addR b n s b m t = fxR b (n * 10 ^ i + m * 10 ^ j) (max s t) := by
  have p : ∀ k : Nat, (0 : Int) ≤ 10 ^ k := fun k => Int.le_of_lt (Int.pow_pos (by decide))
  rw [fx_sgn (Int.add_nonneg (Int.mul_nonneg hn.1 (p i)) (Int.mul_nonneg hm.1 (p j)))]
  unfold addR addV
  rw [hi, hj, pw_nat, pw_nat, sgn_mul, sgn_mul]
  congr 1
  unfold sgn; cases b <;> simp <;> omega
theorem addR_diff (b : Bool) {n s m t : Int} {i j : Nat} (hi : max s t - s = (i : Int)) (hj : max s t - t = (j : Int)) : addR b n s (!b) m t = if n * 10 ^ i < m * 10 ^ j then fxR (!b) (m * 10 ^ j - n * 10 ^ i) (max s t) else fxR b (n * 10 ^ i - m * 10 ^ j) (max s t) := by
  unfold addR addV
  rw [hi, hj, pw_nat, pw_nat, sgn_mul, sgn_mul]
  split
  next h =>
    rw [fx_sgn (by omega)]; congr 1
    unfold sgn; cases b <;> simp <;> omega
  next h =>
    rw [fx_sgn (by omega)]; congr 1
    unfold sgn; cases b <;> simp <;> omega
set_option maxRecDepth 20000 in
theorem p_add (b : Bool) (n s : Int) (c : Bool) (m t : Int) (hn : 0 ≤ n ∧ n < MM) (hm : 0 ≤ m ∧ m < MM) (h1 : ck b n s = 0) (h2 : ck c m t = 0) (w : World) : Calls Tryz.prog 169 #[dc b n s, dc c m t] w fun r W => r = .returned (addR b n s c m t).v ∧ Mb w W := by
  obtain ⟨i, j, hi, hj, hi8, hj8, s0, t0, hS⟩ := lifts (ck_s h1) (ck_s h2)
  have bX := lift_b hn hi8
  have bY := lift_b hm hj8
  by_cases hbc : c = b
  · subst hbc
    rw [addR_same c hn hm hi hj]
    have bZ : 0 ≤ n * 10 ^ i + m * 10 ^ j ∧ n * 10 ^ i + m * 10 ^ j < MM * MM := ⟨by omega, by unfold MM at *; omega⟩
    generalize hr : fxR c (n * 10 ^ i + m * 10 ^ j) (max s t) = r
    cases c
    · refine fn_pure [dcl litF n s, dcl litF m t] Tryz.func169 rfl rfl rfl (run_ok (st mo ?_))
      refine ⟨_, fun nn => r_call (t := .int .i64 0) rfl rfl Tryz.func185 (fun W M E => p_ckb false n s false m t hn hm h1 h2 W), st mo ⟨fun h => absurd h (by decide), fun _ => st mo ?_⟩⟩
      refine ⟨_, fun nn => r_max s t, st mo ?_⟩
      refine ⟨_, fun nn => r_call (t := dw (n * 10 ^ i)) rfl rfl Tryz.func193 (fun W M E => p_lift false n s _ i hn ⟨s0, hS⟩ hi W), st mo ?_⟩
      refine ⟨_, fun nn => r_call (t := dw (m * 10 ^ j)) rfl rfl Tryz.func193 (fun W M E => p_lift false m t _ j hm ⟨t0, hS⟩ hj W), st mo ⟨dk, st mo ?_⟩⟩
      refine ⟨_, r_eqB false false, fun _ => st mo ?_, fun h => absurd h (by decide)⟩
      refine ⟨_, fun nn => r_call (t := dw (n * 10 ^ i + m * 10 ^ j)) rfl rfl Tryz.func194 (fun W M E => p_addD _ _ W), st mo ?_⟩
      refine ⟨_, fun nn => r_call (t := r.y) rfl rfl Tryz.func189 (fun W M E => p_dfit' hr bZ W), st mo ⟨dk, st mo ?_⟩⟩
      rfl
    · refine fn_pure [dcl litT n s, dcl litT m t] Tryz.func169 rfl rfl rfl (run_ok (st mo ?_))
      refine ⟨_, fun nn => r_call (t := .int .i64 0) rfl rfl Tryz.func185 (fun W M E => p_ckb true n s true m t hn hm h1 h2 W), st mo ⟨fun h => absurd h (by decide), fun _ => st mo ?_⟩⟩
      refine ⟨_, fun nn => r_max s t, st mo ?_⟩
      refine ⟨_, fun nn => r_call (t := dw (n * 10 ^ i)) rfl rfl Tryz.func193 (fun W M E => p_lift true n s _ i hn ⟨s0, hS⟩ hi W), st mo ?_⟩
      refine ⟨_, fun nn => r_call (t := dw (m * 10 ^ j)) rfl rfl Tryz.func193 (fun W M E => p_lift true m t _ j hm ⟨t0, hS⟩ hj W), st mo ⟨dk, st mo ?_⟩⟩
      refine ⟨_, r_eqB true true, fun _ => st mo ?_, fun h => absurd h (by decide)⟩
      refine ⟨_, fun nn => r_call (t := dw (n * 10 ^ i + m * 10 ^ j)) rfl rfl Tryz.func194 (fun W M E => p_addD _ _ W), st mo ?_⟩
      refine ⟨_, fun nn => r_call (t := r.y) rfl rfl Tryz.func189 (fun W M E => p_dfit' hr bZ W), st mo ⟨dk, st mo ?_⟩⟩
      rfl
  · obtain rfl : c = !b := by cases b <;> cases c <;> simp_all
    rw [addR_diff b hi hj]
    by_cases hlt : n * 10 ^ i < m * 10 ^ j
    · rw [if_pos hlt]
      have hc : cm (n * 10 ^ i) (m * 10 ^ j) = -1 := if_pos hlt
      have bZ : 0 ≤ m * 10 ^ j - n * 10 ^ i ∧ m * 10 ^ j - n * 10 ^ i < MM * MM := ⟨by omega, by unfold MM at *; omega⟩
      generalize hr : fxR (!b) (m * 10 ^ j - n * 10 ^ i) (max s t) = r
      cases b
      · refine fn_pure [dcl litF n s, dcl litT m t] Tryz.func169 rfl rfl rfl (run_ok (st mo ?_))
        refine ⟨_, fun nn => r_call (t := .int .i64 0) rfl rfl Tryz.func185 (fun W M E => p_ckb false n s true m t hn hm h1 h2 W), st mo ⟨fun h => absurd h (by decide), fun _ => st mo ?_⟩⟩
        refine ⟨_, fun nn => r_max s t, st mo ?_⟩
        refine ⟨_, fun nn => r_call (t := dw (n * 10 ^ i)) rfl rfl Tryz.func193 (fun W M E => p_lift false n s _ i hn ⟨s0, hS⟩ hi W), st mo ?_⟩
        refine ⟨_, fun nn => r_call (t := dw (m * 10 ^ j)) rfl rfl Tryz.func193 (fun W M E => p_lift true m t _ j hm ⟨t0, hS⟩ hj W), st mo ⟨dk, st mo ?_⟩⟩
        refine ⟨_, r_eqB false true, fun h => absurd h (by decide), fun _ => st mo ?_⟩
        refine ⟨_, fun nn => r_call (t := .int .i64 (-1)) rfl rfl Tryz.func195 (fun W M E => hc ▸ p_cmpD _ _ (lift_w bX) (lift_w bY) W), st mo ?_⟩
        refine ⟨fun _ => st mo ?_, fun h => absurd h (by decide)⟩
        refine ⟨_, fun nn => r_call (t := dw (m * 10 ^ j - n * 10 ^ i)) rfl rfl Tryz.func196 (fun W M E => p_subD _ _ W), st mo ?_⟩
        refine ⟨_, fun nn => r_call (t := r.y) rfl rfl Tryz.func189 (fun W M E => p_dfit' hr bZ W), st mo ⟨dk, st mo ?_⟩⟩
        rfl
      · refine fn_pure [dcl litT n s, dcl litF m t] Tryz.func169 rfl rfl rfl (run_ok (st mo ?_))
        refine ⟨_, fun nn => r_call (t := .int .i64 0) rfl rfl Tryz.func185 (fun W M E => p_ckb true n s false m t hn hm h1 h2 W), st mo ⟨fun h => absurd h (by decide), fun _ => st mo ?_⟩⟩
        refine ⟨_, fun nn => r_max s t, st mo ?_⟩
        refine ⟨_, fun nn => r_call (t := dw (n * 10 ^ i)) rfl rfl Tryz.func193 (fun W M E => p_lift true n s _ i hn ⟨s0, hS⟩ hi W), st mo ?_⟩
        refine ⟨_, fun nn => r_call (t := dw (m * 10 ^ j)) rfl rfl Tryz.func193 (fun W M E => p_lift false m t _ j hm ⟨t0, hS⟩ hj W), st mo ⟨dk, st mo ?_⟩⟩
        refine ⟨_, r_eqB true false, fun h => absurd h (by decide), fun _ => st mo ?_⟩
        refine ⟨_, fun nn => r_call (t := .int .i64 (-1)) rfl rfl Tryz.func195 (fun W M E => hc ▸ p_cmpD _ _ (lift_w bX) (lift_w bY) W), st mo ?_⟩
        refine ⟨fun _ => st mo ?_, fun h => absurd h (by decide)⟩
        refine ⟨_, fun nn => r_call (t := dw (m * 10 ^ j - n * 10 ^ i)) rfl rfl Tryz.func196 (fun W M E => p_subD _ _ W), st mo ?_⟩
        refine ⟨_, fun nn => r_call (t := r.y) rfl rfl Tryz.func189 (fun W M E => p_dfit' hr bZ W), st mo ⟨dk, st mo ?_⟩⟩
        rfl
    · rw [if_neg hlt]
      have hc : 0 ≤ cm (n * 10 ^ i) (m * 10 ^ j) := by unfold cm; rw [if_neg hlt]; split <;> decide
      have bZ : 0 ≤ n * 10 ^ i - m * 10 ^ j ∧ n * 10 ^ i - m * 10 ^ j < MM * MM := ⟨by omega, by unfold MM at *; omega⟩
      generalize hr : fxR b (n * 10 ^ i - m * 10 ^ j) (max s t) = r
      cases b
      · refine fn_pure [dcl litF n s, dcl litT m t] Tryz.func169 rfl rfl rfl (run_ok (st mo ?_))
        refine ⟨_, fun nn => r_call (t := .int .i64 0) rfl rfl Tryz.func185 (fun W M E => p_ckb false n s true m t hn hm h1 h2 W), st mo ⟨fun h => absurd h (by decide), fun _ => st mo ?_⟩⟩
        refine ⟨_, fun nn => r_max s t, st mo ?_⟩
        refine ⟨_, fun nn => r_call (t := dw (n * 10 ^ i)) rfl rfl Tryz.func193 (fun W M E => p_lift false n s _ i hn ⟨s0, hS⟩ hi W), st mo ?_⟩
        refine ⟨_, fun nn => r_call (t := dw (m * 10 ^ j)) rfl rfl Tryz.func193 (fun W M E => p_lift true m t _ j hm ⟨t0, hS⟩ hj W), st mo ⟨dk, st mo ?_⟩⟩
        refine ⟨_, r_eqB false true, fun h => absurd h (by decide), fun _ => st mo ?_⟩
        refine ⟨_, fun nn => r_call (t := .int .i64 (cm (n * 10 ^ i) (m * 10 ^ j))) rfl rfl Tryz.func195 (fun W M E => p_cmpD _ _ (lift_w bX) (lift_w bY) W), st mo ?_⟩
        refine ⟨fun h => absurd h (by omega), fun _ => st mo ?_⟩
        refine ⟨_, fun nn => r_call (t := dw (n * 10 ^ i - m * 10 ^ j)) rfl rfl Tryz.func196 (fun W M E => p_subD _ _ W), st mo ?_⟩
        refine ⟨_, fun nn => r_call (t := r.y) rfl rfl Tryz.func189 (fun W M E => p_dfit' hr bZ W), st mo ⟨dk, st mo ?_⟩⟩
        rfl
      · refine fn_pure [dcl litT n s, dcl litF m t] Tryz.func169 rfl rfl rfl (run_ok (st mo ?_))
        refine ⟨_, fun nn => r_call (t := .int .i64 0) rfl rfl Tryz.func185 (fun W M E => p_ckb true n s false m t hn hm h1 h2 W), st mo ⟨fun h => absurd h (by decide), fun _ => st mo ?_⟩⟩
        refine ⟨_, fun nn => r_max s t, st mo ?_⟩
        refine ⟨_, fun nn => r_call (t := dw (n * 10 ^ i)) rfl rfl Tryz.func193 (fun W M E => p_lift true n s _ i hn ⟨s0, hS⟩ hi W), st mo ?_⟩
        refine ⟨_, fun nn => r_call (t := dw (m * 10 ^ j)) rfl rfl Tryz.func193 (fun W M E => p_lift false m t _ j hm ⟨t0, hS⟩ hj W), st mo ⟨dk, st mo ?_⟩⟩
        refine ⟨_, r_eqB true false, fun h => absurd h (by decide), fun _ => st mo ?_⟩
        refine ⟨_, fun nn => r_call (t := .int .i64 (cm (n * 10 ^ i) (m * 10 ^ j))) rfl rfl Tryz.func195 (fun W M E => p_cmpD _ _ (lift_w bX) (lift_w bY) W), st mo ?_⟩
        refine ⟨fun h => absurd h (by omega), fun _ => st mo ?_⟩
        refine ⟨_, fun nn => r_call (t := dw (n * 10 ^ i - m * 10 ^ j)) rfl rfl Tryz.func196 (fun W M E => p_subD _ _ W), st mo ?_⟩
        refine ⟨_, fun nn => r_call (t := r.y) rfl rfl Tryz.func189 (fun W M E => p_dfit' hr bZ W), st mo ⟨dk, st mo ?_⟩⟩
        rfl
theorem neg_ck {c : Bool} {m t : Int} (h : ck c m t = 0) : ck (!c && !decide (m = 0)) m t = 0 := ck_ok (ck_s h) (by simp)
theorem neg_sgn {c : Bool} {m t : Int} (h : ck c m t = 0) : sgn (!c && !decide (m = 0)) m = -(sgn c m) := by
  have := (ck_0 h).2
  unfold sgn
  by_cases q : m = 0
  · subst q; cases c <;> rfl
  · cases c <;> simp [q]
set_option maxRecDepth 20000 in
theorem p_dneg (b : Bool) (n s : Int) (hn : 0 ≤ n ∧ n < MM) (h1 : ck b n s = 0) (w : World) : Calls Tryz.prog 136 #[dc b n s] w fun r W => r = .returned (negR b n s).v ∧ Mb w W := by
  cases b
  · refine fn_pure [dcl litF n s] Tryz.func136 rfl rfl rfl (run_ok (st mo ?_))
    refine ⟨_, fun nn => r_call (t := .int .i64 0) rfl rfl Tryz.func157 (fun W M E => p_dck' h1 hn W), st mo ⟨fun h => absurd h (by decide), fun _ => st mo ?_⟩⟩
    refine ⟨_, fun nn => r_call (t := dc (true && !decide (n = 0)) n s) rfl rfl Tryz.func168 (fun W M E => p_sgnd true n s hn W), st mo ?_⟩
    rfl
  · refine fn_pure [dcl litT n s] Tryz.func136 rfl rfl rfl (run_ok (st mo ?_))
    refine ⟨_, fun nn => r_call (t := .int .i64 0) rfl rfl Tryz.func157 (fun W M E => p_dck' h1 hn W), st mo ⟨fun h => absurd h (by decide), fun _ => st mo ?_⟩⟩
    refine ⟨_, fun nn => r_call (t := dc (false && !decide (n = 0)) n s) rfl rfl Tryz.func168 (fun W M E => p_sgnd false n s hn W), st mo ?_⟩
    rfl
set_option maxRecDepth 20000 in
theorem p_sub (b : Bool) (n s : Int) (c : Bool) (m t : Int) (hn : 0 ≤ n ∧ n < MM) (hm : 0 ≤ m ∧ m < MM) (h1 : ck b n s = 0) (h2 : ck c m t = 0) (w : World) : Calls Tryz.prog 170 #[dc b n s, dc c m t] w fun r W => r = .returned (subR b n s c m t).v ∧ Mb w W := by
  have e : subR b n s c m t = addR b n s (!c && !decide (m = 0)) m t := by unfold subR addR; rw [neg_sgn h2]
  refine fn_pure [dc b n s, dc c m t] Tryz.func170 rfl rfl rfl (run_ok (st mo ?_))
  refine ⟨_, fun nn => r_call (t := (negR c m t).y) rfl rfl Tryz.func136 (fun W M E => p_dneg c m t hm h2 W), st mo ?_⟩
  refine ⟨fun h => absurd (show (negR c m t).e = 0 from rfl) h, fun _ => st mo ?_⟩
  refine ⟨_, fun nn => r_call (t := (addR b n s (!c && !decide (m = 0)) m t).y) rfl rfl Tryz.func169 (fun W M E => p_add b n s _ m t hn hm h1 (neg_ck h2) W), st mo ?_⟩
  show _ = _; rw [e]; rfl
def sg (b : Bool) (n : Int) : Int := if n = 0 then 0 else if b then -1 else 1
set_option maxRecDepth 20000 in
theorem p_sign (b : Bool) (n s : Int) (hn : 0 ≤ n ∧ n < MM) (w : World) : Calls Tryz.prog 198 #[dc b n s] w fun r W => r = .returned (.int .i64 (sg b n)) ∧ Mb w W := by
  cases b
  · refine fn_pure [dcl litF n s] Tryz.func198 rfl rfl rfl (run_ok (st mo ?_))
    refine ⟨_, r_eqN n 0 hn MM_0, fun h => st mo ?_, fun h => st mo ?_⟩
    · show _ = _; rw [sg, if_pos (of_decide_eq_true h)]
    · show _ = _; rw [sg, if_neg (of_decide_eq_false h)]; rfl
  · refine fn_pure [dcl litT n s] Tryz.func198 rfl rfl rfl (run_ok (st mo ?_))
    refine ⟨_, r_eqN n 0 hn MM_0, fun h => st mo ?_, fun h => st mo ?_⟩
    · show _ = _; rw [sg, if_pos (of_decide_eq_true h)]
    · show _ = _; rw [sg, if_neg (of_decide_eq_false h)]; rfl
set_option maxRecDepth 20000 in
theorem p_nan (x : Int) (w : World) : Calls Tryz.prog 211 #[.int .i64 x] w fun r W => r = .returned (.bool false) ∧ Mb w W := by
  refine fn_pure [.int .i64 x] Tryz.func211 rfl rfl rfl (run_ok (st mo ?_))
  refine ⟨fun h => absurd rfl h, fun _ => st mo rfl⟩
set_option maxRecDepth 20000 in
theorem p_cmpI {x y c : Int} (hc : cm x y = c) (w : World) : Calls Tryz.prog 197 #[.int .i64 x, .int .i64 y] w fun r W => r = .returned (.int .i64 c) ∧ Mb w W := by
  subst hc
  refine fn_pure [.int .i64 x, .int .i64 y] Tryz.func197 rfl rfl rfl (run_ok (st mo ?_))
  refine ⟨_, fun nn => r_call (t := litF) rfl rfl Tryz.func211 (fun W M E => p_nan x W), st mo ?_⟩
  refine ⟨_, fun nn => r_call (t := litF) rfl rfl Tryz.func211 (fun W M E => p_nan y W), st mo ⟨fun h => st mo ?_, fun h => st mo ⟨fun h' => st mo ?_, fun h' => st mo ?_⟩⟩⟩
  · show _ = _; rw [cm, if_pos h]
  · show _ = _; rw [cm, if_neg (by omega), if_pos (by omega)]
  · show _ = _; rw [cm, if_neg (by omega), if_neg (by omega)]
/-- Numbers with signs stand as their signs do, else as their sizes. -/
theorem cm_sg {b c : Bool} {n m s t : Int} (h1 : ck b n s = 0) (h2 : ck c m t = 0) (hn : 0 ≤ n) (hm : 0 ≤ m) {i j : Nat} (h : ¬ cm (sg b n) (sg c m) = 0) : cm (sgn b n * 10 ^ i) (sgn c m * 10 ^ j) = cm (sg b n) (sg c m) := by
  have p : ∀ k : Nat, (0 : Int) < 10 ^ k := fun k => Int.pow_pos (by decide)
  have a1 := (ck_0 h1).2
  have a2 := (ck_0 h2).2
  have key : ∀ {b : Bool} {n : Int} (k : Nat), (b = true → ¬ n = 0) → 0 ≤ n → (sgn b n * 10 ^ k = 0 ∧ sg b n = 0) ∨ (0 < sgn b n * 10 ^ k ∧ sg b n = 1) ∨ (sgn b n * 10 ^ k < 0 ∧ sg b n = -1) := by
    intro b n k hb h0
    by_cases q : n = 0
    · subst q; left; cases b <;> simp [sgn, sg]
    · have := Int.mul_pos (show 0 < n by omega) (p k)
      cases b
      · right; left; refine ⟨by unfold sgn; simpa using this, ?_⟩; unfold sg; rw [if_neg q]; rfl
      · right; right; refine ⟨by unfold sgn; simp [Int.neg_mul]; omega, ?_⟩; unfold sg; rw [if_neg q]; rfl
  rcases key i a1 hn with ⟨e1, e2⟩ | ⟨e1, e2⟩ | ⟨e1, e2⟩ <;> rcases key j a2 hm with ⟨f1, f2⟩ | ⟨f1, f2⟩ | ⟨f1, f2⟩ <;> rw [e2, f2] at h ⊢ <;> first | exact absurd rfl h | (unfold cm; repeat (first | omega | split))
theorem cm_sz {b c : Bool} {n m s t : Int} (h1 : ck b n s = 0) (h2 : ck c m t = 0) (hn : 0 ≤ n) (hm : 0 ≤ m) {i j : Nat} (h : cm (sg b n) (sg c m) = 0) : cm (sgn b n * 10 ^ i) (sgn c m * 10 ^ j) = if b then -(cm (n * 10 ^ i) (m * 10 ^ j)) else cm (n * 10 ^ i) (m * 10 ^ j) := by
  have a1 := (ck_0 h1).2
  have a2 := (ck_0 h2).2
  by_cases q : n = 0
  · subst q
    have hb : b = false := by cases b; rfl; exact absurd rfl (a1 rfl)
    subst hb
    by_cases r : m = 0
    · subst r
      have hc : c = false := by cases c; rfl; exact absurd rfl (a2 rfl)
      subst hc; rfl
    · cases c <;> simp [sg, r, cm] at h
  · by_cases r : m = 0
    · subst r; cases b <;> simp [sg, q, cm] at h
    · have hbc : b = c := by cases b <;> cases c <;> simp [sg, q, r, cm] at h ⊢
      subst hbc
      cases b
      · rfl
      · simp only [sgn, if_true, Int.neg_mul]
        unfold cm
        repeat (first | omega | split)
theorem cm_b (a b : Int) : -1 ≤ cm a b ∧ cm a b ≤ 1 := by unfold cm; repeat (first | omega | split)
set_option maxRecDepth 20000 in
theorem p_dcmp (b : Bool) (n s : Int) (c : Bool) (m t : Int) (hn : 0 ≤ n ∧ n < MM) (hm : 0 ≤ m ∧ m < MM) (h1 : ck b n s = 0) (h2 : ck c m t = 0) (w : World) : Calls Tryz.prog 172 #[dc b n s, dc c m t] w fun r W => r = .returned (.int .i64 (cmpR b n s c m t)) ∧ Mb w W := by
  obtain ⟨i, j, hi, hj, hi8, hj8, s0, t0, hS⟩ := lifts (ck_s h1) (ck_s h2)
  have bX := lift_b hn hi8
  have bY := lift_b hm hj8
  have e1 := cm_sg (i := i) (j := j) h1 h2 hn.1 hm.1
  have e2 := cm_sz (i := i) (j := j) h1 h2 hn.1 hm.1
  have e : cmpR b n s c m t = cm (sgn b n * 10 ^ i) (sgn c m * 10 ^ j) := by unfold cmpR; rw [hi, hj]; rfl
  rw [e]; clear e
  have hb := cm_b (n * 10 ^ i) (m * 10 ^ j)
  cases b
  · refine fn_pure [dcl litF n s, dc c m t] Tryz.func172 rfl rfl rfl (run_ok (st mo ?_))
    refine ⟨_, fun nn => r_call (t := .int .i64 0) rfl rfl Tryz.func185 (fun W M E => p_ckb false n s c m t hn hm h1 h2 W), st mo ⟨fun h => absurd rfl h, fun _ => st mo ?_⟩⟩
    refine ⟨_, fun nn => r_call (t := .int .i64 (sg false n)) rfl rfl Tryz.func198 (fun W M E => p_sign false n s hn W), st mo ?_⟩
    refine ⟨_, fun nn => r_call (t := .int .i64 (sg c m)) rfl rfl Tryz.func198 (fun W M E => p_sign c m t hm W), st mo ?_⟩
    refine ⟨_, fun nn => r_call (t := .int .i64 (cm (sg false n) (sg c m))) rfl rfl Tryz.func197 (fun W M E => p_cmpI rfl W), st mo ⟨dk, st mo ⟨fun h => st mo ?_, fun h => st mo ?_⟩⟩⟩
    · show _ = _; rw [e1 h]
    · refine ⟨_, fun nn => r_max s t, st mo ?_⟩
      refine ⟨_, fun nn => r_call (t := dw (n * 10 ^ i)) rfl rfl Tryz.func193 (fun W M E => p_lift false n s _ i hn ⟨s0, hS⟩ hi W), st mo ?_⟩
      refine ⟨_, fun nn => r_call (t := dw (m * 10 ^ j)) rfl rfl Tryz.func193 (fun W M E => p_lift c m t _ j hm ⟨t0, hS⟩ hj W), st mo ?_⟩
      refine ⟨_, fun nn => r_call (t := .int .i64 (cm (n * 10 ^ i) (m * 10 ^ j))) rfl rfl Tryz.func195 (fun W M E => p_cmpD _ _ (lift_w bX) (lift_w bY) W), st mo ⟨dk, st mo ?_⟩⟩
      rw [e2 h]
      exact rfl
  · refine fn_pure [dcl litT n s, dc c m t] Tryz.func172 rfl rfl rfl (run_ok (st mo ?_))
    refine ⟨_, fun nn => r_call (t := .int .i64 0) rfl rfl Tryz.func185 (fun W M E => p_ckb true n s c m t hn hm h1 h2 W), st mo ⟨fun h => absurd rfl h, fun _ => st mo ?_⟩⟩
    refine ⟨_, fun nn => r_call (t := .int .i64 (sg true n)) rfl rfl Tryz.func198 (fun W M E => p_sign true n s hn W), st mo ?_⟩
    refine ⟨_, fun nn => r_call (t := .int .i64 (sg c m)) rfl rfl Tryz.func198 (fun W M E => p_sign c m t hm W), st mo ?_⟩
    refine ⟨_, fun nn => r_call (t := .int .i64 (cm (sg true n) (sg c m))) rfl rfl Tryz.func197 (fun W M E => p_cmpI rfl W), st mo ⟨dk, st mo ⟨fun h => st mo ?_, fun h => st mo ?_⟩⟩⟩
    · show _ = _; rw [e1 h]
    · refine ⟨_, fun nn => r_max s t, st mo ?_⟩
      refine ⟨_, fun nn => r_call (t := dw (n * 10 ^ i)) rfl rfl Tryz.func193 (fun W M E => p_lift true n s _ i hn ⟨s0, hS⟩ hi W), st mo ?_⟩
      refine ⟨_, fun nn => r_call (t := dw (m * 10 ^ j)) rfl rfl Tryz.func193 (fun W M E => p_lift c m t _ j hm ⟨t0, hS⟩ hj W), st mo ?_⟩
      refine ⟨_, fun nn => r_call (t := .int .i64 (cm (n * 10 ^ i) (m * 10 ^ j))) rfl rfl Tryz.func195 (fun W M E => p_cmpD _ _ (lift_w bX) (lift_w bY) W), st mo ⟨dk, st mo ?_⟩⟩
      rw [e2 h]
      exact ⟨-(cm (n * 10 ^ i) (m * 10 ^ j)), (by rw [wi (by omega)]; omega), st mo rfl⟩
def rkE (S p : Int) : Int := if sc S then (if 1 ≤ p ∧ p ≤ 5 then 0 else 22) else 21
set_option maxRecDepth 20000 in
theorem p_ckR (S p : Int) (w : World) : Calls Tryz.prog 186 #[.int .i64 S, .int .i64 p] w fun r W => r = .returned (.int .i64 (rkE S p)) ∧ Mb w W := by
  refine fn_pure [.int .i64 S, .int .i64 p] Tryz.func186 rfl rfl rfl (run_ok (st mo ?_))
  cases hs : sc S with
  | false =>
    refine ⟨_, fun nn => r_call (t := litF) rfl rfl Tryz.func184 (fun W M E => p_isSc' hs W), st mo ?_⟩
    show _ = _; rw [rkE, hs]; rfl
  | true =>
    refine ⟨_, fun nn => r_call (t := litT) rfl rfl Tryz.func184 (fun W M E => p_isSc' hs W), st mo ?_⟩
    refine ⟨fun h => st mo ?_, fun h1 => st mo ⟨fun h => st mo ?_, fun h2 => st mo ⟨fun h => st mo ?_, fun h3 => st mo ⟨fun h => st mo ?_, fun h4 => st mo ⟨fun h => st mo ?_, fun h5 => st mo ?_⟩⟩⟩⟩⟩
    iterate 5 (show _ = _; rw [rkE, hs, if_pos rfl, if_pos (by omega)])
    show _ = _; rw [rkE, hs, if_pos rfl, if_neg (by omega)]
set_option maxRecDepth 20000 in
theorem p_half (r d : Int) (hr : 0 ≤ r ∧ r + r < MM) (hd : 0 ≤ d ∧ d < MM) (w : World) : Calls Tryz.prog 222 #[nv r, nv d] w fun e W => e = .returned (.int .i64 (cm (r + r) d)) ∧ Mb w W := by
  refine fn_pure [nv r, nv d] Tryz.func222 rfl rfl rfl (run_ok (st mo ?_))
  refine ⟨_, fun nn => r_call (t := .tuple #[nv (r + r), .bool (decide (MM ≤ r % MM + r % MM))]) rfl rfl Tryz.func207 (fun W M E => add_c r r W), st mo ?_⟩
  refine ⟨_, fun nn => r_call (t := .int .i64 (cm (r + r) d)) rfl rfl Tryz.func209 (fun W M E => cmp_c ⟨by omega, hr.2⟩ hd rfl W), st mo ?_⟩
  rfl
theorem cm_g {a b : Int} : (0 ≤ cm a b ↔ b ≤ a) ∧ (0 < cm a b ↔ b < a) ∧ (cm a b = 0 ↔ a = b) := by
  unfold cm
  refine ⟨?_, ?_, ?_⟩ <;> (repeat (first | omega | split))
set_option maxRecDepth 20000 in
theorem p_away (b : Bool) (q r d p : Int) (hr : 0 ≤ r ∧ r + r < MM) (hd : 0 ≤ d ∧ d < MM) (w : World) : Calls Tryz.prog 206 #[.bool b, nv q, nv r, nv d, .int .i64 p] w fun e W => e = .returned (.bool (aw b q r d p)) ∧ Mb w W := by
  obtain ⟨g1, g2, g3⟩ := @cm_g (r + r) d
  cases b
  · refine fn_pure [litF, nv q, nv r, nv d, .int .i64 p] Tryz.func206 rfl rfl rfl (run_ok (st mo ?_))
    refine ⟨_, r_eqN r 0 ⟨hr.1, by omega⟩ MM_0, fun h => st mo ?_, fun h0 => st mo ?_⟩
    · show _ = _; rw [aw, if_pos (of_decide_eq_true h)]
    have h0 := of_decide_eq_false h0
    refine ⟨fun h1 => st mo ?_, fun h1 => st mo ⟨fun h2 => st mo ?_, fun h2 => st mo ⟨fun h4 => st mo ?_, fun h4 => st mo ⟨fun h5 => st mo ?_, fun h5 => st mo ?_⟩⟩⟩⟩
    · refine ⟨_, fun nn => r_call (t := .int .i64 (cm (r + r) d)) rfl rfl Tryz.func222 (fun W M E => p_half r d hr hd W), st mo ⟨fun h => st mo ?_, fun h => st mo ?_⟩⟩
      · show _ = _; rw [aw, if_neg h0, if_pos h1, decide_eq_true (g1.1 h)]
      · show _ = _; rw [aw, if_neg h0, if_pos h1, decide_eq_false (by omega)]
    · refine ⟨_, fun nn => r_call (t := .int .i64 (cm (r + r) d)) rfl rfl Tryz.func222 (fun W M E => p_half r d hr hd W), st mo ⟨fun h => st mo ?_, fun h => st mo ⟨fun g => st mo ?_, fun g => st mo ?_⟩⟩⟩
      · show _ = _; rw [aw, if_neg h0, if_neg h1, if_pos h2, decide_eq_true (g2.1 h)]; rfl
      · cases ho : decide (q % 2 = 1) with
        | true =>
          refine ⟨_, fun nn => r_call (t := litT) rfl rfl Tryz.func223 (fun W M E => p_odd' ho W), st mo ?_⟩
          show _ = _; rw [aw, if_neg h0, if_neg h1, if_pos h2, decide_eq_true (g3.1 g), ho]; simp
        | false =>
          refine ⟨_, fun nn => r_call (t := litF) rfl rfl Tryz.func223 (fun W M E => p_odd' ho W), st mo ?_⟩
          show _ = _; rw [aw, if_neg h0, if_neg h1, if_pos h2, decide_eq_false (by omega : ¬ d < r + r), ho]; simp
      · show _ = _; rw [aw, if_neg h0, if_neg h1, if_pos h2, decide_eq_false (by omega), decide_eq_false (by omega)]; rfl
    · show _ = _; rw [aw, if_neg h0, if_neg h1, if_neg h2, if_pos h4]
    · show _ = _; rw [aw, if_neg h0, if_neg h1, if_neg h2, if_neg h4, if_pos h5]
    · show _ = _; rw [aw, if_neg h0, if_neg h1, if_neg h2, if_neg h4, if_neg h5]
  · refine fn_pure [litT, nv q, nv r, nv d, .int .i64 p] Tryz.func206 rfl rfl rfl (run_ok (st mo ?_))
    refine ⟨_, r_eqN r 0 ⟨hr.1, by omega⟩ MM_0, fun h => st mo ?_, fun h0 => st mo ?_⟩
    · show _ = _; rw [aw, if_pos (of_decide_eq_true h)]
    have h0 := of_decide_eq_false h0
    refine ⟨fun h1 => st mo ?_, fun h1 => st mo ⟨fun h2 => st mo ?_, fun h2 => st mo ⟨fun h4 => st mo ?_, fun h4 => st mo ⟨fun h5 => st mo ?_, fun h5 => st mo ?_⟩⟩⟩⟩
    · refine ⟨_, fun nn => r_call (t := .int .i64 (cm (r + r) d)) rfl rfl Tryz.func222 (fun W M E => p_half r d hr hd W), st mo ⟨fun h => st mo ?_, fun h => st mo ?_⟩⟩
      · show _ = _; rw [aw, if_neg h0, if_pos h1, decide_eq_true (g1.1 h)]
      · show _ = _; rw [aw, if_neg h0, if_pos h1, decide_eq_false (by omega)]
    · refine ⟨_, fun nn => r_call (t := .int .i64 (cm (r + r) d)) rfl rfl Tryz.func222 (fun W M E => p_half r d hr hd W), st mo ⟨fun h => st mo ?_, fun h => st mo ⟨fun g => st mo ?_, fun g => st mo ?_⟩⟩⟩
      · show _ = _; rw [aw, if_neg h0, if_neg h1, if_pos h2, decide_eq_true (g2.1 h)]; rfl
      · cases ho : decide (q % 2 = 1) with
        | true =>
          refine ⟨_, fun nn => r_call (t := litT) rfl rfl Tryz.func223 (fun W M E => p_odd' ho W), st mo ?_⟩
          show _ = _; rw [aw, if_neg h0, if_neg h1, if_pos h2, decide_eq_true (g3.1 g), ho]; simp
        | false =>
          refine ⟨_, fun nn => r_call (t := litF) rfl rfl Tryz.func223 (fun W M E => p_odd' ho W), st mo ?_⟩
          show _ = _; rw [aw, if_neg h0, if_neg h1, if_pos h2, decide_eq_false (by omega : ¬ d < r + r), ho]; simp
      · show _ = _; rw [aw, if_neg h0, if_neg h1, if_pos h2, decide_eq_false (by omega), decide_eq_false (by omega)]; rfl
    · show _ = _; rw [aw, if_neg h0, if_neg h1, if_neg h2, if_pos h4]
    · show _ = _; rw [aw, if_neg h0, if_neg h1, if_neg h2, if_neg h4, if_pos h5]
    · show _ = _; rw [aw, if_neg h0, if_neg h1, if_neg h2, if_neg h4, if_neg h5]
end Go.Proofs.YtfmfeipeeedfpaaGreat
