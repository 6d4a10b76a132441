/-
  A part of the proof.
-/
import Derived.Test.YthpekbohmfmffaaEqs
import Derived.Test.YthpekbohmfmffaaDec3b
import Derived.Test.YthpekbohmfmffaaDec2a
import Derived.Deep.MidRow
import Derived.Test.YthpekbohmfmffaaWp
import Derived.Test.YthpekbohmfmffaaNf
import Derived.Test.YthpekbohmfmffaaBit
import Derived.Test.YthpekbohmfmffaaShm
import Derived.LoopN
import Derived.BigCall
import Derived.Test.YthpekbohmfmffaaDec3a
/-
  decimal.addDouble: the walk.
-/
namespace Go.Proofs.Ythpekbohmfmffaa
open Go.RowKit
theorem dsum {X Y : Int} (hX0 : 0 ≤ X) (hX : X < MM * MM) (hY0 : 0 ≤ Y) (hY : Y < MM * MM) :
    nv (X % MM + Y % MM) = nv (X + Y) ∧ ((ov (X % MM + Y % MM) = false ∧ nv (X / MM % MM + Y / MM % MM) = nv ((X + Y) / MM)) ∨ (ov (X % MM + Y % MM) = true ∧ nv ((X / MM % MM + Y / MM % MM) % MM + 1 % MM) = nv ((X + Y) / MM))) := by
  have p : (0 : Int) < MM := by decide
  have a1 := Int.ediv_nonneg hX0 (show (0 : Int) ≤ MM by omega)
  have a2 := Int.ediv_lt_of_lt_mul p hX
  have b1 := Int.ediv_nonneg hY0 (show (0 : Int) ≤ MM by omega)
  have b2 := Int.ediv_lt_of_lt_mul p hY
  rw [Int.emod_eq_of_lt a1 a2, Int.emod_eq_of_lt b1 b2]
  refine ⟨nv_add_mod X Y, ?_⟩
  have eX := Int.mul_ediv_add_emod X MM
  have eY := Int.mul_ediv_add_emod Y MM
  have cX := Int.emod_nonneg X (show MM ≠ 0 by omega)
  have dX := Int.emod_lt_of_pos X p
  have cY := Int.emod_nonneg Y (show MM ≠ 0 by omega)
  have dY := Int.emod_lt_of_pos Y p
  by_cases h : MM ≤ X % MM + Y % MM
  · refine Or.inr ⟨decide_eq_true h, ?_⟩
    rw [nv_add_mod]
    congr 1
    unfold MM at *
    omega
  · refine Or.inl ⟨decide_eq_false h, ?_⟩
    congr 1
    unfold MM at *
    omega
theorem AtW.set178 {w : World} {k j : Nat} {X : Int} (h : AtW w j X) (hk : j ≠ k) (o : Nat) (v : Value) : AtW (w.setCell ⟨k, o, none⟩ v) j X := by
  obtain ⟨⟨b0, b1, b2, b3, b4, b5, b6, b7⟩, f, s⟩ := h
  refine ⟨by simp [go_sem, *], fun o => by simp [World.frozen?_setCell, f o], by simpa [World.setCell] using s⟩
theorem dw_of78 {h l Z : Int} (h1 : nv h = nv (Z / MM)) (h2 : nv l = nv Z) : (Value.agg #[.int .u64 (l0 (h)), .int .u64 (l1 (h)), .int .u64 (l2 (h)), .int .u64 (l3 (h)), .int .u64 (l0 (l)), .int .u64 (l1 (l)), .int .u64 (l2 (l)), .int .u64 (l3 (l))]) = dw Z := by
  simp [nv] at h1 h2
  simp [h1, h2]
end Go.Proofs.Ythpekbohmfmffaa
/-
  decimal.subDouble: the walk.
-/
namespace Go.Proofs.Ythpekbohmfmffaa
open Go.RowKit
theorem ddif {X Y : Int} (hX0 : 0 ≤ X) (hX : X < MM * MM) (hY0 : 0 ≤ Y) (hY : Y < MM * MM) :
    nv (X % MM - Y % MM) = nv (X - Y) ∧ ((un (X % MM - Y % MM) = false ∧ nv (X / MM % MM - Y / MM % MM) = nv ((X - Y) / MM)) ∨ (un (X % MM - Y % MM) = true ∧ nv ((X / MM % MM - Y / MM % MM) % MM - 1 % MM) = nv ((X - Y) / MM))) := by
  have p : (0 : Int) < MM := by decide
  have a1 := Int.ediv_nonneg hX0 (show (0 : Int) ≤ MM by omega)
  have a2 := Int.ediv_lt_of_lt_mul p hX
  have b1 := Int.ediv_nonneg hY0 (show (0 : Int) ≤ MM by omega)
  have b2 := Int.ediv_lt_of_lt_mul p hY
  have em : ∀ a b : Int, nv (a % MM - b % MM) = nv (a - b) := fun a b => by rw [← nv_mod (a % MM - b % MM), ← nv_mod (a - b), ← Int.sub_emod]
  rw [Int.emod_eq_of_lt a1 a2, Int.emod_eq_of_lt b1 b2]
  refine ⟨em X Y, ?_⟩
  have eX := Int.mul_ediv_add_emod X MM
  have eY := Int.mul_ediv_add_emod Y MM
  have cX := Int.emod_nonneg X (show MM ≠ 0 by omega)
  have dX := Int.emod_lt_of_pos X p
  have cY := Int.emod_nonneg Y (show MM ≠ 0 by omega)
  have dY := Int.emod_lt_of_pos Y p
  by_cases h : X % MM - Y % MM < 0
  · refine Or.inr ⟨decide_eq_true h, ?_⟩
    rw [em]
    congr 1
    unfold MM at *
    omega
  · refine Or.inl ⟨decide_eq_false h, ?_⟩
    congr 1
    unfold MM at *
    omega
theorem AtW.set180 {w : World} {k j : Nat} {X : Int} (h : AtW w j X) (hk : j ≠ k) (o : Nat) (v : Value) : AtW (w.setCell ⟨k, o, none⟩ v) j X := by
  obtain ⟨⟨b0, b1, b2, b3, b4, b5, b6, b7⟩, f, s⟩ := h
  refine ⟨by simp [go_sem, *], fun o => by simp [World.frozen?_setCell, f o], by simpa [World.setCell] using s⟩
theorem dw_of80 {h l Z : Int} (h1 : nv h = nv (Z / MM)) (h2 : nv l = nv Z) : (Value.agg #[.int .u64 (l0 (h)), .int .u64 (l1 (h)), .int .u64 (l2 (h)), .int .u64 (l3 (h)), .int .u64 (l0 (l)), .int .u64 (l1 (l)), .int .u64 (l2 (l)), .int .u64 (l3 (l))]) = dw Z := by
  simp [nv] at h1 h2
  simp [h1, h2]
end Go.Proofs.Ythpekbohmfmffaa
/-
  Decimals as whole numbers with a scale; decimal.fit by them.
-/
namespace Go.Proofs.Ythpekbohmfmffaa
open Go.RowKit
/-- A whole number's size. -/
def ab (v : Int) : Int := if v < 0 then -v else v
/-- The decimal of a whole number and a scale. -/
abbrev dz (v s : Int) : Value := dc (decide (v < 0)) (ab v) s
theorem ab_nn (v : Int) : 0 ≤ ab v := by unfold ab; split <;> omega
theorem ck_dz {v s : Int} (h : sc s = true) : ck (decide (v < 0)) (ab v) s = 0 := by
  unfold ck
  rw [h]
  have : (decide (v < 0) && decide (ab v = 0)) = false := by
    unfold ab
    by_cases hv : v < 0
    · rw [if_pos hv, decide_eq_false (p := -v = 0) (by omega)]; simp
    · rw [decide_eq_false hv]; rfl
  rw [this]; rfl
theorem sc_iff {s : Int} : sc s = true ↔ 0 ≤ s ∧ s ≤ 18 := by unfold sc; simp
/-- A decimal that may be is one of a whole number. -/
theorem dz_of {b : Bool} {n s : Int} (hn : 0 ≤ n) (h : ck b n s = 0) : sc s = true ∧ ∃ v, ab v = n ∧ decide (v < 0) = b := by
  unfold ck at h
  split at h
  next hh =>
    simp at hh
    refine ⟨hh.1, ?_⟩
    cases b
    · exact ⟨n, by unfold ab; rw [if_neg (by omega)], decide_eq_false (by omega)⟩
    · have : n ≠ 0 := fun e => by simp [e] at hh
      exact ⟨-n, by unfold ab; rw [if_pos (by omega)]; omega, decide_eq_true (by omega)⟩
  next => cases h
/-- What is answered where the whole number has room, or not. -/
def fz (v s : Int) : Value := if ab v < MM then .tuple #[dz v s, .int .i64 0] else er 7
end Go.Proofs.Ythpekbohmfmffaa
/-
  Numbers of twice as many bits as one row of cells: laid and read whole.
-/
namespace Go.Proofs.Ythpekbohmfmffaa
open Go.RowKit
/-- The cells of a number of twice as many bits. -/
def dwa (X : Int) : Array Value := #[.int .u64 (l0 (X / MM)), .int .u64 (l1 (X / MM)), .int .u64 (l2 (X / MM)), .int .u64 (l3 (X / MM)), .int .u64 (l0 X), .int .u64 (l1 X), .int .u64 (l2 X), .int .u64 (l3 X)]
abbrev dx (X : Int) : Value := .agg (dwa X)
theorem dwa_size (X : Int) : (dwa X).size = 8 := rfl
theorem dwa_len (X : Int) : (dwa X).toList.length = 8 := rfl
/-- The block k holds a number of twice as many bits. -/
def AtX (w : World) (k : Nat) (X : Int) : Prop := w.rangeAt k 0 (dwa X).toList ∧ w.there k 0 8 ∧ k < w.heap.size
theorem Mo.there {w w' : World} {k n : Nat} (m : Mo w w') (h : w.there k 0 n) (hk : k < w.heap.size) : w'.there k 0 n := fun j hj => by
  rw [m.cell k _ hk, m.2]; exact h j hj
theorem AtX.mo {w w' : World} {k : Nat} {X : Int} (h : AtX w k X) (m : Mo w w') : AtX w' k X :=
  ⟨fun j v hv => (m.cell k _ h.2.2).trans (h.1 j v hv), m.there h.2.1 h.2.2, Nat.lt_of_lt_of_le h.2.2 m.size⟩
theorem size_setCells (k : Nat) : ∀ (l : List Value) (o : Nat) (w : World), (w.setCells k o l).heap.size = w.heap.size
  | [], _, _ => rfl
  | v :: r, o, w => by rw [World.setCells, size_setCells k r]; simp [World.setCell]
theorem Mo.setCells {a : World} {k : Nat} (hk : a.heap.size ≤ k) : ∀ (l : List Value) (o : Nat) (b : World), Mo a b → Mo a (b.setCells k o l)
  | [], _, _, h => h
  | v :: r, o, b, h => by rw [World.setCells]; exact Mo.setCells hk r (o + 1) _ (h.setCell hk v)
theorem AtX.same {w : World} {k : Nat} (X : Int) (h : w.there k 0 8) (hk : k < w.heap.size) : AtX (w.setCells k 0 (dwa X).toList) k X :=
  ⟨World.rangeAt_setCells_same w k 0 _ (by rw [dwa_len]; exact h), World.there_setCells h k 0 _, by rw [size_setCells]; exact hk⟩
theorem AtX.other {w : World} {k j : Nat} {X : Int} (h : AtX w j X) (hk : j ≠ k) (l : List Value) : AtX (w.setCells k 0 l) j X :=
  ⟨World.rangeAt_setCells_apart h.1 k 0 l (Or.inl hk), World.there_setCells h.2.1 k 0 _, by rw [size_setCells]; exact h.2.2⟩
theorem AtD.other {w : World} {k j : Nat} {b : Bool} {n s : Int} (h : AtD w j b n s) (hk : j ≠ k) (l : List Value) : AtD (w.setCells k 0 l) j b n s := by
  obtain ⟨⟨a0, a1, a2, a3, a4, a5⟩, f, z⟩ := h
  have e : ∀ o, (w.setCells k 0 l).cell? ⟨j, o, none⟩ = w.cell? ⟨j, o, none⟩ := fun o => World.cell?_setCells_out k l 0 w _ (fun hb _ => absurd hb hk)
  exact ⟨by simp only [e]; exact ⟨a0, a1, a2, a3, a4, a5⟩, fun o => by rw [World.frozen?_setCells]; exact f o, by rw [size_setCells]; exact z⟩
theorem there_new (w : World) : (w.alloc (.cells #[.int .u64 0, .int .u64 0, .int .u64 0, .int .u64 0, .int .u64 0, .int .u64 0, .int .u64 0, .int .u64 0] 76)).there w.heap.size 0 8 := fun j hj => by
  have hq : j = 0 ∨ j = 1 ∨ j = 2 ∨ j = 3 ∨ j = 4 ∨ j = 5 ∨ j = 6 ∨ j = 7 := by omega
  rcases hq with rfl | rfl | rfl | rfl | rfl | rfl | rfl | rfl <;> simp [go_sem]
theorem st81 (w : World) (k : Nat) (X : Int) (h : w.there k 0 8) : (storeCells ⟨k, 0, none⟩ (dwa X).toList 0).run Try.prog w = .ok () (w.setCells k 0 (dwa X).toList) := by
  have hh := run_storeAt_mid (P := Try.prog) w k 0 76 (dwa X) (by rw [dwa_size]; exact h) (by rw [dwa_size]; kernel_rfl) (by
    rw [Array.all_eq_true_iff_forall_mem]; intro v hv; simp [dwa] at hv; rcases hv with rfl | rfl | rfl | rfl | rfl | rfl | rfl | rfl <;> rfl)
  have e : (Instr.storeAt 76 (.pointer (some ⟨k, 0, none⟩)) (.agg (dwa X))).run Try.prog w = (storeCells ⟨k, 0, none⟩ (dwa X).toList 0).run Try.prog w := by
    simp [Instr.storeAt, Instr.sureAddr, storeVar, Sem.run_bind, go_sem, Value.cells, dwa_size]
  rw [← e]; exact hh
theorem ld81 (w : World) (k : Nat) (X : Int) (h : w.rangeAt k 0 (dwa X).toList) : (loadCellsFrom ⟨k, 0, none⟩ 0 8 #[]).run Try.prog w = .ok (dwa X) w := by
  have := run_loadCells_list (P := Try.prog) w ⟨k, 0, none⟩ (dwa X).toList (fun j v hv => by rw [Addr.add_mid]; exact h j v hv)
  simpa [loadCells, dwa_len, dwa_size] using this
theorem lift_x (b : Bool) (n s S : Int) (k : Nat) (w : World) (hn0 : 0 ≤ n) (hn : n < MM) (hk : S - s = (k : Int)) (hk7 : k ≤ 77) :
    Calls Try.prog 51 #[dc b n s, .int .i64 S] w fun e w' => e = .returned (dx (n * 10 ^ k)) ∧ Mo w w' := lift_n b n s S k w hn0 hn hk hk7
theorem cmpDouble_x (X Y : Int) (w : World) (hX0 : 0 ≤ X) (hX : X < MM * MM) (hY0 : 0 ≤ Y) (hY : Y < MM * MM) :
    Calls Try.prog 50 #[dx X, dx Y] w fun e w' => e = .returned (.int .i64 (cm X Y)) ∧ Mo w w' := cmpDouble_n X Y w hX0 hX hY0 hY
theorem mulDouble_x (A B : Int) (w : World) (hA0 : 0 ≤ A) (hAM : A < MM) (hB0 : 0 ≤ B) (hBM : B < MM) :
    Calls Try.prog 59 #[nv A, nv B] w fun e w' => e = .returned (dx (A * B)) ∧ Mo w w' := mulDouble_n A B w hA0 hAM hB0 hBM
end Go.Proofs.Ythpekbohmfmffaa
/-
  This program's types: how many cells they have; a builtin.
-/
namespace Go.Proofs.Ythpekbohmfmffaa
theorem sz3 : (Try.prog.info? 3).map (·.size) = some 1 := by kernel_rfl
theorem sz4 : (Try.prog.info? 4).map (·.size) = some 1 := by kernel_rfl
theorem sz24 : (Try.prog.info? 24).map (·.size) = some 4 := by kernel_rfl
theorem sz40 : (Try.prog.info? 26).map (·.size) = some 6 := by kernel_rfl
theorem sz81 : (Try.prog.info? 76).map (·.size) = some 8 := by kernel_rfl
theorem sz87 : (Try.prog.info? 79).map (·.size) = some 8 := by kernel_rfl
theorem max_run (ρ : Operand → Value) (x y : Operand) (a b : Int) (hx : ρ x = .int .i64 a) (hy : ρ y = .int .i64 b) (dst : Option Tmp) (type : TypeId) (pos : String) (after : Array Edge) (guard : Option (Nat × Bool)) (w : World) : (execOp ρ { dst, op := .call { callee := .builtin .max, args := #[x, y], argTypes := #[3, 3] }, type, pos, after, guard }).run Try.prog w = .ok (.value (.int .i64 (max a b))) w := by
  simp [go_sem, hx, hy]
end Go.Proofs.Ythpekbohmfmffaa
/-
  Wide numbers: their limbs; sums limb by limb, and bit by bit.
-/
namespace Go.Proofs.Ythpekbohmfmffaa
open Go.RowKit
def l4 (n : Int) : Int := n / 115792089237316195423570985008687907853269984665640564039457584007913129639936 % 18446744073709551616
theorem dd2 (a : Int) : a / 340282366920938463463374607431768211456 = a / 18446744073709551616 / 18446744073709551616 := by omega
theorem dd3 (a : Int) : a / 6277101735386680763835789423207666416102355444464034512896 = a / 18446744073709551616 / 18446744073709551616 / 18446744073709551616 := by rw [← dd2]; omega
theorem dd4 (a : Int) : a / 115792089237316195423570985008687907853269984665640564039457584007913129639936 = a / 18446744073709551616 / 18446744073709551616 / 18446744073709551616 / 18446744073709551616 := by rw [← dd3]; omega
theorem add_step (a b c : Int) : (a + b + c) % 18446744073709551616 = (a % 18446744073709551616 + b % 18446744073709551616 + c) % 18446744073709551616 ∧ (a + b + c) / 18446744073709551616 = a / 18446744073709551616 + b / 18446744073709551616 + (a % 18446744073709551616 + b % 18446744073709551616 + c) / 18446744073709551616 := by omega
def c1 (a b : Int) : Int := (l0 a + l0 b + 0) / 18446744073709551616
def c2 (a b : Int) : Int := (l1 a + l1 b + c1 a b) / 18446744073709551616
def c3 (a b : Int) : Int := (l2 a + l2 b + c2 a b) / 18446744073709551616
def c4 (a b : Int) : Int := (l3 a + l3 b + c3 a b) / 18446744073709551616
theorem l_bd (a : Int) : (0 ≤ l0 a ∧ l0 a < 18446744073709551616) ∧ (0 ≤ l1 a ∧ l1 a < 18446744073709551616) ∧ (0 ≤ l2 a ∧ l2 a < 18446744073709551616) ∧ (0 ≤ l3 a ∧ l3 a < 18446744073709551616) ∧ (0 ≤ l4 a ∧ l4 a < 18446744073709551616) := by
  unfold l0 l1 l2 l3 l4; omega
theorem c_bd (a b : Int) : (0 ≤ c1 a b ∧ c1 a b ≤ 1) ∧ (0 ≤ c2 a b ∧ c2 a b ≤ 1) ∧ (0 ≤ c3 a b ∧ c3 a b ≤ 1) ∧ (0 ≤ c4 a b ∧ c4 a b ≤ 1) := by
  have ha := l_bd a; have hb := l_bd b
  have h1 : 0 ≤ c1 a b ∧ c1 a b ≤ 1 := by unfold c1; omega
  have h2 : 0 ≤ c2 a b ∧ c2 a b ≤ 1 := by unfold c2; omega
  have h3 : 0 ≤ c3 a b ∧ c3 a b ≤ 1 := by unfold c3; omega
  have h4 : 0 ≤ c4 a b ∧ c4 a b ≤ 1 := by unfold c4; omega
  exact ⟨h1, h2, h3, h4⟩
theorem add_l (a b : Int) : l0 (a + b) = (l0 a + l0 b + 0) % 18446744073709551616 ∧ l1 (a + b) = (l1 a + l1 b + c1 a b) % 18446744073709551616 ∧ l2 (a + b) = (l2 a + l2 b + c2 a b) % 18446744073709551616 ∧ l3 (a + b) = (l3 a + l3 b + c3 a b) % 18446744073709551616 ∧ l4 (a + b) = (l4 a + l4 b + c4 a b) % 18446744073709551616 := by
  have s0 := add_step a b 0
  have s1 := add_step (a / 18446744073709551616) (b / 18446744073709551616) (c1 a b)
  have s2 := add_step (a / 18446744073709551616 / 18446744073709551616) (b / 18446744073709551616 / 18446744073709551616) (c2 a b)
  have s3 := add_step (a / 18446744073709551616 / 18446744073709551616 / 18446744073709551616) (b / 18446744073709551616 / 18446744073709551616 / 18446744073709551616) (c3 a b)
  have s4 := add_step (a / 18446744073709551616 / 18446744073709551616 / 18446744073709551616 / 18446744073709551616) (b / 18446744073709551616 / 18446744073709551616 / 18446744073709551616 / 18446744073709551616) (c4 a b)
  rw [Int.add_zero] at s0
  have e1 : (a + b) / 18446744073709551616 = a / 18446744073709551616 + b / 18446744073709551616 + c1 a b := by rw [s0.2]; simp only [c1, l0]
  have e2 : (a + b) / 18446744073709551616 / 18446744073709551616 = a / 18446744073709551616 / 18446744073709551616 + b / 18446744073709551616 / 18446744073709551616 + c2 a b := by rw [e1, s1.2]; simp only [c2, l1]
  have e3 : (a + b) / 18446744073709551616 / 18446744073709551616 / 18446744073709551616 = a / 18446744073709551616 / 18446744073709551616 / 18446744073709551616 + b / 18446744073709551616 / 18446744073709551616 / 18446744073709551616 + c3 a b := by rw [e2, s2.2]; simp only [c3, l2, dd2]
  have e4 : (a + b) / 18446744073709551616 / 18446744073709551616 / 18446744073709551616 / 18446744073709551616 = a / 18446744073709551616 / 18446744073709551616 / 18446744073709551616 / 18446744073709551616 + b / 18446744073709551616 / 18446744073709551616 / 18446744073709551616 / 18446744073709551616 + c4 a b := by rw [e3, s3.2]; simp only [c4, l3, dd3]
  refine ⟨?_, ?_, ?_, ?_, ?_⟩
  · unfold l0; rw [s0.1]
  · unfold l1; rw [e1, s1.1]
  · unfold l2; rw [dd2, dd2 a, dd2 b, e2, s2.1]
  · unfold l3; rw [dd3, dd3 a, dd3 b, e3, s3.1]
  · unfold l4; rw [dd4, dd4 a, dd4 b, e4, s4.1]
theorem not_l (a : Int) : l0 (-1 - a) = 18446744073709551615 - l0 a ∧ l1 (-1 - a) = 18446744073709551615 - l1 a ∧ l2 (-1 - a) = 18446744073709551615 - l2 a ∧ l3 (-1 - a) = 18446744073709551615 - l3 a ∧ l4 (-1 - a) = 18446744073709551615 - l4 a := by
  have h : ∀ x : Int, (-1 - x) / 18446744073709551616 = -1 - x / 18446744073709551616 := fun x => by omega
  have g : ∀ x : Int, (-1 - x) % 18446744073709551616 = 18446744073709551615 - x % 18446744073709551616 := fun x => by omega
  unfold l0 l1 l2 l3 l4
  rw [dd2, dd2 a, dd3, dd3 a, dd4, dd4 a]
  simp only [h, g, and_self]
def lim (j : Nat) (v : Int) : Int := v / 2 ^ (64 * j) % 18446744073709551616
theorem two_pos (i : Nat) : (0 : Int) < 2 ^ i := Int.pow_pos (by decide)
theorem mod_mul2 (x P : Int) (hP : 0 < P) (k : Int) : x % (P * k) = x % P + P * (x / P % k) := by
  have h1 := Int.emod_def x (P * k)
  have h2 := Int.emod_def x P
  have h3 := Int.emod_def (x / P) k
  rw [h1, h2, h3, ← Int.ediv_ediv_of_nonneg (Int.le_of_lt hP), Int.mul_sub, Int.mul_assoc]; omega
theorem bit_step (a b : Int) (i : Nat) : (a / 2 ^ i % 2 + b / 2 ^ i % 2 + (a % 2 ^ i + b % 2 ^ i) / 2 ^ i) % 2 = (a + b) / 2 ^ i % 2 ∧ (a / 2 ^ i % 2 + b / 2 ^ i % 2 + (a % 2 ^ i + b % 2 ^ i) / 2 ^ i) / 2 = (a % 2 ^ (i + 1) + b % 2 ^ (i + 1)) / 2 ^ (i + 1) := by
  have hP := two_pos i
  rw [Int.pow_succ]
  generalize (2 : Int) ^ i = P at *
  have h2 : (a + b) / P = a / P + b / P + (a % P + b % P) / P := by
    have e : a + b = (a % P + b % P) + P * (a / P + b / P) := by
      have := Int.emod_add_mul_ediv a P; have := Int.emod_add_mul_ediv b P; rw [Int.mul_add]; omega
    have h3 := Int.add_mul_ediv_left (a % P + b % P) (a / P + b / P) (show P ≠ 0 by omega)
    rw [← e] at h3; rw [h3]; omega
  constructor
  · rw [h2]; omega
  · rw [mod_mul2 a P hP, mod_mul2 b P hP]
    have e : a % P + P * (a / P % 2) + (b % P + P * (b / P % 2)) = (a % P + b % P) + P * (a / P % 2 + b / P % 2) := by rw [Int.mul_add]; omega
    rw [e, ← Int.ediv_ediv_of_nonneg (Int.le_of_lt hP), Int.add_mul_ediv_left _ _ (by omega)]
    congr 1; omega
theorem wcarry_bd (a b : Int) (i : Nat) : 0 ≤ (a % 2 ^ i + b % 2 ^ i) / 2 ^ i ∧ (a % 2 ^ i + b % 2 ^ i) / 2 ^ i ≤ 1 := by
  have hP := two_pos i
  generalize (2 : Int) ^ i = P at *
  have h1 := Int.emod_nonneg a (show P ≠ 0 by omega); have h2 := Int.emod_lt_of_pos a hP
  have h3 := Int.emod_nonneg b (show P ≠ 0 by omega); have h4 := Int.emod_lt_of_pos b hP
  refine ⟨Int.ediv_nonneg (by omega) (by omega), ?_⟩
  have : (a % P + b % P) / P < 2 := Int.ediv_lt_of_lt_mul hP (by omega)
  omega
theorem pw_add (i j : Nat) : (2 : Int) ^ (i + j) = 2 ^ i * 2 ^ j := Int.pow_add 2 i j
theorem p64 : (2 : Int) ^ 64 = 18446744073709551616 := by decide
theorem mod_div (S : Int) (i j : Nat) : S % 2 ^ (i + j) / 2 ^ i = S / 2 ^ i % 2 ^ j := by
  have hP := two_pos i
  rw [pw_add, mod_mul2 S _ hP, Int.add_mul_ediv_left _ _ (by omega), Int.ediv_eq_zero_of_lt (Int.emod_nonneg _ (by omega)) (Int.emod_lt_of_pos _ hP)]; omega
theorem pow_le {r : Nat} (h : r ≤ 64) : (2 : Int) ^ r ≤ 18446744073709551616 := by
  rw [← p64, show 64 = r + (64 - r) by omega, pw_add]
  have := two_pos (64 - r); have h2 := two_pos r
  have : (2 : Int) ^ r * 1 ≤ 2 ^ r * 2 ^ (64 - r) := Int.mul_le_mul_of_nonneg_left (by omega) (by omega)
  omega
theorem lim_at (S : Int) (k r : Nat) (hr : r ≤ 64) : lim k (S % 2 ^ (64 * k + r)) = S / 2 ^ (64 * k) % 2 ^ r := by
  have h1 := two_pos r
  unfold lim
  rw [mod_div]
  have a := Int.emod_nonneg (S / 2 ^ (64 * k)) (show (2 : Int) ^ r ≠ 0 by omega)
  have b := Int.emod_lt_of_pos (S / 2 ^ (64 * k)) h1
  have c := pow_le hr
  exact Int.emod_eq_of_lt a (by omega)
theorem lim_low (S : Int) (j i : Nat) (h : 64 * (j + 1) ≤ i) : lim j (S % 2 ^ i) = lim j S := by
  unfold lim
  rw [show i = 64 * j + (i - 64 * j) by omega, mod_div, show i - 64 * j = 64 + (i - 64 * j - 64) by omega, pw_add, p64]
  rw [mod_mul2 _ 18446744073709551616 (by decide), Int.add_mul_emod_self_left, Int.emod_emod]
theorem lim_high (S : Int) (j i : Nat) (h : i ≤ 64 * j) : lim j (S % 2 ^ i) = 0 := by
  have h1 := two_pos i
  have a := Int.emod_nonneg S (show (2 : Int) ^ i ≠ 0 by omega)
  have b := Int.emod_lt_of_pos S h1
  have c : (2 : Int) ^ i ≤ 2 ^ (64 * j) := by
    rw [show 64 * j = i + (64 * j - i) by omega, pw_add]
    have := two_pos (64 * j - i)
    have : (2 : Int) ^ i * 1 ≤ 2 ^ i * 2 ^ (64 * j - i) := Int.mul_le_mul_of_nonneg_left (by omega) (by omega)
    omega
  unfold lim
  rw [Int.ediv_eq_zero_of_lt a (by omega)]; rfl
/-- What one round does to the limbs. -/
theorem lim_step (S : Int) (k r : Nat) (hr : r < 64) (j : Nat) : lim j (S % 2 ^ (64 * k + r + 1)) = if j = k then lim k (S % 2 ^ (64 * k + r)) + S / 2 ^ (64 * k + r) % 2 * 2 ^ r else lim j (S % 2 ^ (64 * k + r)) := by
  by_cases h : j = k
  · subst h
    rw [if_pos rfl, Nat.add_assoc, lim_at S j (r + 1) (by omega), lim_at S j r (by omega), Int.pow_succ, mod_mul2 _ _ (two_pos r), pw_add (64 * j) r, ← Int.ediv_ediv_of_nonneg (Int.le_of_lt (two_pos _)), Int.mul_comm (2 ^ r)]
  · rw [if_neg h]
    by_cases h2 : j < k
    · rw [lim_low S j _ (by omega), lim_low S j _ (by omega)]
    · rw [lim_high S j _ (by omega), lim_high S j _ (by omega)]
theorem lim_lt (S : Int) (k r : Nat) (hr : r < 64) : 0 ≤ lim k (S % 2 ^ (64 * k + r)) ∧ lim k (S % 2 ^ (64 * k + r)) < 2 ^ r := by
  rw [lim_at S k r (by omega)]
  have h1 := two_pos r
  exact ⟨Int.emod_nonneg _ (by omega), Int.emod_lt_of_pos _ h1⟩
theorem lim_all (S : Int) (j : Nat) (h : j < 5) : lim j (S % 2 ^ 320) = lim j S := lim_low S j 320 (by omega)
theorem lim_is (v : Int) : lim 0 v = l0 v ∧ lim 1 v = l1 v ∧ lim 2 v = l2 v ∧ lim 3 v = l3 v ∧ lim 4 v = l4 v := by
  unfold lim l0 l1 l2 l3 l4
  refine ⟨?_, rfl, rfl, rfl, rfl⟩
  show v / 1 % _ = _
  rw [Int.ediv_one]
section
variable {P : Program} {n : Nat} {l : List (Nat × Value)} {w : World} {Q : Exit → Act → World → Prop} {c : Code}
theorem w_rounds (N : Nat) (h : WC P c (Exit.then (Code.rounds P c Q N) Q) n l w) : WC P (Code.loop c) Q n l w := ⟨wp_loop_rounds (N + 1) h.out⟩
theorem xn_rounds {N : Nat} (h : WC P c (Exit.then (Code.rounds P c Q N) Q) n l w) : WX (Exit.then (Code.rounds P c Q (N + 1)) Q) .normal n l w := ⟨h.out⟩
end
def wv (v : Int) : Value := .agg #[.int .u64 (l0 v), .int .u64 (l1 v), .int .u64 (l2 v), .int .u64 (l3 v), .int .u64 (l4 v)]
theorem sz22 : (Try.prog.info? 22).map (·.size) = some 1 := by kernel_rfl
theorem sz31 : (Try.prog.info? 31).map (·.size) = some 5 := by kernel_rfl
theorem sz33 : (Try.prog.info? 33).map (·.size) = some 23 := by kernel_rfl
theorem sz28 : (Try.prog.info? 28).map (·.size) = some 10 := by kernel_rfl
theorem add64_op {n : Nat} {l : List (Nat × Value)} (x y c : Int) (hx : 0 ≤ x) (hy : 0 ≤ y) (hc0 : 0 ≤ c) (hc : c ≤ 1) (X Y Z : Operand) (eX : evl n l X = .int .u64 x) (eY : evl n l Y = .int .u64 y) (eZ : evl n l Z = .int .u64 c) (dst : Option Tmp) (ats : Array TypeId) (ty : TypeId) (pos : String) (after : Array Edge) (guard : Option (Nat × Bool)) (w : World) :
    (execOp (evl n l) { dst, op := .call { callee := .value (.func 38), args := #[X, Y, Z], argTypes := ats }, type := ty, pos, after, guard }).run Try.prog w = .ok (.value (.tuple #[.int .u64 ((x + y + c) % 18446744073709551616), .int .u64 ((x + y + c) / 18446744073709551616)])) w := by
  have e2 := execOp_call_go (fr n l) dst 38 #[X, Y, Z] ats ty pos after guard
  rw [fr_eval] at e2
  rw [e2]
  have : (#[X, Y, Z] : Array Operand).map (evl n l) = #[.int .u64 x, .int .u64 y, .int .u64 c] := by simp [eX, eY, eZ]
  rw [this]
  exact add64 x y c hx hy hc0 hc w
end Go.Proofs.Ythpekbohmfmffaa
/-
  AddWide and minus, the program's.
-/
namespace Go.Proofs.Ythpekbohmfmffaa
open Go.RowKit
section
variable {w : World}
theorem addw_n (a b : Int) : Calls Try.prog 19 #[wv a, wv b] w fun e w' => e = .returned (wv (a + b)) ∧ Mo w w' := by
  have ha := l_bd a
  have hb := l_bd b
  have hc := c_bd a b
  obtain ⟨e0, e1, e2, e3, e4⟩ := add_l a b
  refine w_enter 26 Try.func19 Try.ntmps19 rfl rfl ?_
  have M : Mo w w := Mo.refl _
  refine w_seq ?_
  refine w_reg ?_
  refine wl_box 31 (.tmp 0) (.agg #[.int .u64 (l0 (a)), .int .u64 (l1 (a)), .int .u64 (l2 (a)), .int .u64 (l3 (a)), .int .u64 (l4 (a))]) (#[.int .u64 (l0 (a)), .int .u64 (l1 (a)), .int .u64 (l2 (a)), .int .u64 (l3 (a)), .int .u64 (l4 (a))]) rfl rfl (fun _ => by kernel_rfl) rfl ?_
  intro k1 w1 hk hz hq Q1
  have N_k1 : w.heap.size ≤ k1 := by have := M.size; omega
  replace M := M.trans hq
  clear hk hz hq
  refine wl_box 31 (.tmp 1) (.agg #[.int .u64 (l0 (b)), .int .u64 (l1 (b)), .int .u64 (l2 (b)), .int .u64 (l3 (b)), .int .u64 (l4 (b))]) (#[.int .u64 (l0 (b)), .int .u64 (l1 (b)), .int .u64 (l2 (b)), .int .u64 (l3 (b)), .int .u64 (l4 (b))]) rfl rfl (fun _ => by kernel_rfl) rfl ?_
  intro k2 w2 hk hz hq Q2
  have ne_k1_k2 : k1 ≠ k2 := by have := Q1.lt; omega
  have N_k2 : w.heap.size ≤ k2 := by have := M.size; omega
  replace Q1 := Q1.mo hq
  replace M := M.trans hq
  clear hk hz hq
  refine wl_alloc 31 #[.int .u64 0, .int .u64 0, .int .u64 0, .int .u64 0, .int .u64 0] rfl (fun _ => by kernel_rfl) rfl ?_
  intro k3 w3 hk hz hq Q3
  have ne_k1_k3 : k1 ≠ k3 := by have := Q1.lt; omega
  have ne_k2_k3 : k2 ≠ k3 := by have := Q2.lt; omega
  have N_k3 : w.heap.size ≤ k3 := by have := M.size; omega
  replace Q1 := Q1.mo hq
  replace Q2 := Q2.mo hq
  replace M := M.trans hq
  clear hk hz hq
  refine w_nil ?_
  refine xn_then ?_
  refine w_seq ?_
  refine w_reg ?_
  refine wl_alloc 31 #[.int .u64 0, .int .u64 0, .int .u64 0, .int .u64 0, .int .u64 0] rfl (fun _ => by kernel_rfl) rfl ?_
  intro k4 w4 hk hz hq Q4
  have ne_k1_k4 : k1 ≠ k4 := by have := Q1.lt; omega
  have ne_k2_k4 : k2 ≠ k4 := by have := Q2.lt; omega
  have ne_k3_k4 : k3 ≠ k4 := by have := Q3.lt; omega
  have N_k4 : w.heap.size ≤ k4 := by have := M.size; omega
  replace Q1 := Q1.mo hq
  replace Q2 := Q2.mo hq
  replace Q3 := Q3.mo hq
  replace M := M.trans hq
  clear hk hz hq
  refine w_nil ?_
  refine xn_then ?_
  refine w_seq ?_
  refine w_reg ?_
  refine wl_mv (.const (.int .u64 (0))) (.int .u64 (0)) (fun _ => rfl) rfl rfl ?_
  refine w_nil ?_
  refine xn_then ?_
  refine w_seq ?_
  refine w_seq ?_
  refine w_reg ?_
  refine wl_mv (.const (.int .i64 (0))) (.int .i64 (0)) (fun _ => rfl) rfl rfl ?_
  refine w_nil ?_
  refine xn_then ?_
  refine w_block ?_
  refine w_rounds 5 ?_
  refine w_seq ?_
  refine w_reg ?_
  refine wl_bin (fun x y => do eqGuard .lss 3 (.tmp 8) (.const (.int .i64 (5))) x y; binOp .lss 3 x y) (.tmp 8) (.const (.int .i64 (5))) (.int .i64 (0)) (.int .i64 (5)) (.bool true) (fun _ => rfl) rfl rfl (by kernel_rfl) rfl ?_
  refine w_nil ?_
  refine xn_then ?_
  refine w_seq ?_
  refine w_condT rfl ?_
  refine w_skip ?_
  refine xn_then ?_
  refine w_seq ?_
  refine w_block ?_
  refine w_seq ?_
  refine w_reg ?_
  refine wl_mv (.tmp 8) (.int .i64 (0)) (fun _ => rfl) rfl rfl ?_
  refine wl_mv (.tmp 10) (.int .i64 (0)) (fun _ => rfl) rfl rfl ?_
  refine w_nil ?_
  refine xn_then ?_
  refine w_any 13 [.inl (.int .i64 (0)), .inl (.int .i64 (0)), .inl (pt k1 0), .inl (.int .u64 (l0 (a))), .inl (.int .i64 (0)), .inl (pt k2 0), .inl (.int .u64 (l0 (b))), .inl (.int .u64 (0)), .inl (.tuple #[.int .u64 ((l0 (a) + l0 (b) + 0) % 18446744073709551616), .int .u64 (c1 a b)]), .inl (.tuple #[.int .u64 ((l0 (a) + l0 (b) + 0) % 18446744073709551616), .int .u64 (c1 a b)]), .inl (.int .u64 ((l0 (a) + l0 (b) + 0) % 18446744073709551616)), .inl (.int .u64 (c1 a b)), .inl (pt k4 0)] [11] (by kernel_rfl) (by kernel_rfl) (by kernel_rfl) (by kernel_rfl) rfl (by kernel_rfl) (by kernel_rfl) (late_cons ⟨_, _, rfl, rfl, fun _ _ _ _ h => h, fun f hd => ⟨rfl, la_un (fun v => Instr.extract v 1) (.tmp 11) (.tuple #[.int .u64 ((l0 (a) + l0 (b) + 0) % 18446744073709551616), .int .u64 (c1 a b)]) (.int .u64 (c1 a b)) (fun _ => rfl) (hd 9 rfl _ rfl) (fun w => by kernel_rfl)⟩⟩ late_nil) ?_ ?_ ?_
  · exact Ds.none rfl
  · refine ea_cons ?_ (ea_cons ?_ (ea_cons ?_ (ea_cons ?_ (ea_cons ?_ (ea_cons ?_ (ea_cons ?_ (ea_cons ?_ (ea_cons ?_ (ea_cons ?_ (ea_cons ?_ (ea_cons ?_ (ea_cons ?_ (ea_nil)))))))))))))
    · exact og_eq (.int .i64 (0)) rfl (fun f wf hq hd K hK => go_run rfl (wo_mv (.tmp 7) (.int .i64 (0)) (fun _ => rfl) rfl (hK _ (Mo.refl _))))
    · exact og_eq (.int .i64 (0)) rfl (fun f wf hq hd K hK => go_run rfl (wo_mv (.tmp 7) (.int .i64 (0)) (fun _ => rfl) rfl (hK _ (Mo.refl _))))
    · exact og_eq (pt k1 0) rfl (fun f wf hq hd K hK => go_run rfl (wo_bin (fun x y => Instr.indexAt 31 x y) (.tmp 2) (.tmp 13) (pt k1 0) (.int .i64 (0)) (pt k1 0) (fun _ => rfl) rfl (hd 1 rfl) (by kernel_rfl) (hK _ (Mo.refl _))))
    · exact og_eq (.int .u64 (l0 (a))) rfl (fun f wf hq hd K hK => have Q1 := Q1.mo hq; go_run rfl (wo_load 22 (.tmp 14) (pt k1 0) (.int .u64 (l0 (a))) rfl (hd 2 rfl) (run_one Q1 22 0 rfl Try.underlying22 rfl) (hK _ (Mo.refl _))))
    · exact og_eq (.int .i64 (0)) rfl (fun f wf hq hd K hK => go_run rfl (wo_mv (.tmp 7) (.int .i64 (0)) (fun _ => rfl) rfl (hK _ (Mo.refl _))))
    · exact og_eq (pt k2 0) rfl (fun f wf hq hd K hK => go_run rfl (wo_bin (fun x y => Instr.indexAt 31 x y) (.tmp 3) (.tmp 16) (pt k2 0) (.int .i64 (0)) (pt k2 0) (fun _ => rfl) rfl (hd 4 rfl) (by kernel_rfl) (hK _ (Mo.refl _))))
    · exact og_eq (.int .u64 (l0 (b))) rfl (fun f wf hq hd K hK => have Q2 := Q2.mo hq; go_run rfl (wo_load 22 (.tmp 17) (pt k2 0) (.int .u64 (l0 (b))) rfl (hd 5 rfl) (run_one Q2 22 0 rfl Try.underlying22 rfl) (hK _ (Mo.refl _))))
    · exact og_eq (.int .u64 (0)) rfl (fun f wf hq hd K hK => go_run rfl (wo_mv (.tmp 6) (.int .u64 (0)) (fun _ => rfl) rfl (hK _ (Mo.refl _))))
    · exact og_eq (.tuple #[.int .u64 ((l0 (a) + l0 (b) + 0) % 18446744073709551616), .int .u64 (c1 a b)]) rfl (fun f wf hq hd K hK => go_run rfl (wo_val (.tuple #[.int .u64 ((l0 (a) + l0 (b) + 0) % 18446744073709551616), .int .u64 (c1 a b)]) (add64_op (l0 a) (l0 b) (0) ha.1.1 hb.1.1 (Int.le_refl 0) (by decide) _ _ _ (by exact (hd 3 rfl)) (by exact (hd 6 rfl)) (by exact (hd 7 rfl)) _ _ _ _ _ _ _) (hK _ (Mo.refl _))))
    · exact og_eq (.tuple #[.int .u64 ((l0 (a) + l0 (b) + 0) % 18446744073709551616), .int .u64 (c1 a b)]) rfl (fun f wf hq hd K hK => go_run rfl (wo_mv (.tmp 20) (.tuple #[.int .u64 ((l0 (a) + l0 (b) + 0) % 18446744073709551616), .int .u64 (c1 a b)]) (fun _ => rfl) (hd 8 rfl) (hK _ (Mo.refl _))))
    · exact og_eq (.int .u64 ((l0 (a) + l0 (b) + 0) % 18446744073709551616)) rfl (fun f wf hq hd K hK => go_run rfl (wo_un (fun v => Instr.extract v 0) (.tmp 11) (.tuple #[.int .u64 ((l0 (a) + l0 (b) + 0) % 18446744073709551616), .int .u64 (c1 a b)]) (.int .u64 ((l0 (a) + l0 (b) + 0) % 18446744073709551616)) (fun _ => rfl) (hd 9 rfl) (by kernel_rfl) (hK _ (Mo.refl _))))
    · exact og_eq (.int .u64 (c1 a b)) rfl (fun f wf hq hd K hK => go_run rfl (wo_un (fun v => Instr.extract v 1) (.tmp 11) (.tuple #[.int .u64 ((l0 (a) + l0 (b) + 0) % 18446744073709551616), .int .u64 (c1 a b)]) (.int .u64 (c1 a b)) (fun _ => rfl) (hd 9 rfl) (by kernel_rfl) (hK _ (Mo.refl _))))
    · exact og_eq (pt k4 0) rfl (fun f wf hq hd K hK => go_run rfl (wo_bin (fun x y => Instr.indexAt 31 x y) (.tmp 5) (.tmp 12) (pt k4 0) (.int .i64 (0)) (pt k4 0) (fun _ => rfl) rfl (hd 0 rfl) (by kernel_rfl) (hK _ (Mo.refl _))))
  intro kf5 w5 hq hR hne
  replace Q1 := Q1.mo hq
  replace Q2 := Q2.mo hq
  replace Q3 := Q3.mo hq
  replace Q4 := Q4.mo hq
  replace M := M.trans hq
  clear hq hR hne
  refine wl_st1 22 (.tmp 23) (.tmp 21) k4 0 (.int .u64 ((l0 (a) + l0 (b) + 0) % 18446744073709551616)) [.int .u64 0, .int .u64 0, .int .u64 0, .int .u64 0, .int .u64 0] [.int .u64 ((l0 (a) + l0 (b) + 0) % 18446744073709551616), .int .u64 0, .int .u64 0, .int .u64 0, .int .u64 0] Q4 rfl rfl rfl rfl rfl sz22 rfl rfl rfl rfl ?_
  intro w6 hS Qn
  replace Q4 := Qn
  clear Qn
  replace Q1 := hS.other _ _ ne_k1_k4 Q1
  replace Q2 := hS.other _ _ ne_k2_k4 Q2
  replace Q3 := hS.other _ _ ne_k3_k4 Q3
  replace M := hS.mo _ N_k4 M
  clear hS
  refine wl_mv (.tmp 22) (.int .u64 (c1 a b)) (fun _ => rfl) rfl rfl ?_
  refine w_nil ?_
  refine xn_blk ?_
  refine xn_then ?_
  refine w_reg ?_
  refine wl_bin (fun x y => do eqGuard .add 3 (.tmp 8) (.const (.int .i64 (1))) x y; binOp .add 3 x y) (.tmp 8) (.const (.int .i64 (1))) (.int .i64 (0)) (.int .i64 (1)) (.int .i64 (1)) (fun _ => rfl) rfl rfl (by kernel_rfl) rfl ?_
  refine wl_mv (.tmp 24) (.int .i64 (1)) (fun _ => rfl) rfl rfl ?_
  refine w_nil ?_
  refine xn_rounds ?_
  refine w_seq ?_
  refine w_reg ?_
  refine wl_bin (fun x y => do eqGuard .lss 3 (.tmp 8) (.const (.int .i64 (5))) x y; binOp .lss 3 x y) (.tmp 8) (.const (.int .i64 (5))) (.int .i64 (1)) (.int .i64 (5)) (.bool true) (fun _ => rfl) rfl rfl (by kernel_rfl) rfl ?_
  refine w_nil ?_
  refine xn_then ?_
  refine w_seq ?_
  refine w_condT rfl ?_
  refine w_skip ?_
  refine xn_then ?_
  refine w_seq ?_
  refine w_block ?_
  refine w_seq ?_
  refine w_reg ?_
  refine wl_mv (.tmp 8) (.int .i64 (1)) (fun _ => rfl) rfl rfl ?_
  refine wl_mv (.tmp 10) (.int .i64 (1)) (fun _ => rfl) rfl rfl ?_
  refine w_nil ?_
  refine xn_then ?_
  refine w_any 13 [.inl (.int .i64 (1)), .inl (.int .i64 (1)), .inl (pt k1 1), .inl (.int .u64 (l1 (a))), .inl (.int .i64 (1)), .inl (pt k2 1), .inl (.int .u64 (l1 (b))), .inl (.int .u64 (c1 a b)), .inl (.tuple #[.int .u64 ((l1 (a) + l1 (b) + c1 a b) % 18446744073709551616), .int .u64 (c2 a b)]), .inl (.tuple #[.int .u64 ((l1 (a) + l1 (b) + c1 a b) % 18446744073709551616), .int .u64 (c2 a b)]), .inl (.int .u64 ((l1 (a) + l1 (b) + c1 a b) % 18446744073709551616)), .inl (.int .u64 (c2 a b)), .inl (pt k4 1)] [11] (by kernel_rfl) (by kernel_rfl) (by kernel_rfl) (by kernel_rfl) rfl (by kernel_rfl) (by kernel_rfl) (late_cons ⟨_, _, rfl, rfl, fun _ _ _ _ h => h, fun f hd => ⟨rfl, la_un (fun v => Instr.extract v 1) (.tmp 11) (.tuple #[.int .u64 ((l1 (a) + l1 (b) + c1 a b) % 18446744073709551616), .int .u64 (c2 a b)]) (.int .u64 (c2 a b)) (fun _ => rfl) (hd 9 rfl _ rfl) (fun w => by kernel_rfl)⟩⟩ late_nil) ?_ ?_ ?_
  · exact Ds.none rfl
  · refine ea_cons ?_ (ea_cons ?_ (ea_cons ?_ (ea_cons ?_ (ea_cons ?_ (ea_cons ?_ (ea_cons ?_ (ea_cons ?_ (ea_cons ?_ (ea_cons ?_ (ea_cons ?_ (ea_cons ?_ (ea_cons ?_ (ea_nil)))))))))))))
    · exact og_eq (.int .i64 (1)) rfl (fun f wf hq hd K hK => go_run rfl (wo_mv (.tmp 7) (.int .i64 (1)) (fun _ => rfl) rfl (hK _ (Mo.refl _))))
    · exact og_eq (.int .i64 (1)) rfl (fun f wf hq hd K hK => go_run rfl (wo_mv (.tmp 7) (.int .i64 (1)) (fun _ => rfl) rfl (hK _ (Mo.refl _))))
    · exact og_eq (pt k1 1) rfl (fun f wf hq hd K hK => go_run rfl (wo_bin (fun x y => Instr.indexAt 31 x y) (.tmp 2) (.tmp 13) (pt k1 0) (.int .i64 (1)) (pt k1 1) (fun _ => rfl) rfl (hd 1 rfl) (by kernel_rfl) (hK _ (Mo.refl _))))
    · exact og_eq (.int .u64 (l1 (a))) rfl (fun f wf hq hd K hK => have Q1 := Q1.mo hq; go_run rfl (wo_load 22 (.tmp 14) (pt k1 1) (.int .u64 (l1 (a))) rfl (hd 2 rfl) (run_one Q1 22 1 rfl Try.underlying22 rfl) (hK _ (Mo.refl _))))
    · exact og_eq (.int .i64 (1)) rfl (fun f wf hq hd K hK => go_run rfl (wo_mv (.tmp 7) (.int .i64 (1)) (fun _ => rfl) rfl (hK _ (Mo.refl _))))
    · exact og_eq (pt k2 1) rfl (fun f wf hq hd K hK => go_run rfl (wo_bin (fun x y => Instr.indexAt 31 x y) (.tmp 3) (.tmp 16) (pt k2 0) (.int .i64 (1)) (pt k2 1) (fun _ => rfl) rfl (hd 4 rfl) (by kernel_rfl) (hK _ (Mo.refl _))))
    · exact og_eq (.int .u64 (l1 (b))) rfl (fun f wf hq hd K hK => have Q2 := Q2.mo hq; go_run rfl (wo_load 22 (.tmp 17) (pt k2 1) (.int .u64 (l1 (b))) rfl (hd 5 rfl) (run_one Q2 22 1 rfl Try.underlying22 rfl) (hK _ (Mo.refl _))))
    · exact og_eq (.int .u64 (c1 a b)) rfl (fun f wf hq hd K hK => go_run rfl (wo_mv (.tmp 6) (.int .u64 (c1 a b)) (fun _ => rfl) rfl (hK _ (Mo.refl _))))
    · exact og_eq (.tuple #[.int .u64 ((l1 (a) + l1 (b) + c1 a b) % 18446744073709551616), .int .u64 (c2 a b)]) rfl (fun f wf hq hd K hK => go_run rfl (wo_val (.tuple #[.int .u64 ((l1 (a) + l1 (b) + c1 a b) % 18446744073709551616), .int .u64 (c2 a b)]) (add64_op (l1 a) (l1 b) (c1 a b) ha.2.1.1 hb.2.1.1 hc.1.1 hc.1.2 _ _ _ (by exact (hd 3 rfl)) (by exact (hd 6 rfl)) (by exact (hd 7 rfl)) _ _ _ _ _ _ _) (hK _ (Mo.refl _))))
    · exact og_eq (.tuple #[.int .u64 ((l1 (a) + l1 (b) + c1 a b) % 18446744073709551616), .int .u64 (c2 a b)]) rfl (fun f wf hq hd K hK => go_run rfl (wo_mv (.tmp 20) (.tuple #[.int .u64 ((l1 (a) + l1 (b) + c1 a b) % 18446744073709551616), .int .u64 (c2 a b)]) (fun _ => rfl) (hd 8 rfl) (hK _ (Mo.refl _))))
    · exact og_eq (.int .u64 ((l1 (a) + l1 (b) + c1 a b) % 18446744073709551616)) rfl (fun f wf hq hd K hK => go_run rfl (wo_un (fun v => Instr.extract v 0) (.tmp 11) (.tuple #[.int .u64 ((l1 (a) + l1 (b) + c1 a b) % 18446744073709551616), .int .u64 (c2 a b)]) (.int .u64 ((l1 (a) + l1 (b) + c1 a b) % 18446744073709551616)) (fun _ => rfl) (hd 9 rfl) (by kernel_rfl) (hK _ (Mo.refl _))))
    · exact og_eq (.int .u64 (c2 a b)) rfl (fun f wf hq hd K hK => go_run rfl (wo_un (fun v => Instr.extract v 1) (.tmp 11) (.tuple #[.int .u64 ((l1 (a) + l1 (b) + c1 a b) % 18446744073709551616), .int .u64 (c2 a b)]) (.int .u64 (c2 a b)) (fun _ => rfl) (hd 9 rfl) (by kernel_rfl) (hK _ (Mo.refl _))))
    · exact og_eq (pt k4 1) rfl (fun f wf hq hd K hK => go_run rfl (wo_bin (fun x y => Instr.indexAt 31 x y) (.tmp 5) (.tmp 12) (pt k4 0) (.int .i64 (1)) (pt k4 1) (fun _ => rfl) rfl (hd 0 rfl) (by kernel_rfl) (hK _ (Mo.refl _))))
  intro kf7 w7 hq hR hne
  replace Q1 := Q1.mo hq
  replace Q2 := Q2.mo hq
  replace Q3 := Q3.mo hq
  replace Q4 := Q4.mo hq
  replace M := M.trans hq
  clear hq hR hne
  refine wl_st1 22 (.tmp 23) (.tmp 21) k4 1 (.int .u64 ((l1 (a) + l1 (b) + c1 a b) % 18446744073709551616)) [.int .u64 ((l0 (a) + l0 (b) + 0) % 18446744073709551616), .int .u64 0, .int .u64 0, .int .u64 0, .int .u64 0] [.int .u64 ((l0 (a) + l0 (b) + 0) % 18446744073709551616), .int .u64 ((l1 (a) + l1 (b) + c1 a b) % 18446744073709551616), .int .u64 0, .int .u64 0, .int .u64 0] Q4 rfl rfl rfl rfl rfl sz22 rfl rfl rfl rfl ?_
  intro w8 hS Qn
  replace Q4 := Qn
  clear Qn
  replace Q1 := hS.other _ _ ne_k1_k4 Q1
  replace Q2 := hS.other _ _ ne_k2_k4 Q2
  replace Q3 := hS.other _ _ ne_k3_k4 Q3
  replace M := hS.mo _ N_k4 M
  clear hS
  refine wl_mv (.tmp 22) (.int .u64 (c2 a b)) (fun _ => rfl) rfl rfl ?_
  refine w_nil ?_
  refine xn_blk ?_
  refine xn_then ?_
  refine w_reg ?_
  refine wl_bin (fun x y => do eqGuard .add 3 (.tmp 8) (.const (.int .i64 (1))) x y; binOp .add 3 x y) (.tmp 8) (.const (.int .i64 (1))) (.int .i64 (1)) (.int .i64 (1)) (.int .i64 (2)) (fun _ => rfl) rfl rfl (by kernel_rfl) rfl ?_
  refine wl_mv (.tmp 24) (.int .i64 (2)) (fun _ => rfl) rfl rfl ?_
  refine w_nil ?_
  refine xn_rounds ?_
  refine w_seq ?_
  refine w_reg ?_
  refine wl_bin (fun x y => do eqGuard .lss 3 (.tmp 8) (.const (.int .i64 (5))) x y; binOp .lss 3 x y) (.tmp 8) (.const (.int .i64 (5))) (.int .i64 (2)) (.int .i64 (5)) (.bool true) (fun _ => rfl) rfl rfl (by kernel_rfl) rfl ?_
  refine w_nil ?_
  refine xn_then ?_
  refine w_seq ?_
  refine w_condT rfl ?_
  refine w_skip ?_
  refine xn_then ?_
  refine w_seq ?_
  refine w_block ?_
  refine w_seq ?_
  refine w_reg ?_
  refine wl_mv (.tmp 8) (.int .i64 (2)) (fun _ => rfl) rfl rfl ?_
  refine wl_mv (.tmp 10) (.int .i64 (2)) (fun _ => rfl) rfl rfl ?_
  refine w_nil ?_
  refine xn_then ?_
  refine w_any 13 [.inl (.int .i64 (2)), .inl (.int .i64 (2)), .inl (pt k1 2), .inl (.int .u64 (l2 (a))), .inl (.int .i64 (2)), .inl (pt k2 2), .inl (.int .u64 (l2 (b))), .inl (.int .u64 (c2 a b)), .inl (.tuple #[.int .u64 ((l2 (a) + l2 (b) + c2 a b) % 18446744073709551616), .int .u64 (c3 a b)]), .inl (.tuple #[.int .u64 ((l2 (a) + l2 (b) + c2 a b) % 18446744073709551616), .int .u64 (c3 a b)]), .inl (.int .u64 ((l2 (a) + l2 (b) + c2 a b) % 18446744073709551616)), .inl (.int .u64 (c3 a b)), .inl (pt k4 2)] [11] (by kernel_rfl) (by kernel_rfl) (by kernel_rfl) (by kernel_rfl) rfl (by kernel_rfl) (by kernel_rfl) (late_cons ⟨_, _, rfl, rfl, fun _ _ _ _ h => h, fun f hd => ⟨rfl, la_un (fun v => Instr.extract v 1) (.tmp 11) (.tuple #[.int .u64 ((l2 (a) + l2 (b) + c2 a b) % 18446744073709551616), .int .u64 (c3 a b)]) (.int .u64 (c3 a b)) (fun _ => rfl) (hd 9 rfl _ rfl) (fun w => by kernel_rfl)⟩⟩ late_nil) ?_ ?_ ?_
  · exact Ds.none rfl
  · refine ea_cons ?_ (ea_cons ?_ (ea_cons ?_ (ea_cons ?_ (ea_cons ?_ (ea_cons ?_ (ea_cons ?_ (ea_cons ?_ (ea_cons ?_ (ea_cons ?_ (ea_cons ?_ (ea_cons ?_ (ea_cons ?_ (ea_nil)))))))))))))
    · exact og_eq (.int .i64 (2)) rfl (fun f wf hq hd K hK => go_run rfl (wo_mv (.tmp 7) (.int .i64 (2)) (fun _ => rfl) rfl (hK _ (Mo.refl _))))
    · exact og_eq (.int .i64 (2)) rfl (fun f wf hq hd K hK => go_run rfl (wo_mv (.tmp 7) (.int .i64 (2)) (fun _ => rfl) rfl (hK _ (Mo.refl _))))
    · exact og_eq (pt k1 2) rfl (fun f wf hq hd K hK => go_run rfl (wo_bin (fun x y => Instr.indexAt 31 x y) (.tmp 2) (.tmp 13) (pt k1 0) (.int .i64 (2)) (pt k1 2) (fun _ => rfl) rfl (hd 1 rfl) (by kernel_rfl) (hK _ (Mo.refl _))))
    · exact og_eq (.int .u64 (l2 (a))) rfl (fun f wf hq hd K hK => have Q1 := Q1.mo hq; go_run rfl (wo_load 22 (.tmp 14) (pt k1 2) (.int .u64 (l2 (a))) rfl (hd 2 rfl) (run_one Q1 22 2 rfl Try.underlying22 rfl) (hK _ (Mo.refl _))))
    · exact og_eq (.int .i64 (2)) rfl (fun f wf hq hd K hK => go_run rfl (wo_mv (.tmp 7) (.int .i64 (2)) (fun _ => rfl) rfl (hK _ (Mo.refl _))))
    · exact og_eq (pt k2 2) rfl (fun f wf hq hd K hK => go_run rfl (wo_bin (fun x y => Instr.indexAt 31 x y) (.tmp 3) (.tmp 16) (pt k2 0) (.int .i64 (2)) (pt k2 2) (fun _ => rfl) rfl (hd 4 rfl) (by kernel_rfl) (hK _ (Mo.refl _))))
    · exact og_eq (.int .u64 (l2 (b))) rfl (fun f wf hq hd K hK => have Q2 := Q2.mo hq; go_run rfl (wo_load 22 (.tmp 17) (pt k2 2) (.int .u64 (l2 (b))) rfl (hd 5 rfl) (run_one Q2 22 2 rfl Try.underlying22 rfl) (hK _ (Mo.refl _))))
    · exact og_eq (.int .u64 (c2 a b)) rfl (fun f wf hq hd K hK => go_run rfl (wo_mv (.tmp 6) (.int .u64 (c2 a b)) (fun _ => rfl) rfl (hK _ (Mo.refl _))))
    · exact og_eq (.tuple #[.int .u64 ((l2 (a) + l2 (b) + c2 a b) % 18446744073709551616), .int .u64 (c3 a b)]) rfl (fun f wf hq hd K hK => go_run rfl (wo_val (.tuple #[.int .u64 ((l2 (a) + l2 (b) + c2 a b) % 18446744073709551616), .int .u64 (c3 a b)]) (add64_op (l2 a) (l2 b) (c2 a b) ha.2.2.1.1 hb.2.2.1.1 hc.2.1.1 hc.2.1.2 _ _ _ (by exact (hd 3 rfl)) (by exact (hd 6 rfl)) (by exact (hd 7 rfl)) _ _ _ _ _ _ _) (hK _ (Mo.refl _))))
    · exact og_eq (.tuple #[.int .u64 ((l2 (a) + l2 (b) + c2 a b) % 18446744073709551616), .int .u64 (c3 a b)]) rfl (fun f wf hq hd K hK => go_run rfl (wo_mv (.tmp 20) (.tuple #[.int .u64 ((l2 (a) + l2 (b) + c2 a b) % 18446744073709551616), .int .u64 (c3 a b)]) (fun _ => rfl) (hd 8 rfl) (hK _ (Mo.refl _))))
    · exact og_eq (.int .u64 ((l2 (a) + l2 (b) + c2 a b) % 18446744073709551616)) rfl (fun f wf hq hd K hK => go_run rfl (wo_un (fun v => Instr.extract v 0) (.tmp 11) (.tuple #[.int .u64 ((l2 (a) + l2 (b) + c2 a b) % 18446744073709551616), .int .u64 (c3 a b)]) (.int .u64 ((l2 (a) + l2 (b) + c2 a b) % 18446744073709551616)) (fun _ => rfl) (hd 9 rfl) (by kernel_rfl) (hK _ (Mo.refl _))))
    · exact og_eq (.int .u64 (c3 a b)) rfl (fun f wf hq hd K hK => go_run rfl (wo_un (fun v => Instr.extract v 1) (.tmp 11) (.tuple #[.int .u64 ((l2 (a) + l2 (b) + c2 a b) % 18446744073709551616), .int .u64 (c3 a b)]) (.int .u64 (c3 a b)) (fun _ => rfl) (hd 9 rfl) (by kernel_rfl) (hK _ (Mo.refl _))))
    · exact og_eq (pt k4 2) rfl (fun f wf hq hd K hK => go_run rfl (wo_bin (fun x y => Instr.indexAt 31 x y) (.tmp 5) (.tmp 12) (pt k4 0) (.int .i64 (2)) (pt k4 2) (fun _ => rfl) rfl (hd 0 rfl) (by kernel_rfl) (hK _ (Mo.refl _))))
  intro kf9 w9 hq hR hne
  replace Q1 := Q1.mo hq
  replace Q2 := Q2.mo hq
  replace Q3 := Q3.mo hq
  replace Q4 := Q4.mo hq
  replace M := M.trans hq
  clear hq hR hne
  refine wl_st1 22 (.tmp 23) (.tmp 21) k4 2 (.int .u64 ((l2 (a) + l2 (b) + c2 a b) % 18446744073709551616)) [.int .u64 ((l0 (a) + l0 (b) + 0) % 18446744073709551616), .int .u64 ((l1 (a) + l1 (b) + c1 a b) % 18446744073709551616), .int .u64 0, .int .u64 0, .int .u64 0] [.int .u64 ((l0 (a) + l0 (b) + 0) % 18446744073709551616), .int .u64 ((l1 (a) + l1 (b) + c1 a b) % 18446744073709551616), .int .u64 ((l2 (a) + l2 (b) + c2 a b) % 18446744073709551616), .int .u64 0, .int .u64 0] Q4 rfl rfl rfl rfl rfl sz22 rfl rfl rfl rfl ?_
  intro w10 hS Qn
  replace Q4 := Qn
  clear Qn
  replace Q1 := hS.other _ _ ne_k1_k4 Q1
  replace Q2 := hS.other _ _ ne_k2_k4 Q2
  replace Q3 := hS.other _ _ ne_k3_k4 Q3
  replace M := hS.mo _ N_k4 M
  clear hS
  refine wl_mv (.tmp 22) (.int .u64 (c3 a b)) (fun _ => rfl) rfl rfl ?_
  refine w_nil ?_
  refine xn_blk ?_
  refine xn_then ?_
  refine w_reg ?_
  refine wl_bin (fun x y => do eqGuard .add 3 (.tmp 8) (.const (.int .i64 (1))) x y; binOp .add 3 x y) (.tmp 8) (.const (.int .i64 (1))) (.int .i64 (2)) (.int .i64 (1)) (.int .i64 (3)) (fun _ => rfl) rfl rfl (by kernel_rfl) rfl ?_
  refine wl_mv (.tmp 24) (.int .i64 (3)) (fun _ => rfl) rfl rfl ?_
  refine w_nil ?_
  refine xn_rounds ?_
  refine w_seq ?_
  refine w_reg ?_
  refine wl_bin (fun x y => do eqGuard .lss 3 (.tmp 8) (.const (.int .i64 (5))) x y; binOp .lss 3 x y) (.tmp 8) (.const (.int .i64 (5))) (.int .i64 (3)) (.int .i64 (5)) (.bool true) (fun _ => rfl) rfl rfl (by kernel_rfl) rfl ?_
  refine w_nil ?_
  refine xn_then ?_
  refine w_seq ?_
  refine w_condT rfl ?_
  refine w_skip ?_
  refine xn_then ?_
  refine w_seq ?_
  refine w_block ?_
  refine w_seq ?_
  refine w_reg ?_
  refine wl_mv (.tmp 8) (.int .i64 (3)) (fun _ => rfl) rfl rfl ?_
  refine wl_mv (.tmp 10) (.int .i64 (3)) (fun _ => rfl) rfl rfl ?_
  refine w_nil ?_
  refine xn_then ?_
  refine w_any 13 [.inl (.int .i64 (3)), .inl (.int .i64 (3)), .inl (pt k1 3), .inl (.int .u64 (l3 (a))), .inl (.int .i64 (3)), .inl (pt k2 3), .inl (.int .u64 (l3 (b))), .inl (.int .u64 (c3 a b)), .inl (.tuple #[.int .u64 ((l3 (a) + l3 (b) + c3 a b) % 18446744073709551616), .int .u64 (c4 a b)]), .inl (.tuple #[.int .u64 ((l3 (a) + l3 (b) + c3 a b) % 18446744073709551616), .int .u64 (c4 a b)]), .inl (.int .u64 ((l3 (a) + l3 (b) + c3 a b) % 18446744073709551616)), .inl (.int .u64 (c4 a b)), .inl (pt k4 3)] [11] (by kernel_rfl) (by kernel_rfl) (by kernel_rfl) (by kernel_rfl) rfl (by kernel_rfl) (by kernel_rfl) (late_cons ⟨_, _, rfl, rfl, fun _ _ _ _ h => h, fun f hd => ⟨rfl, la_un (fun v => Instr.extract v 1) (.tmp 11) (.tuple #[.int .u64 ((l3 (a) + l3 (b) + c3 a b) % 18446744073709551616), .int .u64 (c4 a b)]) (.int .u64 (c4 a b)) (fun _ => rfl) (hd 9 rfl _ rfl) (fun w => by kernel_rfl)⟩⟩ late_nil) ?_ ?_ ?_
  · exact Ds.none rfl
  · refine ea_cons ?_ (ea_cons ?_ (ea_cons ?_ (ea_cons ?_ (ea_cons ?_ (ea_cons ?_ (ea_cons ?_ (ea_cons ?_ (ea_cons ?_ (ea_cons ?_ (ea_cons ?_ (ea_cons ?_ (ea_cons ?_ (ea_nil)))))))))))))
    · exact og_eq (.int .i64 (3)) rfl (fun f wf hq hd K hK => go_run rfl (wo_mv (.tmp 7) (.int .i64 (3)) (fun _ => rfl) rfl (hK _ (Mo.refl _))))
    · exact og_eq (.int .i64 (3)) rfl (fun f wf hq hd K hK => go_run rfl (wo_mv (.tmp 7) (.int .i64 (3)) (fun _ => rfl) rfl (hK _ (Mo.refl _))))
    · exact og_eq (pt k1 3) rfl (fun f wf hq hd K hK => go_run rfl (wo_bin (fun x y => Instr.indexAt 31 x y) (.tmp 2) (.tmp 13) (pt k1 0) (.int .i64 (3)) (pt k1 3) (fun _ => rfl) rfl (hd 1 rfl) (by kernel_rfl) (hK _ (Mo.refl _))))
    · exact og_eq (.int .u64 (l3 (a))) rfl (fun f wf hq hd K hK => have Q1 := Q1.mo hq; go_run rfl (wo_load 22 (.tmp 14) (pt k1 3) (.int .u64 (l3 (a))) rfl (hd 2 rfl) (run_one Q1 22 3 rfl Try.underlying22 rfl) (hK _ (Mo.refl _))))
    · exact og_eq (.int .i64 (3)) rfl (fun f wf hq hd K hK => go_run rfl (wo_mv (.tmp 7) (.int .i64 (3)) (fun _ => rfl) rfl (hK _ (Mo.refl _))))
    · exact og_eq (pt k2 3) rfl (fun f wf hq hd K hK => go_run rfl (wo_bin (fun x y => Instr.indexAt 31 x y) (.tmp 3) (.tmp 16) (pt k2 0) (.int .i64 (3)) (pt k2 3) (fun _ => rfl) rfl (hd 4 rfl) (by kernel_rfl) (hK _ (Mo.refl _))))
    · exact og_eq (.int .u64 (l3 (b))) rfl (fun f wf hq hd K hK => have Q2 := Q2.mo hq; go_run rfl (wo_load 22 (.tmp 17) (pt k2 3) (.int .u64 (l3 (b))) rfl (hd 5 rfl) (run_one Q2 22 3 rfl Try.underlying22 rfl) (hK _ (Mo.refl _))))
    · exact og_eq (.int .u64 (c3 a b)) rfl (fun f wf hq hd K hK => go_run rfl (wo_mv (.tmp 6) (.int .u64 (c3 a b)) (fun _ => rfl) rfl (hK _ (Mo.refl _))))
    · exact og_eq (.tuple #[.int .u64 ((l3 (a) + l3 (b) + c3 a b) % 18446744073709551616), .int .u64 (c4 a b)]) rfl (fun f wf hq hd K hK => go_run rfl (wo_val (.tuple #[.int .u64 ((l3 (a) + l3 (b) + c3 a b) % 18446744073709551616), .int .u64 (c4 a b)]) (add64_op (l3 a) (l3 b) (c3 a b) ha.2.2.2.1.1 hb.2.2.2.1.1 hc.2.2.1.1 hc.2.2.1.2 _ _ _ (by exact (hd 3 rfl)) (by exact (hd 6 rfl)) (by exact (hd 7 rfl)) _ _ _ _ _ _ _) (hK _ (Mo.refl _))))
    · exact og_eq (.tuple #[.int .u64 ((l3 (a) + l3 (b) + c3 a b) % 18446744073709551616), .int .u64 (c4 a b)]) rfl (fun f wf hq hd K hK => go_run rfl (wo_mv (.tmp 20) (.tuple #[.int .u64 ((l3 (a) + l3 (b) + c3 a b) % 18446744073709551616), .int .u64 (c4 a b)]) (fun _ => rfl) (hd 8 rfl) (hK _ (Mo.refl _))))
    · exact og_eq (.int .u64 ((l3 (a) + l3 (b) + c3 a b) % 18446744073709551616)) rfl (fun f wf hq hd K hK => go_run rfl (wo_un (fun v => Instr.extract v 0) (.tmp 11) (.tuple #[.int .u64 ((l3 (a) + l3 (b) + c3 a b) % 18446744073709551616), .int .u64 (c4 a b)]) (.int .u64 ((l3 (a) + l3 (b) + c3 a b) % 18446744073709551616)) (fun _ => rfl) (hd 9 rfl) (by kernel_rfl) (hK _ (Mo.refl _))))
    · exact og_eq (.int .u64 (c4 a b)) rfl (fun f wf hq hd K hK => go_run rfl (wo_un (fun v => Instr.extract v 1) (.tmp 11) (.tuple #[.int .u64 ((l3 (a) + l3 (b) + c3 a b) % 18446744073709551616), .int .u64 (c4 a b)]) (.int .u64 (c4 a b)) (fun _ => rfl) (hd 9 rfl) (by kernel_rfl) (hK _ (Mo.refl _))))
    · exact og_eq (pt k4 3) rfl (fun f wf hq hd K hK => go_run rfl (wo_bin (fun x y => Instr.indexAt 31 x y) (.tmp 5) (.tmp 12) (pt k4 0) (.int .i64 (3)) (pt k4 3) (fun _ => rfl) rfl (hd 0 rfl) (by kernel_rfl) (hK _ (Mo.refl _))))
  intro kf11 w11 hq hR hne
  replace Q1 := Q1.mo hq
  replace Q2 := Q2.mo hq
  replace Q3 := Q3.mo hq
  replace Q4 := Q4.mo hq
  replace M := M.trans hq
  clear hq hR hne
  refine wl_st1 22 (.tmp 23) (.tmp 21) k4 3 (.int .u64 ((l3 (a) + l3 (b) + c3 a b) % 18446744073709551616)) [.int .u64 ((l0 (a) + l0 (b) + 0) % 18446744073709551616), .int .u64 ((l1 (a) + l1 (b) + c1 a b) % 18446744073709551616), .int .u64 ((l2 (a) + l2 (b) + c2 a b) % 18446744073709551616), .int .u64 0, .int .u64 0] [.int .u64 ((l0 (a) + l0 (b) + 0) % 18446744073709551616), .int .u64 ((l1 (a) + l1 (b) + c1 a b) % 18446744073709551616), .int .u64 ((l2 (a) + l2 (b) + c2 a b) % 18446744073709551616), .int .u64 ((l3 (a) + l3 (b) + c3 a b) % 18446744073709551616), .int .u64 0] Q4 rfl rfl rfl rfl rfl sz22 rfl rfl rfl rfl ?_
  intro w12 hS Qn
  replace Q4 := Qn
  clear Qn
  replace Q1 := hS.other _ _ ne_k1_k4 Q1
  replace Q2 := hS.other _ _ ne_k2_k4 Q2
  replace Q3 := hS.other _ _ ne_k3_k4 Q3
  replace M := hS.mo _ N_k4 M
  clear hS
  refine wl_mv (.tmp 22) (.int .u64 (c4 a b)) (fun _ => rfl) rfl rfl ?_
  refine w_nil ?_
  refine xn_blk ?_
  refine xn_then ?_
  refine w_reg ?_
  refine wl_bin (fun x y => do eqGuard .add 3 (.tmp 8) (.const (.int .i64 (1))) x y; binOp .add 3 x y) (.tmp 8) (.const (.int .i64 (1))) (.int .i64 (3)) (.int .i64 (1)) (.int .i64 (4)) (fun _ => rfl) rfl rfl (by kernel_rfl) rfl ?_
  refine wl_mv (.tmp 24) (.int .i64 (4)) (fun _ => rfl) rfl rfl ?_
  refine w_nil ?_
  refine xn_rounds ?_
  refine w_seq ?_
  refine w_reg ?_
  refine wl_bin (fun x y => do eqGuard .lss 3 (.tmp 8) (.const (.int .i64 (5))) x y; binOp .lss 3 x y) (.tmp 8) (.const (.int .i64 (5))) (.int .i64 (4)) (.int .i64 (5)) (.bool true) (fun _ => rfl) rfl rfl (by kernel_rfl) rfl ?_
  refine w_nil ?_
  refine xn_then ?_
  refine w_seq ?_
  refine w_condT rfl ?_
  refine w_skip ?_
  refine xn_then ?_
  refine w_seq ?_
  refine w_block ?_
  refine w_seq ?_
  refine w_reg ?_
  refine wl_mv (.tmp 8) (.int .i64 (4)) (fun _ => rfl) rfl rfl ?_
  refine wl_mv (.tmp 10) (.int .i64 (4)) (fun _ => rfl) rfl rfl ?_
  refine w_nil ?_
  refine xn_then ?_
  refine w_any 13 [.inl (.int .i64 (4)), .inl (.int .i64 (4)), .inl (pt k1 4), .inl (.int .u64 (l4 (a))), .inl (.int .i64 (4)), .inl (pt k2 4), .inl (.int .u64 (l4 (b))), .inl (.int .u64 (c4 a b)), .inl (.tuple #[.int .u64 ((l4 (a) + l4 (b) + c4 a b) % 18446744073709551616), .int .u64 ((l4 (a) + l4 (b) + c4 a b) / 18446744073709551616)]), .inl (.tuple #[.int .u64 ((l4 (a) + l4 (b) + c4 a b) % 18446744073709551616), .int .u64 ((l4 (a) + l4 (b) + c4 a b) / 18446744073709551616)]), .inl (.int .u64 ((l4 (a) + l4 (b) + c4 a b) % 18446744073709551616)), .inl (.int .u64 ((l4 (a) + l4 (b) + c4 a b) / 18446744073709551616)), .inl (pt k4 4)] [11] (by kernel_rfl) (by kernel_rfl) (by kernel_rfl) (by kernel_rfl) rfl (by kernel_rfl) (by kernel_rfl) (late_cons ⟨_, _, rfl, rfl, fun _ _ _ _ h => h, fun f hd => ⟨rfl, la_un (fun v => Instr.extract v 1) (.tmp 11) (.tuple #[.int .u64 ((l4 (a) + l4 (b) + c4 a b) % 18446744073709551616), .int .u64 ((l4 (a) + l4 (b) + c4 a b) / 18446744073709551616)]) (.int .u64 ((l4 (a) + l4 (b) + c4 a b) / 18446744073709551616)) (fun _ => rfl) (hd 9 rfl _ rfl) (fun w => by kernel_rfl)⟩⟩ late_nil) ?_ ?_ ?_
  · exact Ds.none rfl
  · refine ea_cons ?_ (ea_cons ?_ (ea_cons ?_ (ea_cons ?_ (ea_cons ?_ (ea_cons ?_ (ea_cons ?_ (ea_cons ?_ (ea_cons ?_ (ea_cons ?_ (ea_cons ?_ (ea_cons ?_ (ea_cons ?_ (ea_nil)))))))))))))
    · exact og_eq (.int .i64 (4)) rfl (fun f wf hq hd K hK => go_run rfl (wo_mv (.tmp 7) (.int .i64 (4)) (fun _ => rfl) rfl (hK _ (Mo.refl _))))
    · exact og_eq (.int .i64 (4)) rfl (fun f wf hq hd K hK => go_run rfl (wo_mv (.tmp 7) (.int .i64 (4)) (fun _ => rfl) rfl (hK _ (Mo.refl _))))
    · exact og_eq (pt k1 4) rfl (fun f wf hq hd K hK => go_run rfl (wo_bin (fun x y => Instr.indexAt 31 x y) (.tmp 2) (.tmp 13) (pt k1 0) (.int .i64 (4)) (pt k1 4) (fun _ => rfl) rfl (hd 1 rfl) (by kernel_rfl) (hK _ (Mo.refl _))))
    · exact og_eq (.int .u64 (l4 (a))) rfl (fun f wf hq hd K hK => have Q1 := Q1.mo hq; go_run rfl (wo_load 22 (.tmp 14) (pt k1 4) (.int .u64 (l4 (a))) rfl (hd 2 rfl) (run_one Q1 22 4 rfl Try.underlying22 rfl) (hK _ (Mo.refl _))))
    · exact og_eq (.int .i64 (4)) rfl (fun f wf hq hd K hK => go_run rfl (wo_mv (.tmp 7) (.int .i64 (4)) (fun _ => rfl) rfl (hK _ (Mo.refl _))))
    · exact og_eq (pt k2 4) rfl (fun f wf hq hd K hK => go_run rfl (wo_bin (fun x y => Instr.indexAt 31 x y) (.tmp 3) (.tmp 16) (pt k2 0) (.int .i64 (4)) (pt k2 4) (fun _ => rfl) rfl (hd 4 rfl) (by kernel_rfl) (hK _ (Mo.refl _))))
    · exact og_eq (.int .u64 (l4 (b))) rfl (fun f wf hq hd K hK => have Q2 := Q2.mo hq; go_run rfl (wo_load 22 (.tmp 17) (pt k2 4) (.int .u64 (l4 (b))) rfl (hd 5 rfl) (run_one Q2 22 4 rfl Try.underlying22 rfl) (hK _ (Mo.refl _))))
    · exact og_eq (.int .u64 (c4 a b)) rfl (fun f wf hq hd K hK => go_run rfl (wo_mv (.tmp 6) (.int .u64 (c4 a b)) (fun _ => rfl) rfl (hK _ (Mo.refl _))))
    · exact og_eq (.tuple #[.int .u64 ((l4 (a) + l4 (b) + c4 a b) % 18446744073709551616), .int .u64 ((l4 (a) + l4 (b) + c4 a b) / 18446744073709551616)]) rfl (fun f wf hq hd K hK => go_run rfl (wo_val (.tuple #[.int .u64 ((l4 (a) + l4 (b) + c4 a b) % 18446744073709551616), .int .u64 ((l4 (a) + l4 (b) + c4 a b) / 18446744073709551616)]) (add64_op (l4 a) (l4 b) (c4 a b) ha.2.2.2.2.1 hb.2.2.2.2.1 hc.2.2.2.1 hc.2.2.2.2 _ _ _ (by exact (hd 3 rfl)) (by exact (hd 6 rfl)) (by exact (hd 7 rfl)) _ _ _ _ _ _ _) (hK _ (Mo.refl _))))
    · exact og_eq (.tuple #[.int .u64 ((l4 (a) + l4 (b) + c4 a b) % 18446744073709551616), .int .u64 ((l4 (a) + l4 (b) + c4 a b) / 18446744073709551616)]) rfl (fun f wf hq hd K hK => go_run rfl (wo_mv (.tmp 20) (.tuple #[.int .u64 ((l4 (a) + l4 (b) + c4 a b) % 18446744073709551616), .int .u64 ((l4 (a) + l4 (b) + c4 a b) / 18446744073709551616)]) (fun _ => rfl) (hd 8 rfl) (hK _ (Mo.refl _))))
    · exact og_eq (.int .u64 ((l4 (a) + l4 (b) + c4 a b) % 18446744073709551616)) rfl (fun f wf hq hd K hK => go_run rfl (wo_un (fun v => Instr.extract v 0) (.tmp 11) (.tuple #[.int .u64 ((l4 (a) + l4 (b) + c4 a b) % 18446744073709551616), .int .u64 ((l4 (a) + l4 (b) + c4 a b) / 18446744073709551616)]) (.int .u64 ((l4 (a) + l4 (b) + c4 a b) % 18446744073709551616)) (fun _ => rfl) (hd 9 rfl) (by kernel_rfl) (hK _ (Mo.refl _))))
    · exact og_eq (.int .u64 ((l4 (a) + l4 (b) + c4 a b) / 18446744073709551616)) rfl (fun f wf hq hd K hK => go_run rfl (wo_un (fun v => Instr.extract v 1) (.tmp 11) (.tuple #[.int .u64 ((l4 (a) + l4 (b) + c4 a b) % 18446744073709551616), .int .u64 ((l4 (a) + l4 (b) + c4 a b) / 18446744073709551616)]) (.int .u64 ((l4 (a) + l4 (b) + c4 a b) / 18446744073709551616)) (fun _ => rfl) (hd 9 rfl) (by kernel_rfl) (hK _ (Mo.refl _))))
    · exact og_eq (pt k4 4) rfl (fun f wf hq hd K hK => go_run rfl (wo_bin (fun x y => Instr.indexAt 31 x y) (.tmp 5) (.tmp 12) (pt k4 0) (.int .i64 (4)) (pt k4 4) (fun _ => rfl) rfl (hd 0 rfl) (by kernel_rfl) (hK _ (Mo.refl _))))
  intro kf13 w13 hq hR hne
  replace Q1 := Q1.mo hq
  replace Q2 := Q2.mo hq
  replace Q3 := Q3.mo hq
  replace Q4 := Q4.mo hq
  replace M := M.trans hq
  clear hq hR hne
  refine wl_st1 22 (.tmp 23) (.tmp 21) k4 4 (.int .u64 ((l4 (a) + l4 (b) + c4 a b) % 18446744073709551616)) [.int .u64 ((l0 (a) + l0 (b) + 0) % 18446744073709551616), .int .u64 ((l1 (a) + l1 (b) + c1 a b) % 18446744073709551616), .int .u64 ((l2 (a) + l2 (b) + c2 a b) % 18446744073709551616), .int .u64 ((l3 (a) + l3 (b) + c3 a b) % 18446744073709551616), .int .u64 0] [.int .u64 ((l0 (a) + l0 (b) + 0) % 18446744073709551616), .int .u64 ((l1 (a) + l1 (b) + c1 a b) % 18446744073709551616), .int .u64 ((l2 (a) + l2 (b) + c2 a b) % 18446744073709551616), .int .u64 ((l3 (a) + l3 (b) + c3 a b) % 18446744073709551616), .int .u64 ((l4 (a) + l4 (b) + c4 a b) % 18446744073709551616)] Q4 rfl rfl rfl rfl rfl sz22 rfl rfl rfl rfl ?_
  intro w14 hS Qn
  replace Q4 := Qn
  clear Qn
  replace Q1 := hS.other _ _ ne_k1_k4 Q1
  replace Q2 := hS.other _ _ ne_k2_k4 Q2
  replace Q3 := hS.other _ _ ne_k3_k4 Q3
  replace M := hS.mo _ N_k4 M
  clear hS
  refine wl_mv (.tmp 22) (.int .u64 ((l4 (a) + l4 (b) + c4 a b) / 18446744073709551616)) (fun _ => rfl) rfl rfl ?_
  refine w_nil ?_
  refine xn_blk ?_
  refine xn_then ?_
  refine w_reg ?_
  refine wl_bin (fun x y => do eqGuard .add 3 (.tmp 8) (.const (.int .i64 (1))) x y; binOp .add 3 x y) (.tmp 8) (.const (.int .i64 (1))) (.int .i64 (4)) (.int .i64 (1)) (.int .i64 (5)) (fun _ => rfl) rfl rfl (by kernel_rfl) rfl ?_
  refine wl_mv (.tmp 24) (.int .i64 (5)) (fun _ => rfl) rfl rfl ?_
  refine w_nil ?_
  refine xn_rounds ?_
  refine w_seq ?_
  refine w_reg ?_
  refine wl_bin (fun x y => do eqGuard .lss 3 (.tmp 8) (.const (.int .i64 (5))) x y; binOp .lss 3 x y) (.tmp 8) (.const (.int .i64 (5))) (.int .i64 (5)) (.int .i64 (5)) (.bool false) (fun _ => rfl) rfl rfl (by kernel_rfl) rfl ?_
  refine w_nil ?_
  refine xn_then ?_
  refine w_seq ?_
  refine w_condF rfl ?_
  refine w_exit ?_
  refine xx_then ?_
  refine xx_then ?_
  refine xx_blk ?_
  refine xn_then ?_
  refine w_seq ?_
  refine w_reg ?_
  refine wl_load 31 (.tmp 5) (pt k4 0) (.agg #[.int .u64 ((l0 (a) + l0 (b) + 0) % 18446744073709551616), .int .u64 ((l1 (a) + l1 (b) + c1 a b) % 18446744073709551616), .int .u64 ((l2 (a) + l2 (b) + c2 a b) % 18446744073709551616), .int .u64 ((l3 (a) + l3 (b) + c3 a b) % 18446744073709551616), .int .u64 ((l4 (a) + l4 (b) + c4 a b) % 18446744073709551616)]) rfl rfl (run_row Q4 31 0 5 [.int .u64 ((l0 (a) + l0 (b) + 0) % 18446744073709551616), .int .u64 ((l1 (a) + l1 (b) + c1 a b) % 18446744073709551616), .int .u64 ((l2 (a) + l2 (b) + c2 a b) % 18446744073709551616), .int .u64 ((l3 (a) + l3 (b) + c3 a b) % 18446744073709551616), .int .u64 ((l4 (a) + l4 (b) + c4 a b) % 18446744073709551616)] rfl Try.underlying31 rfl sz31) rfl ?_
  refine wl_st 31 (.tmp 4) (.tmp 25) k3 0 #[.int .u64 ((l0 (a) + l0 (b) + 0) % 18446744073709551616), .int .u64 ((l1 (a) + l1 (b) + c1 a b) % 18446744073709551616), .int .u64 ((l2 (a) + l2 (b) + c2 a b) % 18446744073709551616), .int .u64 ((l3 (a) + l3 (b) + c3 a b) % 18446744073709551616), .int .u64 ((l4 (a) + l4 (b) + c4 a b) % 18446744073709551616)] [.int .u64 0, .int .u64 0, .int .u64 0, .int .u64 0, .int .u64 0] [.int .u64 ((l0 (a) + l0 (b) + 0) % 18446744073709551616), .int .u64 ((l1 (a) + l1 (b) + c1 a b) % 18446744073709551616), .int .u64 ((l2 (a) + l2 (b) + c2 a b) % 18446744073709551616), .int .u64 ((l3 (a) + l3 (b) + c3 a b) % 18446744073709551616), .int .u64 ((l4 (a) + l4 (b) + c4 a b) % 18446744073709551616)] Q3 rfl rfl rfl rfl rfl sz31 rfl rfl rfl ?_
  intro w15 hS Qn
  replace Q3 := Qn
  clear Qn
  replace Q1 := hS.other _ _ ne_k1_k3 Q1
  replace Q2 := hS.other _ _ ne_k2_k3 Q2
  replace Q4 := hS.other _ _ ne_k3_k4.symm Q4
  replace M := hS.mo _ N_k3 M
  clear hS
  refine w_nil ?_
  refine xn_then ?_
  refine w_ret ?_
  exact w_ret1 _ (.agg #[.int .u64 ((l0 (a) + l0 (b) + 0) % 18446744073709551616), .int .u64 ((l1 (a) + l1 (b) + c1 a b) % 18446744073709551616), .int .u64 ((l2 (a) + l2 (b) + c2 a b) % 18446744073709551616), .int .u64 ((l3 (a) + l3 (b) + c3 a b) % 18446744073709551616), .int .u64 ((l4 (a) + l4 (b) + c4 a b) % 18446744073709551616)]) rfl ⟨k3, rfl, (run_row Q3 31 0 5 [.int .u64 ((l0 (a) + l0 (b) + 0) % 18446744073709551616), .int .u64 ((l1 (a) + l1 (b) + c1 a b) % 18446744073709551616), .int .u64 ((l2 (a) + l2 (b) + c2 a b) % 18446744073709551616), .int .u64 ((l3 (a) + l3 (b) + c3 a b) % 18446744073709551616), .int .u64 ((l4 (a) + l4 (b) + c4 a b) % 18446744073709551616)] rfl Try.underlying31 rfl sz31)⟩ ⟨by rw [show wv (a + b) = _ from rfl]; unfold wv; rw [e0, e1, e2, e3, e4], M⟩
end
end Go.Proofs.Ythpekbohmfmffaa
/-
  Limbs at a place; what is done with whole words.
-/
namespace Go.Proofs.Ythpekbohmfmffaa
open Go.RowKit
def wll (v : Int) : List Value := [.int .u64 (l0 v), .int .u64 (l1 v), .int .u64 (l2 v), .int .u64 (l3 v), .int .u64 (l4 v)]
def wla (v : Int) : Array Value := #[.int .u64 (l0 v), .int .u64 (l1 v), .int .u64 (l2 v), .int .u64 (l3 v), .int .u64 (l4 v)]
theorem wll_at (v : Int) {q : Nat} (h : q < 5) : (wll v)[q]? = some (.int .u64 (lim q v)) := by
  obtain ⟨e0, e1, e2, e3, e4⟩ := lim_is v
  have : q = 0 ∨ q = 1 ∨ q = 2 ∨ q = 3 ∨ q = 4 := by omega
  rcases this with rfl | rfl | rfl | rfl | rfl
  · rw [e0]; rfl
  · rw [e1]; rfl
  · rw [e2]; rfl
  · rw [e3]; rfl
  · rw [e4]; rfl
theorem wll_set {x y : Int} {q : Nat} (h : q < 5) {z : Int} (hz : lim q y = z) (ho : ∀ j, j ≠ q → lim j y = lim j x) : wll y = (wll x).take q ++ [.int .u64 z] ++ (wll x).drop (q + 1) := by
  obtain ⟨e0, e1, e2, e3, e4⟩ := lim_is x
  obtain ⟨f0, f1, f2, f3, f4⟩ := lim_is y
  subst hz
  have : q = 0 ∨ q = 1 ∨ q = 2 ∨ q = 3 ∨ q = 4 := by omega
  have o0 := ho 0; have o1 := ho 1; have o2 := ho 2; have o3 := ho 3; have o4 := ho 4
  rw [e0, f0] at o0; rw [e1, f1] at o1; rw [e2, f2] at o2; rw [e3, f3] at o3; rw [e4, f4] at o4
  rcases this with rfl | rfl | rfl | rfl | rfl
  · rw [f0, show wll y = [.int .u64 (l0 y), .int .u64 (l1 y), .int .u64 (l2 y), .int .u64 (l3 y), .int .u64 (l4 y)] from rfl, o1 (by decide), o2 (by decide), o3 (by decide), o4 (by decide)]; rfl
  · rw [f1, show wll y = [.int .u64 (l0 y), .int .u64 (l1 y), .int .u64 (l2 y), .int .u64 (l3 y), .int .u64 (l4 y)] from rfl, o0 (by decide), o2 (by decide), o3 (by decide), o4 (by decide)]; rfl
  · rw [f2, show wll y = [.int .u64 (l0 y), .int .u64 (l1 y), .int .u64 (l2 y), .int .u64 (l3 y), .int .u64 (l4 y)] from rfl, o0 (by decide), o1 (by decide), o3 (by decide), o4 (by decide)]; rfl
  · rw [f3, show wll y = [.int .u64 (l0 y), .int .u64 (l1 y), .int .u64 (l2 y), .int .u64 (l3 y), .int .u64 (l4 y)] from rfl, o0 (by decide), o1 (by decide), o2 (by decide), o4 (by decide)]; rfl
  · rw [f4, show wll y = [.int .u64 (l0 y), .int .u64 (l1 y), .int .u64 (l2 y), .int .u64 (l3 y), .int .u64 (l4 y)] from rfl, o0 (by decide), o1 (by decide), o2 (by decide), o3 (by decide)]; rfl
theorem notU {x y : Int} (h0 : 0 ≤ x ∧ x < 18446744073709551616) (h : y = 18446744073709551615 - x) (w : World) : (Op.unary .xor (.int .u64 x)).run Try.prog w = .ok (.int .u64 y) w := by
  have e : (Op.unary .xor (.int .u64 x)).run Try.prog w = .ok (.int .u64 (bits .xor .u64 IntKind.u64.max x)) w := by kernel_rfl
  rw [e, bnot x h0.1 h0.2, h]
theorem quoN {n : Nat} (hn : n ≤ 9223372036854775807) (x y : Operand) (w : World) : (do eqGuard .quo 3 x y (.int .i64 (n : Int)) (.int .i64 64); binOp .quo 3 (.int .i64 (n : Int)) (.int .i64 64)).run Try.prog w = .ok (.int .i64 ((n / 64 : Nat) : Int)) w := by
  have e : (do eqGuard .quo 3 x y (.int .i64 (n : Int)) (.int .i64 64); binOp .quo 3 (.int .i64 (n : Int)) (.int .i64 64)).run Try.prog w = .ok (.int .i64 (IntKind.i64.wrap (Int.tdiv (n : Int) 64))) w := by kernel_rfl
  have h2 : IntKind.i64.wrap (Int.tdiv (n : Int) 64) = ((n / 64 : Nat) : Int) := by
    rw [Int.tdiv_eq_ediv_of_nonneg (by omega), IntKind.wrap_i64]; omega
  rw [e, h2]
theorem remN {n : Nat} (x y : Operand) (w : World) : (do eqGuard .rem 3 x y (.int .i64 (n : Int)) (.int .i64 64); binOp .rem 3 (.int .i64 (n : Int)) (.int .i64 64)).run Try.prog w = .ok (.int .i64 ((n % 64 : Nat) : Int)) w := by
  have e : (do eqGuard .rem 3 x y (.int .i64 (n : Int)) (.int .i64 64); binOp .rem 3 (.int .i64 (n : Int)) (.int .i64 64)).run Try.prog w = .ok (.int .i64 (Int.tmod (n : Int) 64)) w := by kernel_rfl
  have h2 : Int.tmod (n : Int) 64 = ((n % 64 : Nat) : Int) := by
    rw [Int.tmod_eq_emod_of_nonneg (by omega)]; omega
  rw [e, h2]
theorem shrU {x : Int} {r : Nat} (hr : r < 64) (a b : Operand) (w : World) : (do eqGuard .shr 22 a b (.int .u64 x) (.int .i64 (r : Int)); binOp .shr 22 (.int .u64 x) (.int .i64 (r : Int))).run Try.prog w = .ok (.int .u64 (x / 2 ^ r)) w := by
  simp [go_sem]
theorem shlU {x : Int} {r : Nat} (hr : r < 64) (h : 0 ≤ x * 2 ^ r) (h2 : x * 2 ^ r < 18446744073709551616) (a b : Operand) (w : World) : (do eqGuard .shl 22 a b (.int .u64 x) (.int .i64 (r : Int)); binOp .shl 22 (.int .u64 x) (.int .i64 (r : Int))).run Try.prog w = .ok (.int .u64 (x * 2 ^ r)) w := by
  have e : IntKind.u64.wrap (x * 2 ^ r) = x * 2 ^ r := by rw [IntKind.wrap_u64]; omega
  simp [go_sem, e]
theorem and1U {x : Int} (h : 0 ≤ x ∧ x < 18446744073709551616) (a b : Operand) (w : World) : (do eqGuard .and 22 a b (.int .u64 x) (.int .u64 1); binOp .and 22 (.int .u64 x) (.int .u64 1)).run Try.prog w = .ok (.int .u64 (x % 2)) w := by
  have e : (do eqGuard .and 22 a b (.int .u64 x) (.int .u64 1); binOp .and 22 (.int .u64 x) (.int .u64 1)).run Try.prog w = .ok (.int .u64 (bits .and .u64 x 1)) w := by kernel_rfl
  rw [e, and_one x h.1 h.2]
theorem addU {x y : Int} (h0 : 0 ≤ x + y) (h : x + y < 18446744073709551616) (a b : Operand) (w : World) : (do eqGuard .add 22 a b (.int .u64 x) (.int .u64 y); binOp .add 22 (.int .u64 x) (.int .u64 y)).run Try.prog w = .ok (.int .u64 (x + y)) w := by
  have e : (do eqGuard .add 22 a b (.int .u64 x) (.int .u64 y); binOp .add 22 (.int .u64 x) (.int .u64 y)).run Try.prog w = .ok (.int .u64 (IntKind.u64.wrap (x + y))) w := by kernel_rfl
  have e2 : IntKind.u64.wrap (x + y) = x + y := by rw [IntKind.wrap_u64]; omega
  rw [e, e2]
theorem rem2U {x : Int} (h0 : 0 ≤ x) (a b : Operand) (w : World) : (do eqGuard .rem 22 a b (.int .u64 x) (.int .u64 2); binOp .rem 22 (.int .u64 x) (.int .u64 2)).run Try.prog w = .ok (.int .u64 (x % 2)) w := by
  have e : (do eqGuard .rem 22 a b (.int .u64 x) (.int .u64 2); binOp .rem 22 (.int .u64 x) (.int .u64 2)).run Try.prog w = .ok (.int .u64 (Int.tmod x 2)) w := by kernel_rfl
  rw [e, Int.tmod_eq_emod_of_nonneg h0]
theorem quo2U {x : Int} (h0 : 0 ≤ x) (h : x < 18446744073709551616) (a b : Operand) (w : World) : (do eqGuard .quo 22 a b (.int .u64 x) (.int .u64 2); binOp .quo 22 (.int .u64 x) (.int .u64 2)).run Try.prog w = .ok (.int .u64 (x / 2)) w := by
  have e : (do eqGuard .quo 22 a b (.int .u64 x) (.int .u64 2); binOp .quo 22 (.int .u64 x) (.int .u64 2)).run Try.prog w = .ok (.int .u64 (IntKind.u64.wrap (Int.tdiv x 2))) w := by kernel_rfl
  have e2 : IntKind.u64.wrap (Int.tdiv x 2) = x / 2 := by rw [Int.tdiv_eq_ediv_of_nonneg h0, IntKind.wrap_u64]; omega
  rw [e, e2]
theorem orU {x y : Int} {r : Nat} (hx : 0 ≤ x) (hx2 : x < 2 ^ r) (hy : 0 ≤ y) (h : y * 2 ^ r + x < 18446744073709551616) (a b : Operand) (w : World) : (do eqGuard .or 22 a b (.int .u64 x) (.int .u64 (y * 2 ^ r)); binOp .or 22 (.int .u64 x) (.int .u64 (y * 2 ^ r))).run Try.prog w = .ok (.int .u64 (x + y * 2 ^ r)) w := by
  have e : (do eqGuard .or 22 a b (.int .u64 x) (.int .u64 (y * 2 ^ r)); binOp .or 22 (.int .u64 x) (.int .u64 (y * 2 ^ r))).run Try.prog w = .ok (.int .u64 (bits .or .u64 x (y * 2 ^ r))) w := by kernel_rfl
  rw [e, or_join' y x r hy hx hx2 h]
theorem ia31_0 (k : Nat) (w : World) : (Instr.indexAt 31 (pt k 0) (.int .i64 0)).run Try.prog w = .ok (pt k 0) w := by kernel_rfl
theorem ia31_1 (k : Nat) (w : World) : (Instr.indexAt 31 (pt k 0) (.int .i64 1)).run Try.prog w = .ok (pt k 1) w := by kernel_rfl
theorem ia31_2 (k : Nat) (w : World) : (Instr.indexAt 31 (pt k 0) (.int .i64 2)).run Try.prog w = .ok (pt k 2) w := by kernel_rfl
theorem ia31_3 (k : Nat) (w : World) : (Instr.indexAt 31 (pt k 0) (.int .i64 3)).run Try.prog w = .ok (pt k 3) w := by kernel_rfl
theorem ia31_4 (k : Nat) (w : World) : (Instr.indexAt 31 (pt k 0) (.int .i64 4)).run Try.prog w = .ok (pt k 4) w := by kernel_rfl
theorem ia31 (k q : Nat) (h : q < 5) (w : World) : (Instr.indexAt 31 (pt k 0) (.int .i64 (q : Int))).run Try.prog w = .ok (pt k q) w := by
  have : q = 0 ∨ q = 1 ∨ q = 2 ∨ q = 3 ∨ q = 4 := by omega
  rcases this with rfl | rfl | rfl | rfl | rfl
  · exact ia31_0 k w
  · exact ia31_1 k w
  · exact ia31_2 k w
  · exact ia31_3 k w
  · exact ia31_4 k w
theorem bit_lim (v : Int) (k r : Nat) (hr : r < 64) : lim k v / 2 ^ r % 2 = v / 2 ^ (64 * k + r) % 2 := by
  unfold lim
  rw [div_pow_split, ← bit_low (v / 2 ^ (64 * k) % 18446744073709551616) (v / 2 ^ (64 * k) / 18446744073709551616) r hr]
  congr 2
  omega
theorem lim_u (k : Nat) (v : Int) : 0 ≤ lim k v ∧ lim k v < 18446744073709551616 := by unfold lim; omega
theorem ltN {a b : Nat} {r : Bool} (h : decide (a < b) = r) (x y : Operand) (w : World) : (do eqGuard .lss 3 x y (.int .i64 (a : Int)) (.int .i64 (b : Int)); binOp .lss 3 (.int .i64 (a : Int)) (.int .i64 (b : Int))).run Try.prog w = .ok (.bool r) w := by
  have e : (do eqGuard .lss 3 x y (.int .i64 (a : Int)) (.int .i64 (b : Int)); binOp .lss 3 (.int .i64 (a : Int)) (.int .i64 (b : Int))).run Try.prog w = .ok (.bool (decide ((a : Int) < (b : Int)))) w := by kernel_rfl
  rw [e, ← h]; simp
theorem add1N {k : Nat} (hk : k ≤ 9223372036854775806) (x y : Operand) (w : World) : (do eqGuard .add 3 x y (.int .i64 (k : Int)) (.int .i64 1); binOp .add 3 (.int .i64 (k : Int)) (.int .i64 1)).run Try.prog w = .ok (.int .i64 ((k + 1 : Nat) : Int)) w := by
  have e : (do eqGuard .add 3 x y (.int .i64 (k : Int)) (.int .i64 1); binOp .add 3 (.int .i64 (k : Int)) (.int .i64 1)).run Try.prog w = .ok (.int .i64 (IntKind.i64.wrap ((k : Int) + 1))) w := by kernel_rfl
  have e2 : IntKind.i64.wrap ((k : Int) + 1) = ((k + 1 : Nat) : Int) := by rw [IntKind.wrap_i64]; omega
  rw [e, e2]
end Go.Proofs.Ythpekbohmfmffaa
/-
  minus, and the document's bit and AddWide.
-/
namespace Go.Proofs.Ythpekbohmfmffaa
open Go.RowKit
section
variable {w : World}
theorem minus_n (a : Int) : Calls Try.prog 37 #[wv a] w fun e w' => e = .returned (wv (-a)) ∧ Mo w w' := by
  have hl := l_bd a
  have hn := not_l a
  refine w_enter 17 Try.func37 Try.ntmps37 rfl rfl ?_
  have M : Mo w w := Mo.refl _
  refine w_seq ?_
  refine w_reg ?_
  refine wl_box 31 (.tmp 0) (.agg #[.int .u64 (l0 (a)), .int .u64 (l1 (a)), .int .u64 (l2 (a)), .int .u64 (l3 (a)), .int .u64 (l4 (a))]) (#[.int .u64 (l0 (a)), .int .u64 (l1 (a)), .int .u64 (l2 (a)), .int .u64 (l3 (a)), .int .u64 (l4 (a))]) rfl rfl (fun _ => by kernel_rfl) rfl ?_
  intro k1 w1 hk hz hq Q1
  have N_k1 : w.heap.size ≤ k1 := by have := M.size; omega
  replace M := M.trans hq
  clear hk hz hq
  refine wl_alloc 31 #[.int .u64 0, .int .u64 0, .int .u64 0, .int .u64 0, .int .u64 0] rfl (fun _ => by kernel_rfl) rfl ?_
  intro k2 w2 hk hz hq Q2
  have ne_k1_k2 : k1 ≠ k2 := by have := Q1.lt; omega
  have N_k2 : w.heap.size ≤ k2 := by have := M.size; omega
  replace Q1 := Q1.mo hq
  replace M := M.trans hq
  clear hk hz hq
  refine w_nil ?_
  refine xn_then ?_
  refine w_seq ?_
  refine w_seq ?_
  refine w_reg ?_
  refine wl_mv (.const (.int .i64 (0))) (.int .i64 (0)) (fun _ => rfl) rfl rfl ?_
  refine w_nil ?_
  refine xn_then ?_
  refine w_block ?_
  refine w_rounds 5 ?_
  refine w_seq ?_
  refine w_reg ?_
  refine wl_bin (fun x y => do eqGuard .lss 3 (.tmp 4) (.const (.int .i64 (5))) x y; binOp .lss 3 x y) (.tmp 4) (.const (.int .i64 (5))) (.int .i64 (0)) (.int .i64 (5)) (.bool true) (fun _ => rfl) rfl rfl (by kernel_rfl) rfl ?_
  refine w_nil ?_
  refine xn_then ?_
  refine w_seq ?_
  refine w_condT rfl ?_
  refine w_skip ?_
  refine xn_then ?_
  refine w_seq ?_
  refine w_block ?_
  refine w_seq ?_
  refine w_reg ?_
  refine wl_mv (.tmp 4) (.int .i64 (0)) (fun _ => rfl) rfl rfl ?_
  refine wl_mv (.tmp 6) (.int .i64 (0)) (fun _ => rfl) rfl rfl ?_
  refine w_nil ?_
  refine xn_then ?_
  refine w_reg ?_
  refine wl_mv (.tmp 3) (.int .i64 (0)) (fun _ => rfl) rfl rfl ?_
  refine wl_mv (.tmp 3) (.int .i64 (0)) (fun _ => rfl) rfl rfl ?_
  refine wl_bin (fun x y => Instr.indexAt 31 x y) (.tmp 1) (.tmp 8) (pt k1 0) (.int .i64 (0)) (pt k1 0) (fun _ => rfl) rfl rfl (by kernel_rfl) rfl ?_
  refine wl_load 22 (.tmp 9) (pt k1 0) (.int .u64 (l0 (a))) rfl rfl (run_one Q1 22 0 rfl Try.underlying22 rfl) rfl ?_
  refine wl_un (fun v => Op.unary .xor v) (.tmp 10) (.int .u64 (l0 (a))) (.int .u64 (l0 (-1 - a))) (fun _ => rfl) rfl (notU hl.1 hn.1 _) rfl ?_
  refine wl_bin (fun x y => Instr.indexAt 31 x y) (.tmp 1) (.tmp 7) (pt k1 0) (.int .i64 (0)) (pt k1 0) (fun _ => rfl) rfl rfl (by kernel_rfl) rfl ?_
  refine wl_st1 22 (.tmp 12) (.tmp 11) k1 0 (.int .u64 (l0 (-1 - a))) [.int .u64 (l0 (a)), .int .u64 (l1 (a)), .int .u64 (l2 (a)), .int .u64 (l3 (a)), .int .u64 (l4 (a))] [.int .u64 (l0 (-1 - a)), .int .u64 (l1 (a)), .int .u64 (l2 (a)), .int .u64 (l3 (a)), .int .u64 (l4 (a))] Q1 rfl rfl rfl rfl rfl sz22 rfl rfl rfl rfl ?_
  intro w3 hS Qn
  replace Q1 := Qn
  clear Qn
  replace Q2 := hS.other _ _ ne_k1_k2.symm Q2
  replace M := hS.mo _ N_k1 M
  clear hS
  refine w_nil ?_
  refine xn_blk ?_
  refine xn_then ?_
  refine w_reg ?_
  refine wl_bin (fun x y => do eqGuard .add 3 (.tmp 4) (.const (.int .i64 (1))) x y; binOp .add 3 x y) (.tmp 4) (.const (.int .i64 (1))) (.int .i64 (0)) (.int .i64 (1)) (.int .i64 (1)) (fun _ => rfl) rfl rfl (by kernel_rfl) rfl ?_
  refine wl_mv (.tmp 13) (.int .i64 (1)) (fun _ => rfl) rfl rfl ?_
  refine w_nil ?_
  refine xn_rounds ?_
  refine w_seq ?_
  refine w_reg ?_
  refine wl_bin (fun x y => do eqGuard .lss 3 (.tmp 4) (.const (.int .i64 (5))) x y; binOp .lss 3 x y) (.tmp 4) (.const (.int .i64 (5))) (.int .i64 (1)) (.int .i64 (5)) (.bool true) (fun _ => rfl) rfl rfl (by kernel_rfl) rfl ?_
  refine w_nil ?_
  refine xn_then ?_
  refine w_seq ?_
  refine w_condT rfl ?_
  refine w_skip ?_
  refine xn_then ?_
  refine w_seq ?_
  refine w_block ?_
  refine w_seq ?_
  refine w_reg ?_
  refine wl_mv (.tmp 4) (.int .i64 (1)) (fun _ => rfl) rfl rfl ?_
  refine wl_mv (.tmp 6) (.int .i64 (1)) (fun _ => rfl) rfl rfl ?_
  refine w_nil ?_
  refine xn_then ?_
  refine w_reg ?_
  refine wl_mv (.tmp 3) (.int .i64 (1)) (fun _ => rfl) rfl rfl ?_
  refine wl_mv (.tmp 3) (.int .i64 (1)) (fun _ => rfl) rfl rfl ?_
  refine wl_bin (fun x y => Instr.indexAt 31 x y) (.tmp 1) (.tmp 8) (pt k1 0) (.int .i64 (1)) (pt k1 1) (fun _ => rfl) rfl rfl (by kernel_rfl) rfl ?_
  refine wl_load 22 (.tmp 9) (pt k1 1) (.int .u64 (l1 (a))) rfl rfl (run_one Q1 22 1 rfl Try.underlying22 rfl) rfl ?_
  refine wl_un (fun v => Op.unary .xor v) (.tmp 10) (.int .u64 (l1 (a))) (.int .u64 (l1 (-1 - a))) (fun _ => rfl) rfl (notU hl.2.1 hn.2.1 _) rfl ?_
  refine wl_bin (fun x y => Instr.indexAt 31 x y) (.tmp 1) (.tmp 7) (pt k1 0) (.int .i64 (1)) (pt k1 1) (fun _ => rfl) rfl rfl (by kernel_rfl) rfl ?_
  refine wl_st1 22 (.tmp 12) (.tmp 11) k1 1 (.int .u64 (l1 (-1 - a))) [.int .u64 (l0 (-1 - a)), .int .u64 (l1 (a)), .int .u64 (l2 (a)), .int .u64 (l3 (a)), .int .u64 (l4 (a))] [.int .u64 (l0 (-1 - a)), .int .u64 (l1 (-1 - a)), .int .u64 (l2 (a)), .int .u64 (l3 (a)), .int .u64 (l4 (a))] Q1 rfl rfl rfl rfl rfl sz22 rfl rfl rfl rfl ?_
  intro w4 hS Qn
  replace Q1 := Qn
  clear Qn
  replace Q2 := hS.other _ _ ne_k1_k2.symm Q2
  replace M := hS.mo _ N_k1 M
  clear hS
  refine w_nil ?_
  refine xn_blk ?_
  refine xn_then ?_
  refine w_reg ?_
  refine wl_bin (fun x y => do eqGuard .add 3 (.tmp 4) (.const (.int .i64 (1))) x y; binOp .add 3 x y) (.tmp 4) (.const (.int .i64 (1))) (.int .i64 (1)) (.int .i64 (1)) (.int .i64 (2)) (fun _ => rfl) rfl rfl (by kernel_rfl) rfl ?_
  refine wl_mv (.tmp 13) (.int .i64 (2)) (fun _ => rfl) rfl rfl ?_
  refine w_nil ?_
  refine xn_rounds ?_
  refine w_seq ?_
  refine w_reg ?_
  refine wl_bin (fun x y => do eqGuard .lss 3 (.tmp 4) (.const (.int .i64 (5))) x y; binOp .lss 3 x y) (.tmp 4) (.const (.int .i64 (5))) (.int .i64 (2)) (.int .i64 (5)) (.bool true) (fun _ => rfl) rfl rfl (by kernel_rfl) rfl ?_
  refine w_nil ?_
  refine xn_then ?_
  refine w_seq ?_
  refine w_condT rfl ?_
  refine w_skip ?_
  refine xn_then ?_
  refine w_seq ?_
  refine w_block ?_
  refine w_seq ?_
  refine w_reg ?_
  refine wl_mv (.tmp 4) (.int .i64 (2)) (fun _ => rfl) rfl rfl ?_
  refine wl_mv (.tmp 6) (.int .i64 (2)) (fun _ => rfl) rfl rfl ?_
  refine w_nil ?_
  refine xn_then ?_
  refine w_reg ?_
  refine wl_mv (.tmp 3) (.int .i64 (2)) (fun _ => rfl) rfl rfl ?_
  refine wl_mv (.tmp 3) (.int .i64 (2)) (fun _ => rfl) rfl rfl ?_
  refine wl_bin (fun x y => Instr.indexAt 31 x y) (.tmp 1) (.tmp 8) (pt k1 0) (.int .i64 (2)) (pt k1 2) (fun _ => rfl) rfl rfl (by kernel_rfl) rfl ?_
  refine wl_load 22 (.tmp 9) (pt k1 2) (.int .u64 (l2 (a))) rfl rfl (run_one Q1 22 2 rfl Try.underlying22 rfl) rfl ?_
  refine wl_un (fun v => Op.unary .xor v) (.tmp 10) (.int .u64 (l2 (a))) (.int .u64 (l2 (-1 - a))) (fun _ => rfl) rfl (notU hl.2.2.1 hn.2.2.1 _) rfl ?_
  refine wl_bin (fun x y => Instr.indexAt 31 x y) (.tmp 1) (.tmp 7) (pt k1 0) (.int .i64 (2)) (pt k1 2) (fun _ => rfl) rfl rfl (by kernel_rfl) rfl ?_
  refine wl_st1 22 (.tmp 12) (.tmp 11) k1 2 (.int .u64 (l2 (-1 - a))) [.int .u64 (l0 (-1 - a)), .int .u64 (l1 (-1 - a)), .int .u64 (l2 (a)), .int .u64 (l3 (a)), .int .u64 (l4 (a))] [.int .u64 (l0 (-1 - a)), .int .u64 (l1 (-1 - a)), .int .u64 (l2 (-1 - a)), .int .u64 (l3 (a)), .int .u64 (l4 (a))] Q1 rfl rfl rfl rfl rfl sz22 rfl rfl rfl rfl ?_
  intro w5 hS Qn
  replace Q1 := Qn
  clear Qn
  replace Q2 := hS.other _ _ ne_k1_k2.symm Q2
  replace M := hS.mo _ N_k1 M
  clear hS
  refine w_nil ?_
  refine xn_blk ?_
  refine xn_then ?_
  refine w_reg ?_
  refine wl_bin (fun x y => do eqGuard .add 3 (.tmp 4) (.const (.int .i64 (1))) x y; binOp .add 3 x y) (.tmp 4) (.const (.int .i64 (1))) (.int .i64 (2)) (.int .i64 (1)) (.int .i64 (3)) (fun _ => rfl) rfl rfl (by kernel_rfl) rfl ?_
  refine wl_mv (.tmp 13) (.int .i64 (3)) (fun _ => rfl) rfl rfl ?_
  refine w_nil ?_
  refine xn_rounds ?_
  refine w_seq ?_
  refine w_reg ?_
  refine wl_bin (fun x y => do eqGuard .lss 3 (.tmp 4) (.const (.int .i64 (5))) x y; binOp .lss 3 x y) (.tmp 4) (.const (.int .i64 (5))) (.int .i64 (3)) (.int .i64 (5)) (.bool true) (fun _ => rfl) rfl rfl (by kernel_rfl) rfl ?_
  refine w_nil ?_
  refine xn_then ?_
  refine w_seq ?_
  refine w_condT rfl ?_
  refine w_skip ?_
  refine xn_then ?_
  refine w_seq ?_
  refine w_block ?_
  refine w_seq ?_
  refine w_reg ?_
  refine wl_mv (.tmp 4) (.int .i64 (3)) (fun _ => rfl) rfl rfl ?_
  refine wl_mv (.tmp 6) (.int .i64 (3)) (fun _ => rfl) rfl rfl ?_
  refine w_nil ?_
  refine xn_then ?_
  refine w_reg ?_
  refine wl_mv (.tmp 3) (.int .i64 (3)) (fun _ => rfl) rfl rfl ?_
  refine wl_mv (.tmp 3) (.int .i64 (3)) (fun _ => rfl) rfl rfl ?_
  refine wl_bin (fun x y => Instr.indexAt 31 x y) (.tmp 1) (.tmp 8) (pt k1 0) (.int .i64 (3)) (pt k1 3) (fun _ => rfl) rfl rfl (by kernel_rfl) rfl ?_
  refine wl_load 22 (.tmp 9) (pt k1 3) (.int .u64 (l3 (a))) rfl rfl (run_one Q1 22 3 rfl Try.underlying22 rfl) rfl ?_
  refine wl_un (fun v => Op.unary .xor v) (.tmp 10) (.int .u64 (l3 (a))) (.int .u64 (l3 (-1 - a))) (fun _ => rfl) rfl (notU hl.2.2.2.1 hn.2.2.2.1 _) rfl ?_
  refine wl_bin (fun x y => Instr.indexAt 31 x y) (.tmp 1) (.tmp 7) (pt k1 0) (.int .i64 (3)) (pt k1 3) (fun _ => rfl) rfl rfl (by kernel_rfl) rfl ?_
  refine wl_st1 22 (.tmp 12) (.tmp 11) k1 3 (.int .u64 (l3 (-1 - a))) [.int .u64 (l0 (-1 - a)), .int .u64 (l1 (-1 - a)), .int .u64 (l2 (-1 - a)), .int .u64 (l3 (a)), .int .u64 (l4 (a))] [.int .u64 (l0 (-1 - a)), .int .u64 (l1 (-1 - a)), .int .u64 (l2 (-1 - a)), .int .u64 (l3 (-1 - a)), .int .u64 (l4 (a))] Q1 rfl rfl rfl rfl rfl sz22 rfl rfl rfl rfl ?_
  intro w6 hS Qn
  replace Q1 := Qn
  clear Qn
  replace Q2 := hS.other _ _ ne_k1_k2.symm Q2
  replace M := hS.mo _ N_k1 M
  clear hS
  refine w_nil ?_
  refine xn_blk ?_
  refine xn_then ?_
  refine w_reg ?_
  refine wl_bin (fun x y => do eqGuard .add 3 (.tmp 4) (.const (.int .i64 (1))) x y; binOp .add 3 x y) (.tmp 4) (.const (.int .i64 (1))) (.int .i64 (3)) (.int .i64 (1)) (.int .i64 (4)) (fun _ => rfl) rfl rfl (by kernel_rfl) rfl ?_
  refine wl_mv (.tmp 13) (.int .i64 (4)) (fun _ => rfl) rfl rfl ?_
  refine w_nil ?_
  refine xn_rounds ?_
  refine w_seq ?_
  refine w_reg ?_
  refine wl_bin (fun x y => do eqGuard .lss 3 (.tmp 4) (.const (.int .i64 (5))) x y; binOp .lss 3 x y) (.tmp 4) (.const (.int .i64 (5))) (.int .i64 (4)) (.int .i64 (5)) (.bool true) (fun _ => rfl) rfl rfl (by kernel_rfl) rfl ?_
  refine w_nil ?_
  refine xn_then ?_
  refine w_seq ?_
  refine w_condT rfl ?_
  refine w_skip ?_
  refine xn_then ?_
  refine w_seq ?_
  refine w_block ?_
  refine w_seq ?_
  refine w_reg ?_
  refine wl_mv (.tmp 4) (.int .i64 (4)) (fun _ => rfl) rfl rfl ?_
  refine wl_mv (.tmp 6) (.int .i64 (4)) (fun _ => rfl) rfl rfl ?_
  refine w_nil ?_
  refine xn_then ?_
  refine w_reg ?_
  refine wl_mv (.tmp 3) (.int .i64 (4)) (fun _ => rfl) rfl rfl ?_
  refine wl_mv (.tmp 3) (.int .i64 (4)) (fun _ => rfl) rfl rfl ?_
  refine wl_bin (fun x y => Instr.indexAt 31 x y) (.tmp 1) (.tmp 8) (pt k1 0) (.int .i64 (4)) (pt k1 4) (fun _ => rfl) rfl rfl (by kernel_rfl) rfl ?_
  refine wl_load 22 (.tmp 9) (pt k1 4) (.int .u64 (l4 (a))) rfl rfl (run_one Q1 22 4 rfl Try.underlying22 rfl) rfl ?_
  refine wl_un (fun v => Op.unary .xor v) (.tmp 10) (.int .u64 (l4 (a))) (.int .u64 (l4 (-1 - a))) (fun _ => rfl) rfl (notU hl.2.2.2.2 hn.2.2.2.2 _) rfl ?_
  refine wl_bin (fun x y => Instr.indexAt 31 x y) (.tmp 1) (.tmp 7) (pt k1 0) (.int .i64 (4)) (pt k1 4) (fun _ => rfl) rfl rfl (by kernel_rfl) rfl ?_
  refine wl_st1 22 (.tmp 12) (.tmp 11) k1 4 (.int .u64 (l4 (-1 - a))) [.int .u64 (l0 (-1 - a)), .int .u64 (l1 (-1 - a)), .int .u64 (l2 (-1 - a)), .int .u64 (l3 (-1 - a)), .int .u64 (l4 (a))] [.int .u64 (l0 (-1 - a)), .int .u64 (l1 (-1 - a)), .int .u64 (l2 (-1 - a)), .int .u64 (l3 (-1 - a)), .int .u64 (l4 (-1 - a))] Q1 rfl rfl rfl rfl rfl sz22 rfl rfl rfl rfl ?_
  intro w7 hS Qn
  replace Q1 := Qn
  clear Qn
  replace Q2 := hS.other _ _ ne_k1_k2.symm Q2
  replace M := hS.mo _ N_k1 M
  clear hS
  refine w_nil ?_
  refine xn_blk ?_
  refine xn_then ?_
  refine w_reg ?_
  refine wl_bin (fun x y => do eqGuard .add 3 (.tmp 4) (.const (.int .i64 (1))) x y; binOp .add 3 x y) (.tmp 4) (.const (.int .i64 (1))) (.int .i64 (4)) (.int .i64 (1)) (.int .i64 (5)) (fun _ => rfl) rfl rfl (by kernel_rfl) rfl ?_
  refine wl_mv (.tmp 13) (.int .i64 (5)) (fun _ => rfl) rfl rfl ?_
  refine w_nil ?_
  refine xn_rounds ?_
  refine w_seq ?_
  refine w_reg ?_
  refine wl_bin (fun x y => do eqGuard .lss 3 (.tmp 4) (.const (.int .i64 (5))) x y; binOp .lss 3 x y) (.tmp 4) (.const (.int .i64 (5))) (.int .i64 (5)) (.int .i64 (5)) (.bool false) (fun _ => rfl) rfl rfl (by kernel_rfl) rfl ?_
  refine w_nil ?_
  refine xn_then ?_
  refine w_seq ?_
  refine w_condF rfl ?_
  refine w_exit ?_
  refine xx_then ?_
  refine xx_then ?_
  refine xx_blk ?_
  refine xn_then ?_
  refine w_seq ?_
  refine w_reg ?_
  refine wl_load 31 (.tmp 1) (pt k1 0) (.agg #[.int .u64 (l0 (-1 - a)), .int .u64 (l1 (-1 - a)), .int .u64 (l2 (-1 - a)), .int .u64 (l3 (-1 - a)), .int .u64 (l4 (-1 - a))]) rfl rfl (run_row Q1 31 0 5 [.int .u64 (l0 (-1 - a)), .int .u64 (l1 (-1 - a)), .int .u64 (l2 (-1 - a)), .int .u64 (l3 (-1 - a)), .int .u64 (l4 (-1 - a))] rfl Try.underlying31 rfl sz31) rfl ?_
  refine wl_build 31 [(0, (.const (.int .u64 (1))))] [(0, .int .u64 (1))] (.agg #[.int .u64 (1), .int .u64 0, .int .u64 0, .int .u64 0, .int .u64 0]) rfl rfl (by kernel_rfl) rfl ?_
  refine wl_call 19 [(.tmp 14), (.tmp 15)] _ [.agg #[.int .u64 (l0 (-1 - a)), .int .u64 (l1 (-1 - a)), .int .u64 (l2 (-1 - a)), .int .u64 (l3 (-1 - a)), .int .u64 (l4 (-1 - a))], .agg #[.int .u64 (1), .int .u64 0, .int .u64 0, .int .u64 0, .int .u64 0]] (.agg #[.int .u64 (l0 (-1 - a + 1)), .int .u64 (l1 (-1 - a + 1)), .int .u64 (l2 (-1 - a + 1)), .int .u64 (l3 (-1 - a + 1)), .int .u64 (l4 (-1 - a + 1))]) rfl rfl (fun _ _ => by kernel_rfl) (addw_n (-1 - a) 1) rfl ?_
  intro w8 hq
  replace Q1 := Q1.mo hq
  replace Q2 := Q2.mo hq
  replace M := M.trans hq
  clear hq
  refine wl_st 31 (.tmp 2) (.tmp 16) k2 0 #[.int .u64 (l0 (-1 - a + 1)), .int .u64 (l1 (-1 - a + 1)), .int .u64 (l2 (-1 - a + 1)), .int .u64 (l3 (-1 - a + 1)), .int .u64 (l4 (-1 - a + 1))] [.int .u64 0, .int .u64 0, .int .u64 0, .int .u64 0, .int .u64 0] [.int .u64 (l0 (-1 - a + 1)), .int .u64 (l1 (-1 - a + 1)), .int .u64 (l2 (-1 - a + 1)), .int .u64 (l3 (-1 - a + 1)), .int .u64 (l4 (-1 - a + 1))] Q2 rfl rfl rfl rfl rfl sz31 rfl rfl rfl ?_
  intro w9 hS Qn
  replace Q2 := Qn
  clear Qn
  replace Q1 := hS.other _ _ ne_k1_k2 Q1
  replace M := hS.mo _ N_k2 M
  clear hS
  refine w_nil ?_
  refine xn_then ?_
  refine w_ret ?_
  exact w_ret1 _ (.agg #[.int .u64 (l0 (-1 - a + 1)), .int .u64 (l1 (-1 - a + 1)), .int .u64 (l2 (-1 - a + 1)), .int .u64 (l3 (-1 - a + 1)), .int .u64 (l4 (-1 - a + 1))]) rfl ⟨k2, rfl, (run_row Q2 31 0 5 [.int .u64 (l0 (-1 - a + 1)), .int .u64 (l1 (-1 - a + 1)), .int .u64 (l2 (-1 - a + 1)), .int .u64 (l3 (-1 - a + 1)), .int .u64 (l4 (-1 - a + 1))] rfl Try.underlying31 rfl sz31)⟩ ⟨by rw [← show -1 - a + 1 = -a by omega]; rfl, M⟩
theorem bit_n (v : Int) (i : Nat) (hi : i < 320) : Calls Try.prog 39 #[wv v, .int .i64 (i : Int)] w fun e w' => e = .returned (.int .u64 (v / 2 ^ i % 2)) ∧ Mo w w' := by
  have hq5 : i / 64 < 5 := by omega
  refine w_enter 13 Try.func39 Try.ntmps39 rfl rfl ?_
  have M : Mo w w := Mo.refl _
  refine w_seq ?_
  refine w_reg ?_
  refine wl_box 31 (.tmp 0) (wv (v)) ((wla (v))) rfl rfl (fun _ => by kernel_rfl) rfl ?_
  intro k1 w1 hk hz hq Q1
  have N_k1 : w.heap.size ≤ k1 := by have := M.size; omega
  replace M := M.trans hq
  clear hk hz hq
  refine wl_mv (.const (.int .u64 (0))) (.int .u64 (0)) (fun _ => rfl) rfl rfl ?_
  refine w_nil ?_
  refine xn_then ?_
  refine w_seq ?_
  refine w_reg ?_
  refine wl_mv (.tmp 1) (.int .i64 ((i : Nat) : Int)) (fun _ => rfl) rfl rfl ?_
  refine wl_bin (fun x y => do eqGuard .quo 3 (.tmp 5) (.const (.int .i64 (64))) x y; binOp .quo 3 x y) (.tmp 5) (.const (.int .i64 (64))) (.int .i64 ((i : Nat) : Int)) (.int .i64 (64)) (.int .i64 ((i / 64 : Nat) : Int)) (fun _ => rfl) rfl rfl (quoN (by omega) _ _ _) rfl ?_
  refine wl_bin (fun x y => Instr.indexAt 31 x y) (.tmp 2) (.tmp 6) (pt k1 0) (.int .i64 ((i / 64 : Nat) : Int)) (pt k1 (i / 64)) (fun _ => rfl) rfl rfl (ia31 _ _ hq5 _) rfl ?_
  refine wl_load 22 (.tmp 7) (pt k1 (i / 64)) (.int .u64 (lim (i / 64) (v))) rfl rfl (run_one Q1 22 (i / 64) (wll_at (v) hq5) Try.underlying22 rfl) rfl ?_
  refine wl_mv (.tmp 1) (.int .i64 ((i : Nat) : Int)) (fun _ => rfl) rfl rfl ?_
  refine wl_bin (fun x y => do eqGuard .rem 3 (.tmp 9) (.const (.int .i64 (64))) x y; binOp .rem 3 x y) (.tmp 9) (.const (.int .i64 (64))) (.int .i64 ((i : Nat) : Int)) (.int .i64 (64)) (.int .i64 ((i % 64 : Nat) : Int)) (fun _ => rfl) rfl rfl (remN _ _ _) rfl ?_
  refine wl_bin (fun x y => do eqGuard .shr 22 (.tmp 8) (.tmp 10) x y; binOp .shr 22 x y) (.tmp 8) (.tmp 10) (.int .u64 (lim (i / 64) (v))) (.int .i64 ((i % 64 : Nat) : Int)) (.int .u64 (lim (i / 64) (v) / 2 ^ (i % 64))) (fun _ => rfl) rfl rfl (shrU (Nat.mod_lt _ (by decide)) _ _ _) rfl ?_
  refine wl_bin (fun x y => do eqGuard .and 22 (.tmp 11) (.const (.int .u64 (1))) x y; binOp .and 22 x y) (.tmp 11) (.const (.int .u64 (1))) (.int .u64 (lim (i / 64) (v) / 2 ^ (i % 64))) (.int .u64 (1)) (.int .u64 (lim (i / 64) (v) / 2 ^ (i % 64) % 2)) (fun _ => rfl) rfl rfl (and1U (sh_bd (lim_u _ _) _) _ _ _) rfl ?_
  refine wl_mv (.tmp 12) (.int .u64 (lim (i / 64) (v) / 2 ^ (i % 64) % 2)) (fun _ => rfl) rfl rfl ?_
  refine w_nil ?_
  refine xn_then ?_
  refine w_ret ?_
  exact w_ret1 _ (.int .u64 (lim (i / 64) (v) / 2 ^ (i % 64) % 2)) rfl rfl ⟨by rw [bit_lim v (i / 64) (i % 64) (Nat.mod_lt _ (by decide)), show 64 * (i / 64) + i % 64 = i by omega], M⟩
theorem wv320 (S : Int) : wv (S % 2 ^ 320) = wv S := by
  have h := fun j hj => lim_all S j hj
  obtain ⟨e0, e1, e2, e3, e4⟩ := lim_is (S % 2 ^ 320)
  obtain ⟨f0, f1, f2, f3, f4⟩ := lim_is S
  unfold wv
  rw [← e0, ← e1, ← e2, ← e3, ← e4, h 0 (by decide), h 1 (by decide), h 2 (by decide), h 3 (by decide), h 4 (by decide), f0, f1, f2, f3, f4]
theorem raddw_n (a b : Int) : Calls Try.prog 20 #[wv a, wv b] w fun e w' => e = .returned (wv (a + b)) ∧ Mo w w' := by
  refine w_enter 36 Try.func20 Try.ntmps20 rfl rfl ?_
  have M : Mo w w := Mo.refl _
  refine w_seq ?_
  refine w_reg ?_
  refine wl_box 31 (.tmp 0) (wv (a)) ((wla (a))) rfl rfl (fun _ => by kernel_rfl) rfl ?_
  intro k1 w1 hk hz hq Q1
  have N_k1 : w.heap.size ≤ k1 := by have := M.size; omega
  replace M := M.trans hq
  clear hk hz hq
  refine wl_box 31 (.tmp 1) (wv (b)) ((wla (b))) rfl rfl (fun _ => by kernel_rfl) rfl ?_
  intro k2 w2 hk hz hq Q2
  have ne_k1_k2 : k1 ≠ k2 := by have := Q1.lt; omega
  have N_k2 : w.heap.size ≤ k2 := by have := M.size; omega
  replace Q1 := Q1.mo hq
  replace M := M.trans hq
  clear hk hz hq
  refine wl_alloc 31 #[.int .u64 0, .int .u64 0, .int .u64 0, .int .u64 0, .int .u64 0] rfl (fun _ => by kernel_rfl) rfl ?_
  intro k3 w3 hk hz hq Q3
  have ne_k1_k3 : k1 ≠ k3 := by have := Q1.lt; omega
  have ne_k2_k3 : k2 ≠ k3 := by have := Q2.lt; omega
  have N_k3 : w.heap.size ≤ k3 := by have := M.size; omega
  replace Q1 := Q1.mo hq
  replace Q2 := Q2.mo hq
  replace M := M.trans hq
  clear hk hz hq
  refine w_nil ?_
  refine xn_then ?_
  refine w_seq ?_
  refine w_reg ?_
  refine wl_alloc 31 #[.int .u64 0, .int .u64 0, .int .u64 0, .int .u64 0, .int .u64 0] rfl (fun _ => by kernel_rfl) rfl ?_
  intro k4 w4 hk hz hq Q4
  have ne_k1_k4 : k1 ≠ k4 := by have := Q1.lt; omega
  have ne_k2_k4 : k2 ≠ k4 := by have := Q2.lt; omega
  have ne_k3_k4 : k3 ≠ k4 := by have := Q3.lt; omega
  have N_k4 : w.heap.size ≤ k4 := by have := M.size; omega
  replace Q1 := Q1.mo hq
  replace Q2 := Q2.mo hq
  replace Q3 := Q3.mo hq
  replace M := M.trans hq
  clear hk hz hq
  refine w_nil ?_
  refine xn_then ?_
  refine w_seq ?_
  refine w_reg ?_
  refine wl_mv (.const (.int .u64 (0))) (.int .u64 (0)) (fun _ => rfl) rfl rfl ?_
  refine w_nil ?_
  refine xn_then ?_
  refine w_seq ?_
  refine w_seq ?_
  refine w_reg ?_
  refine wl_mv (.const (.int .i64 (0))) (.int .i64 (0)) (fun _ => rfl) rfl rfl ?_
  refine w_nil ?_
  refine xn_then ?_
  refine w_block ?_
  refine w_loop (fun m l wc => ∃ i : Nat, m + i = 320 ∧ look l 2 = pt k1 0 ∧ look l 3 = pt k2 0 ∧ look l 4 = pt k3 0 ∧ look l 5 = pt k4 0 ∧ look l 6 = .int .u64 ((a % 2 ^ i + b % 2 ^ i) / 2 ^ i) ∧ look l 7 = .int .i64 (i : Int) ∧ At wc k1 (wll a) ∧ At wc k2 (wll b) ∧ At wc k3 (wll 0) ∧ At wc k4 (wll ((a + b) % 2 ^ i)) ∧ Mo w wc) 320 ⟨0, rfl, rfl, rfl, rfl, rfl, by rw [show (a % 2 ^ 0 + b % 2 ^ 0) / 2 ^ 0 = 0 by omega]; rfl, rfl, Q1, Q2, Q3, by rw [show (a + b) % 2 ^ 0 = 0 by omega]; exact Q4, M⟩ ?_
  clear M Q1 Q2 Q3 Q4
  rintro m l wc ⟨i, hm, e2, e3, e4, e5, e6, e7, Q1, Q2, Q3, Q4, M⟩
  have hcb := wcarry_bd a b i
  obtain ⟨hst1, hst2⟩ := bit_step a b i
  have hlt := lim_lt (a + b) (i / 64) (i % 64) (Nat.mod_lt _ (by decide))
  rw [show 64 * (i / 64) + i % 64 = i by omega] at hlt
  have hp2 := pow_le (r := i % 64 + 1) (by have := Nat.mod_lt i (show 0 < 64 by decide); omega)
  have hpp := two_pos (i % 64)
  rw [Int.pow_succ] at hp2
  have hb2 : (a / 2 ^ i % 2 + b / 2 ^ i % 2 + (a % 2 ^ i + b % 2 ^ i) / 2 ^ i) % 2 = 0 ∨ (a / 2 ^ i % 2 + b / 2 ^ i % 2 + (a % 2 ^ i + b % 2 ^ i) / 2 ^ i) % 2 = 1 := by omega
  have hs0 : 0 ≤ (a / 2 ^ i % 2 + b / 2 ^ i % 2 + (a % 2 ^ i + b % 2 ^ i) / 2 ^ i) % 2 := by omega
  have hs1 : 0 ≤ (a / 2 ^ i % 2 + b / 2 ^ i % 2 + (a % 2 ^ i + b % 2 ^ i) / 2 ^ i) % 2 * 2 ^ (i % 64) := Int.mul_nonneg hs0 (Int.le_of_lt hpp)
  have hs4 : (a / 2 ^ i % 2 + b / 2 ^ i % 2 + (a % 2 ^ i + b % 2 ^ i) / 2 ^ i) % 2 * 2 ^ (i % 64) ≤ 2 ^ (i % 64) := by rcases hb2 with h | h <;> rw [h] <;> omega
  have hs2 : (a / 2 ^ i % 2 + b / 2 ^ i % 2 + (a % 2 ^ i + b % 2 ^ i) / 2 ^ i) % 2 * 2 ^ (i % 64) < 18446744073709551616 := by omega
  have hs3 : (a / 2 ^ i % 2 + b / 2 ^ i % 2 + (a % 2 ^ i + b % 2 ^ i) / 2 ^ i) % 2 * 2 ^ (i % 64) + lim (i / 64) ((a + b) % 2 ^ i) < 18446744073709551616 := by omega
  refine w_seq ?_
  refine w_seq ?_
  cases hf0 : decide (i < 320) with
  | true =>
    have hf0p := of_decide_eq_true hf0
    have hi : i < 320 := hf0p
    have hq5 : i / 64 < 5 := by omega
    have hls := lim_step (a + b) (i / 64) (i % 64) (Nat.mod_lt _ (by decide))
    simp only [show 64 * (i / 64) + i % 64 = i by omega] at hls
    have hz : lim (i / 64) ((a + b) % 2 ^ (i + 1)) = lim (i / 64) ((a + b) % 2 ^ i) + (a / 2 ^ i % 2 + b / 2 ^ i % 2 + (a % 2 ^ i + b % 2 ^ i) / 2 ^ i) % 2 * 2 ^ (i % 64) := by rw [hls, if_pos rfl, hst1]
    have ho : ∀ j, j ≠ i / 64 → lim j ((a + b) % 2 ^ (i + 1)) = lim j ((a + b) % 2 ^ i) := fun j hj => by rw [hls, if_neg hj]
    refine w_reg ?_
    refine wl_mv (.tmp 7) (.int .i64 ((i : Nat) : Int)) (fun _ => rfl) e7 rfl ?_
    refine wl_bin (fun x y => do eqGuard .lss 3 (.tmp 9) (.const (.int .i64 (320))) x y; binOp .lss 3 x y) (.tmp 9) (.const (.int .i64 (320))) (.int .i64 ((i : Nat) : Int)) (.int .i64 (320)) (.bool true) (fun _ => rfl) rfl rfl (ltN hf0 _ _ _) rfl ?_
    refine w_nil ?_
    refine xn_then ?_
    refine w_condT rfl ?_
    refine w_skip ?_
    refine xn_then ?_
    refine w_seq ?_
    refine w_block ?_
    refine w_seq ?_
    refine w_any 8 [.inl (wv (a)), .inl (.int .i64 ((i : Nat) : Int)), .inl (.int .u64 (a / 2 ^ i % 2)), .inl (wv (b)), .inl (.int .i64 ((i : Nat) : Int)), .inl (.int .u64 (b / 2 ^ i % 2)), .inl (.int .u64 (a / 2 ^ i % 2 + b / 2 ^ i % 2)), .inl (.int .u64 ((a % 2 ^ i + b % 2 ^ i) / 2 ^ i))] [] (by kernel_rfl) (by kernel_rfl) (by kernel_rfl) (by kernel_rfl) rfl (by kernel_rfl) (by kernel_rfl) late_nil ?_ ?_ ?_
    · exact Ds.none rfl
    · refine ea_cons ?_ (ea_cons ?_ (ea_cons ?_ (ea_cons ?_ (ea_cons ?_ (ea_cons ?_ (ea_cons ?_ (ea_cons ?_ (ea_nil))))))))
      · exact og_eq (wv (a)) rfl (fun f wf hq hd K hK => have Q1 := Q1.mo hq; go_run rfl (wo_load 31 (.tmp 2) (pt k1 0) (wv (a)) rfl e2 (run_row Q1 31 0 5 (wll (a)) rfl Try.underlying31 rfl sz31) (hK _ (Mo.refl _))))
      · exact og_eq (.int .i64 ((i : Nat) : Int)) rfl (fun f wf hq hd K hK => go_run rfl (wo_mv (.tmp 7) (.int .i64 ((i : Nat) : Int)) (fun _ => rfl) e7 (hK _ (Mo.refl _))))
      · exact og_eq (.int .u64 (a / 2 ^ i % 2)) rfl (fun f wf hq hd K hK => go_run rfl (wo_call 39 [(.tmp 13), (.tmp 14)] _ [wv (a), .int .i64 ((i : Nat) : Int)] (.int .u64 (a / 2 ^ i % 2)) rfl (li2 (hd 0 rfl) (hd 1 rfl)) (fun _ _ => by kernel_rfl) (bit_n a i hi) hK))
      · exact og_eq (wv (b)) rfl (fun f wf hq hd K hK => have Q2 := Q2.mo hq; go_run rfl (wo_load 31 (.tmp 3) (pt k2 0) (wv (b)) rfl e3 (run_row Q2 31 0 5 (wll (b)) rfl Try.underlying31 rfl sz31) (hK _ (Mo.refl _))))
      · exact og_eq (.int .i64 ((i : Nat) : Int)) rfl (fun f wf hq hd K hK => go_run rfl (wo_mv (.tmp 7) (.int .i64 ((i : Nat) : Int)) (fun _ => rfl) e7 (hK _ (Mo.refl _))))
      · exact og_eq (.int .u64 (b / 2 ^ i % 2)) rfl (fun f wf hq hd K hK => go_run rfl (wo_call 39 [(.tmp 16), (.tmp 17)] _ [wv (b), .int .i64 ((i : Nat) : Int)] (.int .u64 (b / 2 ^ i % 2)) rfl (li2 (hd 3 rfl) (hd 4 rfl)) (fun _ _ => by kernel_rfl) (bit_n b i hi) hK))
      · exact og_eq (.int .u64 (a / 2 ^ i % 2 + b / 2 ^ i % 2)) rfl (fun f wf hq hd K hK => go_run rfl (wo_bin (fun x y => do eqGuard .add 22 (.tmp 15) (.tmp 18) x y; binOp .add 22 x y) (.tmp 15) (.tmp 18) (.int .u64 (a / 2 ^ i % 2)) (.int .u64 (b / 2 ^ i % 2)) (.int .u64 (a / 2 ^ i % 2 + b / 2 ^ i % 2)) (fun _ => rfl) (hd 2 rfl) (hd 5 rfl) (addU (by omega) (by omega) _ _ _) (hK _ (Mo.refl _))))
      · exact og_eq (.int .u64 ((a % 2 ^ i + b % 2 ^ i) / 2 ^ i)) rfl (fun f wf hq hd K hK => go_run rfl (wo_mv (.tmp 6) (.int .u64 ((a % 2 ^ i + b % 2 ^ i) / 2 ^ i)) (fun _ => rfl) e6 (hK _ (Mo.refl _))))
    intro kf11 w11 hq hR hne
    replace Q1 := Q1.mo hq
    replace Q2 := Q2.mo hq
    replace Q3 := Q3.mo hq
    replace Q4 := Q4.mo hq
    replace M := M.trans hq
    clear hq hR hne
    refine wl_bin (fun x y => do eqGuard .add 22 (.tmp 19) (.tmp 20) x y; binOp .add 22 x y) (.tmp 19) (.tmp 20) (.int .u64 (a / 2 ^ i % 2 + b / 2 ^ i % 2)) (.int .u64 ((a % 2 ^ i + b % 2 ^ i) / 2 ^ i)) (.int .u64 (a / 2 ^ i % 2 + b / 2 ^ i % 2 + (a % 2 ^ i + b % 2 ^ i) / 2 ^ i)) (fun _ => rfl) rfl rfl (addU (by omega) (by omega) _ _ _) rfl ?_
    refine wl_mv (.tmp 21) (.int .u64 (a / 2 ^ i % 2 + b / 2 ^ i % 2 + (a % 2 ^ i + b % 2 ^ i) / 2 ^ i)) (fun _ => rfl) rfl rfl ?_
    refine w_nil ?_
    refine xn_then ?_
    refine w_seq ?_
    refine w_any 11 [.inl (.int .i64 ((i : Nat) : Int)), .inl (.int .i64 ((i / 64 : Nat) : Int)), .inl (pt k4 (i / 64)), .inl (.int .u64 (lim (i / 64) ((a + b) % 2 ^ i))), .inl (.int .u64 (a / 2 ^ i % 2 + b / 2 ^ i % 2 + (a % 2 ^ i + b % 2 ^ i) / 2 ^ i)), .inl (.int .u64 ((a / 2 ^ i % 2 + b / 2 ^ i % 2 + (a % 2 ^ i + b % 2 ^ i) / 2 ^ i) % 2)), .inl (.int .i64 ((i : Nat) : Int)), .inl (.int .i64 ((i % 64 : Nat) : Int)), .inl (.int .u64 ((a / 2 ^ i % 2 + b / 2 ^ i % 2 + (a % 2 ^ i + b % 2 ^ i) / 2 ^ i) % 2 * 2 ^ (i % 64))), .inl (.int .u64 (lim (i / 64) ((a + b) % 2 ^ i) + (a / 2 ^ i % 2 + b / 2 ^ i % 2 + (a % 2 ^ i + b % 2 ^ i) / 2 ^ i) % 2 * 2 ^ (i % 64))), .inl (pt k4 (i / 64))] [] (by kernel_rfl) (by kernel_rfl) (by kernel_rfl) (by kernel_rfl) rfl (by kernel_rfl) (by kernel_rfl) late_nil ?_ ?_ ?_
    · exact Ds.none rfl
    · refine ea_cons ?_ (ea_cons ?_ (ea_cons ?_ (ea_cons ?_ (ea_cons ?_ (ea_cons ?_ (ea_cons ?_ (ea_cons ?_ (ea_cons ?_ (ea_cons ?_ (ea_cons ?_ (ea_nil)))))))))))
      · exact og_eq (.int .i64 ((i : Nat) : Int)) rfl (fun f wf hq hd K hK => go_run rfl (wo_mv (.tmp 7) (.int .i64 ((i : Nat) : Int)) (fun _ => rfl) e7 (hK _ (Mo.refl _))))
      · exact og_eq (.int .i64 ((i / 64 : Nat) : Int)) rfl (fun f wf hq hd K hK => go_run rfl (wo_bin (fun x y => do eqGuard .quo 3 (.tmp 22) (.const (.int .i64 (64))) x y; binOp .quo 3 x y) (.tmp 22) (.const (.int .i64 (64))) (.int .i64 ((i : Nat) : Int)) (.int .i64 (64)) (.int .i64 ((i / 64 : Nat) : Int)) (fun _ => rfl) (hd 0 rfl) rfl (quoN (by omega) _ _ _) (hK _ (Mo.refl _))))
      · exact og_eq (pt k4 (i / 64)) rfl (fun f wf hq hd K hK => go_run rfl (wo_bin (fun x y => Instr.indexAt 31 x y) (.tmp 5) (.tmp 23) (pt k4 0) (.int .i64 ((i / 64 : Nat) : Int)) (pt k4 (i / 64)) (fun _ => rfl) e5 (hd 1 rfl) (ia31 _ _ hq5 _) (hK _ (Mo.refl _))))
      · exact og_eq (.int .u64 (lim (i / 64) ((a + b) % 2 ^ i))) rfl (fun f wf hq hd K hK => have Q4 := Q4.mo hq; go_run rfl (wo_load 22 (.tmp 24) (pt k4 (i / 64)) (.int .u64 (lim (i / 64) ((a + b) % 2 ^ i))) rfl (hd 2 rfl) (run_one Q4 22 (i / 64) (wll_at ((a + b) % 2 ^ i) hq5) Try.underlying22 rfl) (hK _ (Mo.refl _))))
      · exact og_eq (.int .u64 (a / 2 ^ i % 2 + b / 2 ^ i % 2 + (a % 2 ^ i + b % 2 ^ i) / 2 ^ i)) rfl (fun f wf hq hd K hK => go_run rfl (wo_mv (.tmp 8) (.int .u64 (a / 2 ^ i % 2 + b / 2 ^ i % 2 + (a % 2 ^ i + b % 2 ^ i) / 2 ^ i)) (fun _ => rfl) rfl (hK _ (Mo.refl _))))
      · exact og_eq (.int .u64 ((a / 2 ^ i % 2 + b / 2 ^ i % 2 + (a % 2 ^ i + b % 2 ^ i) / 2 ^ i) % 2)) rfl (fun f wf hq hd K hK => go_run rfl (wo_bin (fun x y => do eqGuard .rem 22 (.tmp 26) (.const (.int .u64 (2))) x y; binOp .rem 22 x y) (.tmp 26) (.const (.int .u64 (2))) (.int .u64 (a / 2 ^ i % 2 + b / 2 ^ i % 2 + (a % 2 ^ i + b % 2 ^ i) / 2 ^ i)) (.int .u64 (2)) (.int .u64 ((a / 2 ^ i % 2 + b / 2 ^ i % 2 + (a % 2 ^ i + b % 2 ^ i) / 2 ^ i) % 2)) (fun _ => rfl) (hd 4 rfl) rfl (rem2U (by omega) _ _ _) (hK _ (Mo.refl _))))
      · exact og_eq (.int .i64 ((i : Nat) : Int)) rfl (fun f wf hq hd K hK => go_run rfl (wo_mv (.tmp 7) (.int .i64 ((i : Nat) : Int)) (fun _ => rfl) e7 (hK _ (Mo.refl _))))
      · exact og_eq (.int .i64 ((i % 64 : Nat) : Int)) rfl (fun f wf hq hd K hK => go_run rfl (wo_bin (fun x y => do eqGuard .rem 3 (.tmp 28) (.const (.int .i64 (64))) x y; binOp .rem 3 x y) (.tmp 28) (.const (.int .i64 (64))) (.int .i64 ((i : Nat) : Int)) (.int .i64 (64)) (.int .i64 ((i % 64 : Nat) : Int)) (fun _ => rfl) (hd 6 rfl) rfl (remN _ _ _) (hK _ (Mo.refl _))))
      · exact og_eq (.int .u64 ((a / 2 ^ i % 2 + b / 2 ^ i % 2 + (a % 2 ^ i + b % 2 ^ i) / 2 ^ i) % 2 * 2 ^ (i % 64))) rfl (fun f wf hq hd K hK => go_run rfl (wo_bin (fun x y => do eqGuard .shl 22 (.tmp 27) (.tmp 29) x y; binOp .shl 22 x y) (.tmp 27) (.tmp 29) (.int .u64 ((a / 2 ^ i % 2 + b / 2 ^ i % 2 + (a % 2 ^ i + b % 2 ^ i) / 2 ^ i) % 2)) (.int .i64 ((i % 64 : Nat) : Int)) (.int .u64 ((a / 2 ^ i % 2 + b / 2 ^ i % 2 + (a % 2 ^ i + b % 2 ^ i) / 2 ^ i) % 2 * 2 ^ (i % 64))) (fun _ => rfl) (hd 5 rfl) (hd 7 rfl) (shlU (Nat.mod_lt _ (by decide)) hs1 hs2 _ _ _) (hK _ (Mo.refl _))))
      · exact og_eq (.int .u64 (lim (i / 64) ((a + b) % 2 ^ i) + (a / 2 ^ i % 2 + b / 2 ^ i % 2 + (a % 2 ^ i + b % 2 ^ i) / 2 ^ i) % 2 * 2 ^ (i % 64))) rfl (fun f wf hq hd K hK => go_run rfl (wo_bin (fun x y => do eqGuard .or 22 (.tmp 25) (.tmp 30) x y; binOp .or 22 x y) (.tmp 25) (.tmp 30) (.int .u64 (lim (i / 64) ((a + b) % 2 ^ i))) (.int .u64 ((a / 2 ^ i % 2 + b / 2 ^ i % 2 + (a % 2 ^ i + b % 2 ^ i) / 2 ^ i) % 2 * 2 ^ (i % 64))) (.int .u64 (lim (i / 64) ((a + b) % 2 ^ i) + (a / 2 ^ i % 2 + b / 2 ^ i % 2 + (a % 2 ^ i + b % 2 ^ i) / 2 ^ i) % 2 * 2 ^ (i % 64))) (fun _ => rfl) (hd 3 rfl) (hd 8 rfl) (orU hlt.1 hlt.2 hs0 hs3 _ _ _) (hK _ (Mo.refl _))))
      · exact og_eq (pt k4 (i / 64)) rfl (fun f wf hq hd K hK => go_run rfl (wo_bin (fun x y => Instr.indexAt 31 x y) (.tmp 5) (.tmp 23) (pt k4 0) (.int .i64 ((i / 64 : Nat) : Int)) (pt k4 (i / 64)) (fun _ => rfl) e5 (hd 1 rfl) (ia31 _ _ hq5 _) (hK _ (Mo.refl _))))
    intro kf12 w12 hq hR hne
    replace Q1 := Q1.mo hq
    replace Q2 := Q2.mo hq
    replace Q3 := Q3.mo hq
    replace Q4 := Q4.mo hq
    replace M := M.trans hq
    clear hq hR hne
    refine wl_st1 22 (.tmp 32) (.tmp 31) k4 (i / 64) (.int .u64 (lim (i / 64) ((a + b) % 2 ^ i) + (a / 2 ^ i % 2 + b / 2 ^ i % 2 + (a % 2 ^ i + b % 2 ^ i) / 2 ^ i) % 2 * 2 ^ (i % 64))) (wll ((a + b) % 2 ^ i)) (wll ((a + b) % 2 ^ (i + 1))) Q4 rfl rfl rfl rfl (by rw [Nat.blt_eq]; exact hq5) sz22 rfl rfl (wll_set hq5 hz ho) rfl ?_
    intro w13 hS Qn
    replace Q4 := Qn
    clear Qn
    replace Q1 := hS.other _ _ ne_k1_k4 Q1
    replace Q2 := hS.other _ _ ne_k2_k4 Q2
    replace Q3 := hS.other _ _ ne_k3_k4 Q3
    replace M := hS.mo _ N_k4 M
    clear hS
    refine w_nil ?_
    refine xn_then ?_
    refine w_reg ?_
    refine wl_mv (.tmp 8) (.int .u64 (a / 2 ^ i % 2 + b / 2 ^ i % 2 + (a % 2 ^ i + b % 2 ^ i) / 2 ^ i)) (fun _ => rfl) rfl rfl ?_
    refine wl_bin (fun x y => do eqGuard .quo 22 (.tmp 33) (.const (.int .u64 (2))) x y; binOp .quo 22 x y) (.tmp 33) (.const (.int .u64 (2))) (.int .u64 (a / 2 ^ i % 2 + b / 2 ^ i % 2 + (a % 2 ^ i + b % 2 ^ i) / 2 ^ i)) (.int .u64 (2)) (.int .u64 ((a / 2 ^ i % 2 + b / 2 ^ i % 2 + (a % 2 ^ i + b % 2 ^ i) / 2 ^ i) / 2)) (fun _ => rfl) rfl rfl (quo2U (by omega) (by omega) _ _ _) rfl ?_
    refine wl_mv (.tmp 34) (.int .u64 ((a / 2 ^ i % 2 + b / 2 ^ i % 2 + (a % 2 ^ i + b % 2 ^ i) / 2 ^ i) / 2)) (fun _ => rfl) rfl rfl ?_
    refine w_nil ?_
    refine xn_blk ?_
    refine xn_then ?_
    refine w_reg ?_
    refine wl_mv (.tmp 7) (.int .i64 ((i : Nat) : Int)) (fun _ => rfl) e7 rfl ?_
    refine wl_bin (fun x y => do eqGuard .add 3 (.tmp 11) (.const (.int .i64 (1))) x y; binOp .add 3 x y) (.tmp 11) (.const (.int .i64 (1))) (.int .i64 ((i : Nat) : Int)) (.int .i64 (1)) (.int .i64 ((i + 1 : Nat) : Int)) (fun _ => rfl) rfl rfl (add1N (by omega) _ _ _) rfl ?_
    refine wl_mv (.tmp 12) (.int .i64 ((i + 1 : Nat) : Int)) (fun _ => rfl) rfl rfl ?_
    refine w_nil ?_
    exact xn_loop (m - 1) (by omega) ⟨i + 1, by omega, e2, e3, e4, e5, by rw [← hst2]; rfl, rfl, Q1, Q2, Q3, Q4, M⟩
  | false =>
    have hf0p := of_decide_eq_false hf0
    refine w_reg ?_
    refine wl_mv (.tmp 7) (.int .i64 ((i : Nat) : Int)) (fun _ => rfl) e7 rfl ?_
    refine wl_bin (fun x y => do eqGuard .lss 3 (.tmp 9) (.const (.int .i64 (320))) x y; binOp .lss 3 x y) (.tmp 9) (.const (.int .i64 (320))) (.int .i64 ((i : Nat) : Int)) (.int .i64 (320)) (.bool false) (fun _ => rfl) rfl rfl (ltN hf0 _ _ _) rfl ?_
    refine w_nil ?_
    refine xn_then ?_
    refine w_condF rfl ?_
    refine w_exit ?_
    refine xx_then ?_
    refine xx_then ?_
    have hi3 : i = 320 := by omega
    subst hi3
    refine xx_blk ?_
    refine xn_then ?_
    refine w_seq ?_
    refine w_reg ?_
    refine wl_load 31 (.tmp 5) (pt k4 0) (wv ((a + b) % 2 ^ 320)) rfl e5 (run_row Q4 31 0 5 (wll ((a + b) % 2 ^ 320)) rfl Try.underlying31 rfl sz31) rfl ?_
    refine wl_st 31 (.tmp 4) (.tmp 35) k3 0 (wla ((a + b) % 2 ^ 320)) (wll (0)) (wll ((a + b) % 2 ^ 320)) Q3 rfl rfl e4 rfl rfl sz31 rfl rfl rfl ?_
    intro w11 hS Qn
    replace Q3 := Qn
    clear Qn
    replace Q1 := hS.other _ _ ne_k1_k3 Q1
    replace Q2 := hS.other _ _ ne_k2_k3 Q2
    replace Q4 := hS.other _ _ ne_k3_k4.symm Q4
    replace M := hS.mo _ N_k3 M
    clear hS
    refine w_nil ?_
    refine xn_then ?_
    refine w_ret ?_
    exact w_ret1 _ (wv ((a + b) % 2 ^ 320)) rfl ⟨k3, e4, (run_row Q3 31 0 5 (wll ((a + b) % 2 ^ 320)) rfl Try.underlying31 rfl sz31)⟩ ⟨by rw [wv320], M⟩
theorem rminus_n (a : Int) : Calls Try.prog 31 #[wv a] w fun e w' => e = .returned (wv (-a)) ∧ Mo w w' := by
  have hl := l_bd a
  have hn := not_l a
  refine w_enter 21 Try.func31 Try.ntmps31 rfl rfl ?_
  have M : Mo w w := Mo.refl _
  refine w_seq ?_
  refine w_reg ?_
  refine wl_box 31 (.tmp 0) (.agg #[.int .u64 (l0 (a)), .int .u64 (l1 (a)), .int .u64 (l2 (a)), .int .u64 (l3 (a)), .int .u64 (l4 (a))]) (#[.int .u64 (l0 (a)), .int .u64 (l1 (a)), .int .u64 (l2 (a)), .int .u64 (l3 (a)), .int .u64 (l4 (a))]) rfl rfl (fun _ => by kernel_rfl) rfl ?_
  intro k1 w1 hk hz hq Q1
  have N_k1 : w.heap.size ≤ k1 := by have := M.size; omega
  replace M := M.trans hq
  clear hk hz hq
  refine wl_alloc 31 #[.int .u64 0, .int .u64 0, .int .u64 0, .int .u64 0, .int .u64 0] rfl (fun _ => by kernel_rfl) rfl ?_
  intro k2 w2 hk hz hq Q2
  have ne_k1_k2 : k1 ≠ k2 := by have := Q1.lt; omega
  have N_k2 : w.heap.size ≤ k2 := by have := M.size; omega
  replace Q1 := Q1.mo hq
  replace M := M.trans hq
  clear hk hz hq
  refine w_nil ?_
  refine xn_then ?_
  refine w_seq ?_
  refine w_reg ?_
  refine wl_bin (fun x y => Instr.indexAt 31 x y) (.tmp 1) (.const (.int .i64 (0))) (pt k1 0) (.int .i64 (0)) (pt k1 0) (fun _ => rfl) rfl rfl (by kernel_rfl) rfl ?_
  refine wl_load 22 (.tmp 3) (pt k1 0) (.int .u64 (l0 (a))) rfl rfl (run_one Q1 22 0 rfl Try.underlying22 rfl) rfl ?_
  refine wl_un (fun v => Op.unary .xor v) (.tmp 4) (.int .u64 (l0 (a))) (.int .u64 (l0 (-1 - a))) (fun _ => rfl) rfl (notU hl.1 hn.1 _) rfl ?_
  refine wl_bin (fun x y => Instr.indexAt 31 x y) (.tmp 1) (.const (.int .i64 (1))) (pt k1 0) (.int .i64 (1)) (pt k1 1) (fun _ => rfl) rfl rfl (by kernel_rfl) rfl ?_
  refine wl_load 22 (.tmp 6) (pt k1 1) (.int .u64 (l1 (a))) rfl rfl (run_one Q1 22 1 rfl Try.underlying22 rfl) rfl ?_
  refine wl_un (fun v => Op.unary .xor v) (.tmp 7) (.int .u64 (l1 (a))) (.int .u64 (l1 (-1 - a))) (fun _ => rfl) rfl (notU hl.2.1 hn.2.1 _) rfl ?_
  refine wl_bin (fun x y => Instr.indexAt 31 x y) (.tmp 1) (.const (.int .i64 (2))) (pt k1 0) (.int .i64 (2)) (pt k1 2) (fun _ => rfl) rfl rfl (by kernel_rfl) rfl ?_
  refine wl_load 22 (.tmp 9) (pt k1 2) (.int .u64 (l2 (a))) rfl rfl (run_one Q1 22 2 rfl Try.underlying22 rfl) rfl ?_
  refine wl_un (fun v => Op.unary .xor v) (.tmp 10) (.int .u64 (l2 (a))) (.int .u64 (l2 (-1 - a))) (fun _ => rfl) rfl (notU hl.2.2.1 hn.2.2.1 _) rfl ?_
  refine wl_bin (fun x y => Instr.indexAt 31 x y) (.tmp 1) (.const (.int .i64 (3))) (pt k1 0) (.int .i64 (3)) (pt k1 3) (fun _ => rfl) rfl rfl (by kernel_rfl) rfl ?_
  refine wl_load 22 (.tmp 12) (pt k1 3) (.int .u64 (l3 (a))) rfl rfl (run_one Q1 22 3 rfl Try.underlying22 rfl) rfl ?_
  refine wl_un (fun v => Op.unary .xor v) (.tmp 13) (.int .u64 (l3 (a))) (.int .u64 (l3 (-1 - a))) (fun _ => rfl) rfl (notU hl.2.2.2.1 hn.2.2.2.1 _) rfl ?_
  refine wl_bin (fun x y => Instr.indexAt 31 x y) (.tmp 1) (.const (.int .i64 (4))) (pt k1 0) (.int .i64 (4)) (pt k1 4) (fun _ => rfl) rfl rfl (by kernel_rfl) rfl ?_
  refine wl_load 22 (.tmp 15) (pt k1 4) (.int .u64 (l4 (a))) rfl rfl (run_one Q1 22 4 rfl Try.underlying22 rfl) rfl ?_
  refine wl_un (fun v => Op.unary .xor v) (.tmp 16) (.int .u64 (l4 (a))) (.int .u64 (l4 (-1 - a))) (fun _ => rfl) rfl (notU hl.2.2.2.2 hn.2.2.2.2 _) rfl ?_
  refine wl_build 31 [(0, (.tmp 5)), (1, (.tmp 8)), (2, (.tmp 11)), (3, (.tmp 14)), (4, (.tmp 17))] [(0, .int .u64 (l0 (-1 - a))), (1, .int .u64 (l1 (-1 - a))), (2, .int .u64 (l2 (-1 - a))), (3, .int .u64 (l3 (-1 - a))), (4, .int .u64 (l4 (-1 - a)))] (.agg #[.int .u64 (l0 (-1 - a)), .int .u64 (l1 (-1 - a)), .int .u64 (l2 (-1 - a)), .int .u64 (l3 (-1 - a)), .int .u64 (l4 (-1 - a))]) rfl rfl (by kernel_rfl) rfl ?_
  refine wl_build 31 [(0, (.const (.int .u64 (1))))] [(0, .int .u64 (1))] (.agg #[.int .u64 (1), .int .u64 0, .int .u64 0, .int .u64 0, .int .u64 0]) rfl rfl (by kernel_rfl) rfl ?_
  refine wl_call 20 [(.tmp 18), (.tmp 19)] _ [.agg #[.int .u64 (l0 (-1 - a)), .int .u64 (l1 (-1 - a)), .int .u64 (l2 (-1 - a)), .int .u64 (l3 (-1 - a)), .int .u64 (l4 (-1 - a))], .agg #[.int .u64 (1), .int .u64 0, .int .u64 0, .int .u64 0, .int .u64 0]] (.agg #[.int .u64 (l0 (-1 - a + 1)), .int .u64 (l1 (-1 - a + 1)), .int .u64 (l2 (-1 - a + 1)), .int .u64 (l3 (-1 - a + 1)), .int .u64 (l4 (-1 - a + 1))]) rfl rfl (fun _ _ => by kernel_rfl) (raddw_n (-1 - a) 1) rfl ?_
  intro w3 hq
  replace Q1 := Q1.mo hq
  replace Q2 := Q2.mo hq
  replace M := M.trans hq
  clear hq
  refine wl_st 31 (.tmp 2) (.tmp 20) k2 0 #[.int .u64 (l0 (-1 - a + 1)), .int .u64 (l1 (-1 - a + 1)), .int .u64 (l2 (-1 - a + 1)), .int .u64 (l3 (-1 - a + 1)), .int .u64 (l4 (-1 - a + 1))] [.int .u64 0, .int .u64 0, .int .u64 0, .int .u64 0, .int .u64 0] [.int .u64 (l0 (-1 - a + 1)), .int .u64 (l1 (-1 - a + 1)), .int .u64 (l2 (-1 - a + 1)), .int .u64 (l3 (-1 - a + 1)), .int .u64 (l4 (-1 - a + 1))] Q2 rfl rfl rfl rfl rfl sz31 rfl rfl rfl ?_
  intro w4 hS Qn
  replace Q2 := Qn
  clear Qn
  replace Q1 := hS.other _ _ ne_k1_k2 Q1
  replace M := hS.mo _ N_k2 M
  clear hS
  refine w_nil ?_
  refine xn_then ?_
  refine w_ret ?_
  exact w_ret1 _ (.agg #[.int .u64 (l0 (-1 - a + 1)), .int .u64 (l1 (-1 - a + 1)), .int .u64 (l2 (-1 - a + 1)), .int .u64 (l3 (-1 - a + 1)), .int .u64 (l4 (-1 - a + 1))]) rfl ⟨k2, rfl, (run_row Q2 31 0 5 [.int .u64 (l0 (-1 - a + 1)), .int .u64 (l1 (-1 - a + 1)), .int .u64 (l2 (-1 - a + 1)), .int .u64 (l3 (-1 - a + 1)), .int .u64 (l4 (-1 - a + 1))] rfl Try.underlying31 rfl sz31)⟩ ⟨by rw [← show -1 - a + 1 = -a by omega]; rfl, M⟩
end
end Go.Proofs.Ythpekbohmfmffaa
/-
  Signs of wide numbers.
-/
namespace Go.Proofs.Ythpekbohmfmffaa
open Go.RowKit
theorem l4_small {n : Int} (h0 : 0 ≤ n) (h : n < MM) : l4 n = 0 := by unfold l4; unfold MM at h; omega
theorem neU {a b : Int} {r : Bool} (h : decide (a = b) = r) (x y : Operand) (w : World) : (do eqGuard .neq 22 x y (.int .u64 a) (.int .u64 b); binOp .neq 22 (.int .u64 a) (.int .u64 b)).run Try.prog w = .ok (.bool !r) w := by
  have e : (do eqGuard .neq 22 x y (.int .u64 a) (.int .u64 b); binOp .neq 22 (.int .u64 a) (.int .u64 b)).run Try.prog w = .ok (.bool (a != b)) w := by kernel_rfl
  rw [e, ← h]; rfl
theorem eqUU {a b : Int} {r : Bool} (h : decide (a = b) = r) (x y : Operand) (w : World) : (do eqGuard .eql 22 x y (.int .u64 a) (.int .u64 b); binOp .eql 22 (.int .u64 a) (.int .u64 b)).run Try.prog w = .ok (.bool r) w := by
  have e : (do eqGuard .eql 22 x y (.int .u64 a) (.int .u64 b); binOp .eql 22 (.int .u64 a) (.int .u64 b)).run Try.prog w = .ok (.bool (a == b)) w := by kernel_rfl
  rw [e, ← h]; rfl
theorem ltI {a b : Int} {r : Bool} (h : decide (a < b) = r) (x y : Operand) (w : World) : (do eqGuard .lss 3 x y (.int .i64 a) (.int .i64 b); binOp .lss 3 (.int .i64 a) (.int .i64 b)).run Try.prog w = .ok (.bool r) w := by
  subst h; kernel_rfl
theorem gtI {a b : Int} {r : Bool} (h : decide (b < a) = r) (x y : Operand) (w : World) : (do eqGuard .gtr 3 x y (.int .i64 a) (.int .i64 b); binOp .gtr 3 (.int .i64 a) (.int .i64 b)).run Try.prog w = .ok (.bool r) w := by
  subst h; kernel_rfl
theorem and_top (x : Nat) : x &&& 9223372036854775808 = (x.testBit 63).toNat * 9223372036854775808 := by
  apply Nat.eq_of_testBit_eq
  intro i
  rw [Nat.testBit_and, show (9223372036854775808 : Nat) = 2 ^ 63 from rfl, Nat.testBit_two_pow]
  by_cases hi : 63 = i
  · subst hi
    cases x.testBit 63 with
    | true => simp; decide
    | false => simp
  · cases x.testBit 63 with
    | true => simp only [Bool.toNat_true, Nat.one_mul, Nat.testBit_two_pow, hi, decide_false, Bool.and_false]
    | false => simp [hi]
theorem and63 (x : Nat) (h : x < 18446744073709551616) (hb : Bool) (he : decide (9223372036854775808 ≤ x) = hb) : bits .and .u64 (x : Int) 9223372036854775808 = if hb then 9223372036854775808 else 0 := by
  have e := bits_and_u64_nat x 9223372036854775808 h (by decide)
  have e2 : x &&& 9223372036854775808 = (x.testBit 63).toNat * 9223372036854775808 := and_top x
  rw [show ((9223372036854775808 : Nat) : Int) = 9223372036854775808 from rfl, e2, Nat.testBit_eq_decide_div_mod_eq, show 2 ^ 63 = 9223372036854775808 from rfl] at e
  rw [e]
  cases hb with
  | true => have := of_decide_eq_true he; rw [decide_eq_true (show x / 9223372036854775808 % 2 = 1 by omega)]; rfl
  | false => have := of_decide_eq_false he; rw [decide_eq_false (show ¬ x / 9223372036854775808 % 2 = 1 by omega)]; rfl
theorem and63U {x : Int} (h0 : 0 ≤ x) (h : x < 18446744073709551616) {r : Bool} (he : decide (9223372036854775808 ≤ x) = r) (a b : Operand) (w : World) : (do eqGuard .and 22 a b (.int .u64 x) (.int .u64 9223372036854775808); binOp .and 22 (.int .u64 x) (.int .u64 9223372036854775808)).run Try.prog w = .ok (.int .u64 (if r then 9223372036854775808 else 0)) w := by
  have e : (do eqGuard .and 22 a b (.int .u64 x) (.int .u64 9223372036854775808); binOp .and 22 (.int .u64 x) (.int .u64 9223372036854775808)).run Try.prog w = .ok (.int .u64 (bits .and .u64 x 9223372036854775808)) w := by kernel_rfl
  obtain ⟨z, rfl⟩ := Int.eq_ofNat_of_zero_le h0
  rw [e, and63 z (by omega) r (by rw [← he]; exact decide_eq_decide.2 (by omega))]
theorem shr63 {x : Int} (h0 : 0 ≤ x) (h : x < 18446744073709551616) {r : Bool} (he : decide (9223372036854775808 ≤ x) = r) (a b : Operand) (w : World) : (do eqGuard .shr 22 a b (.int .u64 x) (.int .u64 63); binOp .shr 22 (.int .u64 x) (.int .u64 63)).run Try.prog w = .ok (.int .u64 (if r then 1 else 0)) w := by
  have e : (do eqGuard .shr 22 a b (.int .u64 x) (.int .u64 63); binOp .shr 22 (.int .u64 x) (.int .u64 63)).run Try.prog w = .ok (.int .u64 (x / 2 ^ 63)) w := by simp [go_sem]
  have h2 : x / 2 ^ 63 = if r then 1 else 0 := by
    rw [show (2 : Int) ^ 63 = 9223372036854775808 from rfl]
    cases r with
    | true => have := of_decide_eq_true he; simp; omega
    | false => have := of_decide_eq_false he; simp; omega
  rw [e, h2]
end Go.Proofs.Ythpekbohmfmffaa
/-
  Widen and Narrow, the program's and the document's.
-/
namespace Go.Proofs.Ythpekbohmfmffaa
open Go.RowKit
section
variable {w : World}
theorem widen_t (n s : Int) (hn0 : 0 ≤ n) (hn : n < MM) : Calls Try.prog 21 #[dc true n s] w fun e w' => e = .returned (wv (-n)) ∧ Mo w w' := by
  have h4 := l4_small hn0 hn
  have hv : (Value.agg #[.int .u64 (l0 n), .int .u64 (l1 n), .int .u64 (l2 n), .int .u64 (l3 n), .int .u64 0]) = wv n := by unfold wv; rw [h4]
  have hm : ∀ w, Calls Try.prog 37 #[.agg #[.int .u64 (l0 n), .int .u64 (l1 n), .int .u64 (l2 n), .int .u64 (l3 n), .int .u64 0]] w fun e w' => e = .returned (wv (-n)) ∧ Mo w w' := fun w => by rw [hv]; exact minus_n n
  refine w_enter 20 Try.func21 Try.ntmps21 rfl rfl ?_
  have M : Mo w w := Mo.refl _
  refine w_seq ?_
  refine w_reg ?_
  refine wl_box 26 (.tmp 0) (.agg #[.bool true, .int .u64 (l0 (n)), .int .u64 (l1 (n)), .int .u64 (l2 (n)), .int .u64 (l3 (n)), .int .i64 (s)]) (#[.bool true, .int .u64 (l0 (n)), .int .u64 (l1 (n)), .int .u64 (l2 (n)), .int .u64 (l3 (n)), .int .i64 (s)]) rfl rfl (fun _ => by kernel_rfl) rfl ?_
  intro k1 w1 hk hz hq Q1
  have N_k1 : w.heap.size ≤ k1 := by have := M.size; omega
  replace M := M.trans hq
  clear hk hz hq
  refine wl_alloc 31 #[.int .u64 0, .int .u64 0, .int .u64 0, .int .u64 0, .int .u64 0] rfl (fun _ => by kernel_rfl) rfl ?_
  intro k2 w2 hk hz hq Q2
  have ne_k1_k2 : k1 ≠ k2 := by have := Q1.lt; omega
  have N_k2 : w.heap.size ≤ k2 := by have := M.size; omega
  replace Q1 := Q1.mo hq
  replace M := M.trans hq
  clear hk hz hq
  refine w_nil ?_
  refine xn_then ?_
  refine w_seq ?_
  refine w_reg ?_
  refine wl_alloc 31 #[.int .u64 0, .int .u64 0, .int .u64 0, .int .u64 0, .int .u64 0] rfl (fun _ => by kernel_rfl) rfl ?_
  intro k3 w3 hk hz hq Q3
  have ne_k1_k3 : k1 ≠ k3 := by have := Q1.lt; omega
  have ne_k2_k3 : k2 ≠ k3 := by have := Q2.lt; omega
  have N_k3 : w.heap.size ≤ k3 := by have := M.size; omega
  replace Q1 := Q1.mo hq
  replace Q2 := Q2.mo hq
  replace M := M.trans hq
  clear hk hz hq
  refine w_nil ?_
  refine xn_then ?_
  refine w_seq ?_
  refine w_seq ?_
  refine w_reg ?_
  refine wl_mv (.const (.int .i64 (0))) (.int .i64 (0)) (fun _ => rfl) rfl rfl ?_
  refine w_nil ?_
  refine xn_then ?_
  refine w_block ?_
  refine w_rounds 4 ?_
  refine w_seq ?_
  refine w_reg ?_
  refine wl_bin (fun x y => do eqGuard .lss 3 (.tmp 5) (.const (.int .i64 (4))) x y; binOp .lss 3 x y) (.tmp 5) (.const (.int .i64 (4))) (.int .i64 (0)) (.int .i64 (4)) (.bool true) (fun _ => rfl) rfl rfl (by kernel_rfl) rfl ?_
  refine w_nil ?_
  refine xn_then ?_
  refine w_seq ?_
  refine w_condT rfl ?_
  refine w_skip ?_
  refine xn_then ?_
  refine w_seq ?_
  refine w_block ?_
  refine w_seq ?_
  refine w_reg ?_
  refine wl_mv (.tmp 5) (.int .i64 (0)) (fun _ => rfl) rfl rfl ?_
  refine wl_mv (.tmp 7) (.int .i64 (0)) (fun _ => rfl) rfl rfl ?_
  refine w_nil ?_
  refine xn_then ?_
  refine w_reg ?_
  refine wl_mv (.tmp 4) (.int .i64 (0)) (fun _ => rfl) rfl rfl ?_
  refine wl_mv (.tmp 4) (.int .i64 (0)) (fun _ => rfl) rfl rfl ?_
  refine wl_un (fun v => Instr.fieldAt 26 v 1) (.tmp 1) (pt k1 0) (pt k1 1) (fun _ => rfl) rfl (by kernel_rfl) rfl ?_
  refine wl_bin (fun x y => Instr.indexAt 24 x y) (.tmp 10) (.tmp 9) (pt k1 1) (.int .i64 (0)) (pt k1 1) (fun _ => rfl) rfl rfl (by kernel_rfl) rfl ?_
  refine wl_load 22 (.tmp 11) (pt k1 1) (.int .u64 (l0 (n))) rfl rfl (run_one Q1 22 1 rfl Try.underlying22 rfl) rfl ?_
  refine wl_bin (fun x y => Instr.indexAt 31 x y) (.tmp 3) (.tmp 8) (pt k3 0) (.int .i64 (0)) (pt k3 0) (fun _ => rfl) rfl rfl (by kernel_rfl) rfl ?_
  refine wl_st1 22 (.tmp 13) (.tmp 12) k3 0 (.int .u64 (l0 (n))) [.int .u64 0, .int .u64 0, .int .u64 0, .int .u64 0, .int .u64 0] [.int .u64 (l0 (n)), .int .u64 0, .int .u64 0, .int .u64 0, .int .u64 0] Q3 rfl rfl rfl rfl rfl sz22 rfl rfl rfl rfl ?_
  intro w4 hS Qn
  replace Q3 := Qn
  clear Qn
  replace Q1 := hS.other _ _ ne_k1_k3 Q1
  replace Q2 := hS.other _ _ ne_k2_k3 Q2
  replace M := hS.mo _ N_k3 M
  clear hS
  refine w_nil ?_
  refine xn_blk ?_
  refine xn_then ?_
  refine w_reg ?_
  refine wl_bin (fun x y => do eqGuard .add 3 (.tmp 5) (.const (.int .i64 (1))) x y; binOp .add 3 x y) (.tmp 5) (.const (.int .i64 (1))) (.int .i64 (0)) (.int .i64 (1)) (.int .i64 (1)) (fun _ => rfl) rfl rfl (by kernel_rfl) rfl ?_
  refine wl_mv (.tmp 14) (.int .i64 (1)) (fun _ => rfl) rfl rfl ?_
  refine w_nil ?_
  refine xn_rounds ?_
  refine w_seq ?_
  refine w_reg ?_
  refine wl_bin (fun x y => do eqGuard .lss 3 (.tmp 5) (.const (.int .i64 (4))) x y; binOp .lss 3 x y) (.tmp 5) (.const (.int .i64 (4))) (.int .i64 (1)) (.int .i64 (4)) (.bool true) (fun _ => rfl) rfl rfl (by kernel_rfl) rfl ?_
  refine w_nil ?_
  refine xn_then ?_
  refine w_seq ?_
  refine w_condT rfl ?_
  refine w_skip ?_
  refine xn_then ?_
  refine w_seq ?_
  refine w_block ?_
  refine w_seq ?_
  refine w_reg ?_
  refine wl_mv (.tmp 5) (.int .i64 (1)) (fun _ => rfl) rfl rfl ?_
  refine wl_mv (.tmp 7) (.int .i64 (1)) (fun _ => rfl) rfl rfl ?_
  refine w_nil ?_
  refine xn_then ?_
  refine w_reg ?_
  refine wl_mv (.tmp 4) (.int .i64 (1)) (fun _ => rfl) rfl rfl ?_
  refine wl_mv (.tmp 4) (.int .i64 (1)) (fun _ => rfl) rfl rfl ?_
  refine wl_un (fun v => Instr.fieldAt 26 v 1) (.tmp 1) (pt k1 0) (pt k1 1) (fun _ => rfl) rfl (by kernel_rfl) rfl ?_
  refine wl_bin (fun x y => Instr.indexAt 24 x y) (.tmp 10) (.tmp 9) (pt k1 1) (.int .i64 (1)) (pt k1 2) (fun _ => rfl) rfl rfl (by kernel_rfl) rfl ?_
  refine wl_load 22 (.tmp 11) (pt k1 2) (.int .u64 (l1 (n))) rfl rfl (run_one Q1 22 2 rfl Try.underlying22 rfl) rfl ?_
  refine wl_bin (fun x y => Instr.indexAt 31 x y) (.tmp 3) (.tmp 8) (pt k3 0) (.int .i64 (1)) (pt k3 1) (fun _ => rfl) rfl rfl (by kernel_rfl) rfl ?_
  refine wl_st1 22 (.tmp 13) (.tmp 12) k3 1 (.int .u64 (l1 (n))) [.int .u64 (l0 (n)), .int .u64 0, .int .u64 0, .int .u64 0, .int .u64 0] [.int .u64 (l0 (n)), .int .u64 (l1 (n)), .int .u64 0, .int .u64 0, .int .u64 0] Q3 rfl rfl rfl rfl rfl sz22 rfl rfl rfl rfl ?_
  intro w5 hS Qn
  replace Q3 := Qn
  clear Qn
  replace Q1 := hS.other _ _ ne_k1_k3 Q1
  replace Q2 := hS.other _ _ ne_k2_k3 Q2
  replace M := hS.mo _ N_k3 M
  clear hS
  refine w_nil ?_
  refine xn_blk ?_
  refine xn_then ?_
  refine w_reg ?_
  refine wl_bin (fun x y => do eqGuard .add 3 (.tmp 5) (.const (.int .i64 (1))) x y; binOp .add 3 x y) (.tmp 5) (.const (.int .i64 (1))) (.int .i64 (1)) (.int .i64 (1)) (.int .i64 (2)) (fun _ => rfl) rfl rfl (by kernel_rfl) rfl ?_
  refine wl_mv (.tmp 14) (.int .i64 (2)) (fun _ => rfl) rfl rfl ?_
  refine w_nil ?_
  refine xn_rounds ?_
  refine w_seq ?_
  refine w_reg ?_
  refine wl_bin (fun x y => do eqGuard .lss 3 (.tmp 5) (.const (.int .i64 (4))) x y; binOp .lss 3 x y) (.tmp 5) (.const (.int .i64 (4))) (.int .i64 (2)) (.int .i64 (4)) (.bool true) (fun _ => rfl) rfl rfl (by kernel_rfl) rfl ?_
  refine w_nil ?_
  refine xn_then ?_
  refine w_seq ?_
  refine w_condT rfl ?_
  refine w_skip ?_
  refine xn_then ?_
  refine w_seq ?_
  refine w_block ?_
  refine w_seq ?_
  refine w_reg ?_
  refine wl_mv (.tmp 5) (.int .i64 (2)) (fun _ => rfl) rfl rfl ?_
  refine wl_mv (.tmp 7) (.int .i64 (2)) (fun _ => rfl) rfl rfl ?_
  refine w_nil ?_
  refine xn_then ?_
  refine w_reg ?_
  refine wl_mv (.tmp 4) (.int .i64 (2)) (fun _ => rfl) rfl rfl ?_
  refine wl_mv (.tmp 4) (.int .i64 (2)) (fun _ => rfl) rfl rfl ?_
  refine wl_un (fun v => Instr.fieldAt 26 v 1) (.tmp 1) (pt k1 0) (pt k1 1) (fun _ => rfl) rfl (by kernel_rfl) rfl ?_
  refine wl_bin (fun x y => Instr.indexAt 24 x y) (.tmp 10) (.tmp 9) (pt k1 1) (.int .i64 (2)) (pt k1 3) (fun _ => rfl) rfl rfl (by kernel_rfl) rfl ?_
  refine wl_load 22 (.tmp 11) (pt k1 3) (.int .u64 (l2 (n))) rfl rfl (run_one Q1 22 3 rfl Try.underlying22 rfl) rfl ?_
  refine wl_bin (fun x y => Instr.indexAt 31 x y) (.tmp 3) (.tmp 8) (pt k3 0) (.int .i64 (2)) (pt k3 2) (fun _ => rfl) rfl rfl (by kernel_rfl) rfl ?_
  refine wl_st1 22 (.tmp 13) (.tmp 12) k3 2 (.int .u64 (l2 (n))) [.int .u64 (l0 (n)), .int .u64 (l1 (n)), .int .u64 0, .int .u64 0, .int .u64 0] [.int .u64 (l0 (n)), .int .u64 (l1 (n)), .int .u64 (l2 (n)), .int .u64 0, .int .u64 0] Q3 rfl rfl rfl rfl rfl sz22 rfl rfl rfl rfl ?_
  intro w6 hS Qn
  replace Q3 := Qn
  clear Qn
  replace Q1 := hS.other _ _ ne_k1_k3 Q1
  replace Q2 := hS.other _ _ ne_k2_k3 Q2
  replace M := hS.mo _ N_k3 M
  clear hS
  refine w_nil ?_
  refine xn_blk ?_
  refine xn_then ?_
  refine w_reg ?_
  refine wl_bin (fun x y => do eqGuard .add 3 (.tmp 5) (.const (.int .i64 (1))) x y; binOp .add 3 x y) (.tmp 5) (.const (.int .i64 (1))) (.int .i64 (2)) (.int .i64 (1)) (.int .i64 (3)) (fun _ => rfl) rfl rfl (by kernel_rfl) rfl ?_
  refine wl_mv (.tmp 14) (.int .i64 (3)) (fun _ => rfl) rfl rfl ?_
  refine w_nil ?_
  refine xn_rounds ?_
  refine w_seq ?_
  refine w_reg ?_
  refine wl_bin (fun x y => do eqGuard .lss 3 (.tmp 5) (.const (.int .i64 (4))) x y; binOp .lss 3 x y) (.tmp 5) (.const (.int .i64 (4))) (.int .i64 (3)) (.int .i64 (4)) (.bool true) (fun _ => rfl) rfl rfl (by kernel_rfl) rfl ?_
  refine w_nil ?_
  refine xn_then ?_
  refine w_seq ?_
  refine w_condT rfl ?_
  refine w_skip ?_
  refine xn_then ?_
  refine w_seq ?_
  refine w_block ?_
  refine w_seq ?_
  refine w_reg ?_
  refine wl_mv (.tmp 5) (.int .i64 (3)) (fun _ => rfl) rfl rfl ?_
  refine wl_mv (.tmp 7) (.int .i64 (3)) (fun _ => rfl) rfl rfl ?_
  refine w_nil ?_
  refine xn_then ?_
  refine w_reg ?_
  refine wl_mv (.tmp 4) (.int .i64 (3)) (fun _ => rfl) rfl rfl ?_
  refine wl_mv (.tmp 4) (.int .i64 (3)) (fun _ => rfl) rfl rfl ?_
  refine wl_un (fun v => Instr.fieldAt 26 v 1) (.tmp 1) (pt k1 0) (pt k1 1) (fun _ => rfl) rfl (by kernel_rfl) rfl ?_
  refine wl_bin (fun x y => Instr.indexAt 24 x y) (.tmp 10) (.tmp 9) (pt k1 1) (.int .i64 (3)) (pt k1 4) (fun _ => rfl) rfl rfl (by kernel_rfl) rfl ?_
  refine wl_load 22 (.tmp 11) (pt k1 4) (.int .u64 (l3 (n))) rfl rfl (run_one Q1 22 4 rfl Try.underlying22 rfl) rfl ?_
  refine wl_bin (fun x y => Instr.indexAt 31 x y) (.tmp 3) (.tmp 8) (pt k3 0) (.int .i64 (3)) (pt k3 3) (fun _ => rfl) rfl rfl (by kernel_rfl) rfl ?_
  refine wl_st1 22 (.tmp 13) (.tmp 12) k3 3 (.int .u64 (l3 (n))) [.int .u64 (l0 (n)), .int .u64 (l1 (n)), .int .u64 (l2 (n)), .int .u64 0, .int .u64 0] [.int .u64 (l0 (n)), .int .u64 (l1 (n)), .int .u64 (l2 (n)), .int .u64 (l3 (n)), .int .u64 0] Q3 rfl rfl rfl rfl rfl sz22 rfl rfl rfl rfl ?_
  intro w7 hS Qn
  replace Q3 := Qn
  clear Qn
  replace Q1 := hS.other _ _ ne_k1_k3 Q1
  replace Q2 := hS.other _ _ ne_k2_k3 Q2
  replace M := hS.mo _ N_k3 M
  clear hS
  refine w_nil ?_
  refine xn_blk ?_
  refine xn_then ?_
  refine w_reg ?_
  refine wl_bin (fun x y => do eqGuard .add 3 (.tmp 5) (.const (.int .i64 (1))) x y; binOp .add 3 x y) (.tmp 5) (.const (.int .i64 (1))) (.int .i64 (3)) (.int .i64 (1)) (.int .i64 (4)) (fun _ => rfl) rfl rfl (by kernel_rfl) rfl ?_
  refine wl_mv (.tmp 14) (.int .i64 (4)) (fun _ => rfl) rfl rfl ?_
  refine w_nil ?_
  refine xn_rounds ?_
  refine w_seq ?_
  refine w_reg ?_
  refine wl_bin (fun x y => do eqGuard .lss 3 (.tmp 5) (.const (.int .i64 (4))) x y; binOp .lss 3 x y) (.tmp 5) (.const (.int .i64 (4))) (.int .i64 (4)) (.int .i64 (4)) (.bool false) (fun _ => rfl) rfl rfl (by kernel_rfl) rfl ?_
  refine w_nil ?_
  refine xn_then ?_
  refine w_seq ?_
  refine w_condF rfl ?_
  refine w_exit ?_
  refine xx_then ?_
  refine xx_then ?_
  refine xx_blk ?_
  refine xn_then ?_
  refine w_seq ?_
  refine w_seq ?_
  refine w_reg ?_
  refine wl_un (fun v => Instr.fieldAt 26 v 0) (.tmp 1) (pt k1 0) (pt k1 0) (fun _ => rfl) rfl (by kernel_rfl) rfl ?_
  refine wl_load 4 (.tmp 15) (pt k1 0) (.bool true) rfl rfl (run_one Q1 4 0 rfl Try.underlying4 rfl) rfl ?_
  refine w_nil ?_
  refine xn_then ?_
  refine w_condT rfl ?_
  refine w_seq ?_
  refine w_reg ?_
  refine wl_load 31 (.tmp 3) (pt k3 0) (.agg #[.int .u64 (l0 (n)), .int .u64 (l1 (n)), .int .u64 (l2 (n)), .int .u64 (l3 (n)), .int .u64 0]) rfl rfl (run_row Q3 31 0 5 [.int .u64 (l0 (n)), .int .u64 (l1 (n)), .int .u64 (l2 (n)), .int .u64 (l3 (n)), .int .u64 0] rfl Try.underlying31 rfl sz31) rfl ?_
  refine wl_call 37 [(.tmp 17)] _ [.agg #[.int .u64 (l0 (n)), .int .u64 (l1 (n)), .int .u64 (l2 (n)), .int .u64 (l3 (n)), .int .u64 0]] (.agg #[.int .u64 (l0 (-n)), .int .u64 (l1 (-n)), .int .u64 (l2 (-n)), .int .u64 (l3 (-n)), .int .u64 (l4 (-n))]) rfl rfl (fun _ _ => by kernel_rfl) (hm _) rfl ?_
  intro w8 hq
  replace Q1 := Q1.mo hq
  replace Q2 := Q2.mo hq
  replace Q3 := Q3.mo hq
  replace M := M.trans hq
  clear hq
  refine wl_st 31 (.tmp 2) (.tmp 18) k2 0 #[.int .u64 (l0 (-n)), .int .u64 (l1 (-n)), .int .u64 (l2 (-n)), .int .u64 (l3 (-n)), .int .u64 (l4 (-n))] [.int .u64 0, .int .u64 0, .int .u64 0, .int .u64 0, .int .u64 0] [.int .u64 (l0 (-n)), .int .u64 (l1 (-n)), .int .u64 (l2 (-n)), .int .u64 (l3 (-n)), .int .u64 (l4 (-n))] Q2 rfl rfl rfl rfl rfl sz31 rfl rfl rfl ?_
  intro w9 hS Qn
  replace Q2 := Qn
  clear Qn
  replace Q1 := hS.other _ _ ne_k1_k2 Q1
  replace Q3 := hS.other _ _ ne_k2_k3.symm Q3
  replace M := hS.mo _ N_k2 M
  clear hS
  refine w_nil ?_
  refine xn_then ?_
  refine w_ret ?_
  refine xr_then ?_
  exact w_ret1 _ (.agg #[.int .u64 (l0 (-n)), .int .u64 (l1 (-n)), .int .u64 (l2 (-n)), .int .u64 (l3 (-n)), .int .u64 (l4 (-n))]) rfl ⟨k2, rfl, (run_row Q2 31 0 5 [.int .u64 (l0 (-n)), .int .u64 (l1 (-n)), .int .u64 (l2 (-n)), .int .u64 (l3 (-n)), .int .u64 (l4 (-n))] rfl Try.underlying31 rfl sz31)⟩ ⟨rfl, M⟩
theorem widen_f (n s : Int) (hn0 : 0 ≤ n) (hn : n < MM) : Calls Try.prog 21 #[dc false n s] w fun e w' => e = .returned (wv (n)) ∧ Mo w w' := by
  have h4 := l4_small hn0 hn
  have hv : (Value.agg #[.int .u64 (l0 n), .int .u64 (l1 n), .int .u64 (l2 n), .int .u64 (l3 n), .int .u64 0]) = wv n := by unfold wv; rw [h4]
  refine w_enter 20 Try.func21 Try.ntmps21 rfl rfl ?_
  have M : Mo w w := Mo.refl _
  refine w_seq ?_
  refine w_reg ?_
  refine wl_box 26 (.tmp 0) (.agg #[.bool false, .int .u64 (l0 (n)), .int .u64 (l1 (n)), .int .u64 (l2 (n)), .int .u64 (l3 (n)), .int .i64 (s)]) (#[.bool false, .int .u64 (l0 (n)), .int .u64 (l1 (n)), .int .u64 (l2 (n)), .int .u64 (l3 (n)), .int .i64 (s)]) rfl rfl (fun _ => by kernel_rfl) rfl ?_
  intro k1 w1 hk hz hq Q1
  have N_k1 : w.heap.size ≤ k1 := by have := M.size; omega
  replace M := M.trans hq
  clear hk hz hq
  refine wl_alloc 31 #[.int .u64 0, .int .u64 0, .int .u64 0, .int .u64 0, .int .u64 0] rfl (fun _ => by kernel_rfl) rfl ?_
  intro k2 w2 hk hz hq Q2
  have ne_k1_k2 : k1 ≠ k2 := by have := Q1.lt; omega
  have N_k2 : w.heap.size ≤ k2 := by have := M.size; omega
  replace Q1 := Q1.mo hq
  replace M := M.trans hq
  clear hk hz hq
  refine w_nil ?_
  refine xn_then ?_
  refine w_seq ?_
  refine w_reg ?_
  refine wl_alloc 31 #[.int .u64 0, .int .u64 0, .int .u64 0, .int .u64 0, .int .u64 0] rfl (fun _ => by kernel_rfl) rfl ?_
  intro k3 w3 hk hz hq Q3
  have ne_k1_k3 : k1 ≠ k3 := by have := Q1.lt; omega
  have ne_k2_k3 : k2 ≠ k3 := by have := Q2.lt; omega
  have N_k3 : w.heap.size ≤ k3 := by have := M.size; omega
  replace Q1 := Q1.mo hq
  replace Q2 := Q2.mo hq
  replace M := M.trans hq
  clear hk hz hq
  refine w_nil ?_
  refine xn_then ?_
  refine w_seq ?_
  refine w_seq ?_
  refine w_reg ?_
  refine wl_mv (.const (.int .i64 (0))) (.int .i64 (0)) (fun _ => rfl) rfl rfl ?_
  refine w_nil ?_
  refine xn_then ?_
  refine w_block ?_
  refine w_rounds 4 ?_
  refine w_seq ?_
  refine w_reg ?_
  refine wl_bin (fun x y => do eqGuard .lss 3 (.tmp 5) (.const (.int .i64 (4))) x y; binOp .lss 3 x y) (.tmp 5) (.const (.int .i64 (4))) (.int .i64 (0)) (.int .i64 (4)) (.bool true) (fun _ => rfl) rfl rfl (by kernel_rfl) rfl ?_
  refine w_nil ?_
  refine xn_then ?_
  refine w_seq ?_
  refine w_condT rfl ?_
  refine w_skip ?_
  refine xn_then ?_
  refine w_seq ?_
  refine w_block ?_
  refine w_seq ?_
  refine w_reg ?_
  refine wl_mv (.tmp 5) (.int .i64 (0)) (fun _ => rfl) rfl rfl ?_
  refine wl_mv (.tmp 7) (.int .i64 (0)) (fun _ => rfl) rfl rfl ?_
  refine w_nil ?_
  refine xn_then ?_
  refine w_reg ?_
  refine wl_mv (.tmp 4) (.int .i64 (0)) (fun _ => rfl) rfl rfl ?_
  refine wl_mv (.tmp 4) (.int .i64 (0)) (fun _ => rfl) rfl rfl ?_
  refine wl_un (fun v => Instr.fieldAt 26 v 1) (.tmp 1) (pt k1 0) (pt k1 1) (fun _ => rfl) rfl (by kernel_rfl) rfl ?_
  refine wl_bin (fun x y => Instr.indexAt 24 x y) (.tmp 10) (.tmp 9) (pt k1 1) (.int .i64 (0)) (pt k1 1) (fun _ => rfl) rfl rfl (by kernel_rfl) rfl ?_
  refine wl_load 22 (.tmp 11) (pt k1 1) (.int .u64 (l0 (n))) rfl rfl (run_one Q1 22 1 rfl Try.underlying22 rfl) rfl ?_
  refine wl_bin (fun x y => Instr.indexAt 31 x y) (.tmp 3) (.tmp 8) (pt k3 0) (.int .i64 (0)) (pt k3 0) (fun _ => rfl) rfl rfl (by kernel_rfl) rfl ?_
  refine wl_st1 22 (.tmp 13) (.tmp 12) k3 0 (.int .u64 (l0 (n))) [.int .u64 0, .int .u64 0, .int .u64 0, .int .u64 0, .int .u64 0] [.int .u64 (l0 (n)), .int .u64 0, .int .u64 0, .int .u64 0, .int .u64 0] Q3 rfl rfl rfl rfl rfl sz22 rfl rfl rfl rfl ?_
  intro w4 hS Qn
  replace Q3 := Qn
  clear Qn
  replace Q1 := hS.other _ _ ne_k1_k3 Q1
  replace Q2 := hS.other _ _ ne_k2_k3 Q2
  replace M := hS.mo _ N_k3 M
  clear hS
  refine w_nil ?_
  refine xn_blk ?_
  refine xn_then ?_
  refine w_reg ?_
  refine wl_bin (fun x y => do eqGuard .add 3 (.tmp 5) (.const (.int .i64 (1))) x y; binOp .add 3 x y) (.tmp 5) (.const (.int .i64 (1))) (.int .i64 (0)) (.int .i64 (1)) (.int .i64 (1)) (fun _ => rfl) rfl rfl (by kernel_rfl) rfl ?_
  refine wl_mv (.tmp 14) (.int .i64 (1)) (fun _ => rfl) rfl rfl ?_
  refine w_nil ?_
  refine xn_rounds ?_
  refine w_seq ?_
  refine w_reg ?_
  refine wl_bin (fun x y => do eqGuard .lss 3 (.tmp 5) (.const (.int .i64 (4))) x y; binOp .lss 3 x y) (.tmp 5) (.const (.int .i64 (4))) (.int .i64 (1)) (.int .i64 (4)) (.bool true) (fun _ => rfl) rfl rfl (by kernel_rfl) rfl ?_
  refine w_nil ?_
  refine xn_then ?_
  refine w_seq ?_
  refine w_condT rfl ?_
  refine w_skip ?_
  refine xn_then ?_
  refine w_seq ?_
  refine w_block ?_
  refine w_seq ?_
  refine w_reg ?_
  refine wl_mv (.tmp 5) (.int .i64 (1)) (fun _ => rfl) rfl rfl ?_
  refine wl_mv (.tmp 7) (.int .i64 (1)) (fun _ => rfl) rfl rfl ?_
  refine w_nil ?_
  refine xn_then ?_
  refine w_reg ?_
  refine wl_mv (.tmp 4) (.int .i64 (1)) (fun _ => rfl) rfl rfl ?_
  refine wl_mv (.tmp 4) (.int .i64 (1)) (fun _ => rfl) rfl rfl ?_
  refine wl_un (fun v => Instr.fieldAt 26 v 1) (.tmp 1) (pt k1 0) (pt k1 1) (fun _ => rfl) rfl (by kernel_rfl) rfl ?_
  refine wl_bin (fun x y => Instr.indexAt 24 x y) (.tmp 10) (.tmp 9) (pt k1 1) (.int .i64 (1)) (pt k1 2) (fun _ => rfl) rfl rfl (by kernel_rfl) rfl ?_
  refine wl_load 22 (.tmp 11) (pt k1 2) (.int .u64 (l1 (n))) rfl rfl (run_one Q1 22 2 rfl Try.underlying22 rfl) rfl ?_
  refine wl_bin (fun x y => Instr.indexAt 31 x y) (.tmp 3) (.tmp 8) (pt k3 0) (.int .i64 (1)) (pt k3 1) (fun _ => rfl) rfl rfl (by kernel_rfl) rfl ?_
  refine wl_st1 22 (.tmp 13) (.tmp 12) k3 1 (.int .u64 (l1 (n))) [.int .u64 (l0 (n)), .int .u64 0, .int .u64 0, .int .u64 0, .int .u64 0] [.int .u64 (l0 (n)), .int .u64 (l1 (n)), .int .u64 0, .int .u64 0, .int .u64 0] Q3 rfl rfl rfl rfl rfl sz22 rfl rfl rfl rfl ?_
  intro w5 hS Qn
  replace Q3 := Qn
  clear Qn
  replace Q1 := hS.other _ _ ne_k1_k3 Q1
  replace Q2 := hS.other _ _ ne_k2_k3 Q2
  replace M := hS.mo _ N_k3 M
  clear hS
  refine w_nil ?_
  refine xn_blk ?_
  refine xn_then ?_
  refine w_reg ?_
  refine wl_bin (fun x y => do eqGuard .add 3 (.tmp 5) (.const (.int .i64 (1))) x y; binOp .add 3 x y) (.tmp 5) (.const (.int .i64 (1))) (.int .i64 (1)) (.int .i64 (1)) (.int .i64 (2)) (fun _ => rfl) rfl rfl (by kernel_rfl) rfl ?_
  refine wl_mv (.tmp 14) (.int .i64 (2)) (fun _ => rfl) rfl rfl ?_
  refine w_nil ?_
  refine xn_rounds ?_
  refine w_seq ?_
  refine w_reg ?_
  refine wl_bin (fun x y => do eqGuard .lss 3 (.tmp 5) (.const (.int .i64 (4))) x y; binOp .lss 3 x y) (.tmp 5) (.const (.int .i64 (4))) (.int .i64 (2)) (.int .i64 (4)) (.bool true) (fun _ => rfl) rfl rfl (by kernel_rfl) rfl ?_
  refine w_nil ?_
  refine xn_then ?_
  refine w_seq ?_
  refine w_condT rfl ?_
  refine w_skip ?_
  refine xn_then ?_
  refine w_seq ?_
  refine w_block ?_
  refine w_seq ?_
  refine w_reg ?_
  refine wl_mv (.tmp 5) (.int .i64 (2)) (fun _ => rfl) rfl rfl ?_
  refine wl_mv (.tmp 7) (.int .i64 (2)) (fun _ => rfl) rfl rfl ?_
  refine w_nil ?_
  refine xn_then ?_
  refine w_reg ?_
  refine wl_mv (.tmp 4) (.int .i64 (2)) (fun _ => rfl) rfl rfl ?_
  refine wl_mv (.tmp 4) (.int .i64 (2)) (fun _ => rfl) rfl rfl ?_
  refine wl_un (fun v => Instr.fieldAt 26 v 1) (.tmp 1) (pt k1 0) (pt k1 1) (fun _ => rfl) rfl (by kernel_rfl) rfl ?_
  refine wl_bin (fun x y => Instr.indexAt 24 x y) (.tmp 10) (.tmp 9) (pt k1 1) (.int .i64 (2)) (pt k1 3) (fun _ => rfl) rfl rfl (by kernel_rfl) rfl ?_
  refine wl_load 22 (.tmp 11) (pt k1 3) (.int .u64 (l2 (n))) rfl rfl (run_one Q1 22 3 rfl Try.underlying22 rfl) rfl ?_
  refine wl_bin (fun x y => Instr.indexAt 31 x y) (.tmp 3) (.tmp 8) (pt k3 0) (.int .i64 (2)) (pt k3 2) (fun _ => rfl) rfl rfl (by kernel_rfl) rfl ?_
  refine wl_st1 22 (.tmp 13) (.tmp 12) k3 2 (.int .u64 (l2 (n))) [.int .u64 (l0 (n)), .int .u64 (l1 (n)), .int .u64 0, .int .u64 0, .int .u64 0] [.int .u64 (l0 (n)), .int .u64 (l1 (n)), .int .u64 (l2 (n)), .int .u64 0, .int .u64 0] Q3 rfl rfl rfl rfl rfl sz22 rfl rfl rfl rfl ?_
  intro w6 hS Qn
  replace Q3 := Qn
  clear Qn
  replace Q1 := hS.other _ _ ne_k1_k3 Q1
  replace Q2 := hS.other _ _ ne_k2_k3 Q2
  replace M := hS.mo _ N_k3 M
  clear hS
  refine w_nil ?_
  refine xn_blk ?_
  refine xn_then ?_
  refine w_reg ?_
  refine wl_bin (fun x y => do eqGuard .add 3 (.tmp 5) (.const (.int .i64 (1))) x y; binOp .add 3 x y) (.tmp 5) (.const (.int .i64 (1))) (.int .i64 (2)) (.int .i64 (1)) (.int .i64 (3)) (fun _ => rfl) rfl rfl (by kernel_rfl) rfl ?_
  refine wl_mv (.tmp 14) (.int .i64 (3)) (fun _ => rfl) rfl rfl ?_
  refine w_nil ?_
  refine xn_rounds ?_
  refine w_seq ?_
  refine w_reg ?_
  refine wl_bin (fun x y => do eqGuard .lss 3 (.tmp 5) (.const (.int .i64 (4))) x y; binOp .lss 3 x y) (.tmp 5) (.const (.int .i64 (4))) (.int .i64 (3)) (.int .i64 (4)) (.bool true) (fun _ => rfl) rfl rfl (by kernel_rfl) rfl ?_
  refine w_nil ?_
  refine xn_then ?_
  refine w_seq ?_
  refine w_condT rfl ?_
  refine w_skip ?_
  refine xn_then ?_
  refine w_seq ?_
  refine w_block ?_
  refine w_seq ?_
  refine w_reg ?_
  refine wl_mv (.tmp 5) (.int .i64 (3)) (fun _ => rfl) rfl rfl ?_
  refine wl_mv (.tmp 7) (.int .i64 (3)) (fun _ => rfl) rfl rfl ?_
  refine w_nil ?_
  refine xn_then ?_
  refine w_reg ?_
  refine wl_mv (.tmp 4) (.int .i64 (3)) (fun _ => rfl) rfl rfl ?_
  refine wl_mv (.tmp 4) (.int .i64 (3)) (fun _ => rfl) rfl rfl ?_
  refine wl_un (fun v => Instr.fieldAt 26 v 1) (.tmp 1) (pt k1 0) (pt k1 1) (fun _ => rfl) rfl (by kernel_rfl) rfl ?_
  refine wl_bin (fun x y => Instr.indexAt 24 x y) (.tmp 10) (.tmp 9) (pt k1 1) (.int .i64 (3)) (pt k1 4) (fun _ => rfl) rfl rfl (by kernel_rfl) rfl ?_
  refine wl_load 22 (.tmp 11) (pt k1 4) (.int .u64 (l3 (n))) rfl rfl (run_one Q1 22 4 rfl Try.underlying22 rfl) rfl ?_
  refine wl_bin (fun x y => Instr.indexAt 31 x y) (.tmp 3) (.tmp 8) (pt k3 0) (.int .i64 (3)) (pt k3 3) (fun _ => rfl) rfl rfl (by kernel_rfl) rfl ?_
  refine wl_st1 22 (.tmp 13) (.tmp 12) k3 3 (.int .u64 (l3 (n))) [.int .u64 (l0 (n)), .int .u64 (l1 (n)), .int .u64 (l2 (n)), .int .u64 0, .int .u64 0] [.int .u64 (l0 (n)), .int .u64 (l1 (n)), .int .u64 (l2 (n)), .int .u64 (l3 (n)), .int .u64 0] Q3 rfl rfl rfl rfl rfl sz22 rfl rfl rfl rfl ?_
  intro w7 hS Qn
  replace Q3 := Qn
  clear Qn
  replace Q1 := hS.other _ _ ne_k1_k3 Q1
  replace Q2 := hS.other _ _ ne_k2_k3 Q2
  replace M := hS.mo _ N_k3 M
  clear hS
  refine w_nil ?_
  refine xn_blk ?_
  refine xn_then ?_
  refine w_reg ?_
  refine wl_bin (fun x y => do eqGuard .add 3 (.tmp 5) (.const (.int .i64 (1))) x y; binOp .add 3 x y) (.tmp 5) (.const (.int .i64 (1))) (.int .i64 (3)) (.int .i64 (1)) (.int .i64 (4)) (fun _ => rfl) rfl rfl (by kernel_rfl) rfl ?_
  refine wl_mv (.tmp 14) (.int .i64 (4)) (fun _ => rfl) rfl rfl ?_
  refine w_nil ?_
  refine xn_rounds ?_
  refine w_seq ?_
  refine w_reg ?_
  refine wl_bin (fun x y => do eqGuard .lss 3 (.tmp 5) (.const (.int .i64 (4))) x y; binOp .lss 3 x y) (.tmp 5) (.const (.int .i64 (4))) (.int .i64 (4)) (.int .i64 (4)) (.bool false) (fun _ => rfl) rfl rfl (by kernel_rfl) rfl ?_
  refine w_nil ?_
  refine xn_then ?_
  refine w_seq ?_
  refine w_condF rfl ?_
  refine w_exit ?_
  refine xx_then ?_
  refine xx_then ?_
  refine xx_blk ?_
  refine xn_then ?_
  refine w_seq ?_
  refine w_seq ?_
  refine w_reg ?_
  refine wl_un (fun v => Instr.fieldAt 26 v 0) (.tmp 1) (pt k1 0) (pt k1 0) (fun _ => rfl) rfl (by kernel_rfl) rfl ?_
  refine wl_load 4 (.tmp 15) (pt k1 0) (.bool false) rfl rfl (run_one Q1 4 0 rfl Try.underlying4 rfl) rfl ?_
  refine w_nil ?_
  refine xn_then ?_
  refine w_condF rfl ?_
  refine w_skip ?_
  refine xn_then ?_
  refine w_seq ?_
  refine w_reg ?_
  refine wl_load 31 (.tmp 3) (pt k3 0) (.agg #[.int .u64 (l0 (n)), .int .u64 (l1 (n)), .int .u64 (l2 (n)), .int .u64 (l3 (n)), .int .u64 0]) rfl rfl (run_row Q3 31 0 5 [.int .u64 (l0 (n)), .int .u64 (l1 (n)), .int .u64 (l2 (n)), .int .u64 (l3 (n)), .int .u64 0] rfl Try.underlying31 rfl sz31) rfl ?_
  refine wl_st 31 (.tmp 2) (.tmp 19) k2 0 #[.int .u64 (l0 (n)), .int .u64 (l1 (n)), .int .u64 (l2 (n)), .int .u64 (l3 (n)), .int .u64 0] [.int .u64 0, .int .u64 0, .int .u64 0, .int .u64 0, .int .u64 0] [.int .u64 (l0 (n)), .int .u64 (l1 (n)), .int .u64 (l2 (n)), .int .u64 (l3 (n)), .int .u64 0] Q2 rfl rfl rfl rfl rfl sz31 rfl rfl rfl ?_
  intro w8 hS Qn
  replace Q2 := Qn
  clear Qn
  replace Q1 := hS.other _ _ ne_k1_k2 Q1
  replace Q3 := hS.other _ _ ne_k2_k3.symm Q3
  replace M := hS.mo _ N_k2 M
  clear hS
  refine w_nil ?_
  refine xn_then ?_
  refine w_ret ?_
  exact w_ret1 _ (.agg #[.int .u64 (l0 (n)), .int .u64 (l1 (n)), .int .u64 (l2 (n)), .int .u64 (l3 (n)), .int .u64 0]) rfl ⟨k2, rfl, (run_row Q2 31 0 5 [.int .u64 (l0 (n)), .int .u64 (l1 (n)), .int .u64 (l2 (n)), .int .u64 (l3 (n)), .int .u64 0] rfl Try.underlying31 rfl sz31)⟩ ⟨by rw [← hv], M⟩
theorem rwiden_t (n s : Int) (hn0 : 0 ≤ n) (hn : n < MM) : Calls Try.prog 22 #[dc true n s] w fun e w' => e = .returned (wv (-n)) ∧ Mo w w' := by
  have h4 := l4_small hn0 hn
  have hv : (Value.agg #[.int .u64 (l0 n), .int .u64 (l1 n), .int .u64 (l2 n), .int .u64 (l3 n), .int .u64 0]) = wv n := by unfold wv; rw [h4]
  have hm : ∀ w, Calls Try.prog 31 #[.agg #[.int .u64 (l0 n), .int .u64 (l1 n), .int .u64 (l2 n), .int .u64 (l3 n), .int .u64 0]] w fun e w' => e = .returned (wv (-n)) ∧ Mo w w' := fun w => by rw [hv]; exact rminus_n n
  refine w_enter 22 Try.func22 Try.ntmps22 rfl rfl ?_
  have M : Mo w w := Mo.refl _
  refine w_seq ?_
  refine w_reg ?_
  refine wl_box 26 (.tmp 0) (.agg #[.bool true, .int .u64 (l0 (n)), .int .u64 (l1 (n)), .int .u64 (l2 (n)), .int .u64 (l3 (n)), .int .i64 (s)]) (#[.bool true, .int .u64 (l0 (n)), .int .u64 (l1 (n)), .int .u64 (l2 (n)), .int .u64 (l3 (n)), .int .i64 (s)]) rfl rfl (fun _ => by kernel_rfl) rfl ?_
  intro k1 w1 hk hz hq Q1
  have N_k1 : w.heap.size ≤ k1 := by have := M.size; omega
  replace M := M.trans hq
  clear hk hz hq
  refine wl_alloc 31 #[.int .u64 0, .int .u64 0, .int .u64 0, .int .u64 0, .int .u64 0] rfl (fun _ => by kernel_rfl) rfl ?_
  intro k2 w2 hk hz hq Q2
  have ne_k1_k2 : k1 ≠ k2 := by have := Q1.lt; omega
  have N_k2 : w.heap.size ≤ k2 := by have := M.size; omega
  replace Q1 := Q1.mo hq
  replace M := M.trans hq
  clear hk hz hq
  refine w_nil ?_
  refine xn_then ?_
  refine w_seq ?_
  refine w_reg ?_
  refine wl_un (fun v => Instr.fieldAt 26 v 1) (.tmp 1) (pt k1 0) (pt k1 1) (fun _ => rfl) rfl (by kernel_rfl) rfl ?_
  refine wl_bin (fun x y => Instr.indexAt 24 x y) (.tmp 4) (.const (.int .i64 (0))) (pt k1 1) (.int .i64 (0)) (pt k1 1) (fun _ => rfl) rfl rfl (by kernel_rfl) rfl ?_
  refine wl_load 22 (.tmp 5) (pt k1 1) (.int .u64 (l0 (n))) rfl rfl (run_one Q1 22 1 rfl Try.underlying22 rfl) rfl ?_
  refine wl_un (fun v => Instr.fieldAt 26 v 1) (.tmp 1) (pt k1 0) (pt k1 1) (fun _ => rfl) rfl (by kernel_rfl) rfl ?_
  refine wl_bin (fun x y => Instr.indexAt 24 x y) (.tmp 7) (.const (.int .i64 (1))) (pt k1 1) (.int .i64 (1)) (pt k1 2) (fun _ => rfl) rfl rfl (by kernel_rfl) rfl ?_
  refine wl_load 22 (.tmp 8) (pt k1 2) (.int .u64 (l1 (n))) rfl rfl (run_one Q1 22 2 rfl Try.underlying22 rfl) rfl ?_
  refine wl_un (fun v => Instr.fieldAt 26 v 1) (.tmp 1) (pt k1 0) (pt k1 1) (fun _ => rfl) rfl (by kernel_rfl) rfl ?_
  refine wl_bin (fun x y => Instr.indexAt 24 x y) (.tmp 10) (.const (.int .i64 (2))) (pt k1 1) (.int .i64 (2)) (pt k1 3) (fun _ => rfl) rfl rfl (by kernel_rfl) rfl ?_
  refine wl_load 22 (.tmp 11) (pt k1 3) (.int .u64 (l2 (n))) rfl rfl (run_one Q1 22 3 rfl Try.underlying22 rfl) rfl ?_
  refine wl_un (fun v => Instr.fieldAt 26 v 1) (.tmp 1) (pt k1 0) (pt k1 1) (fun _ => rfl) rfl (by kernel_rfl) rfl ?_
  refine wl_bin (fun x y => Instr.indexAt 24 x y) (.tmp 13) (.const (.int .i64 (3))) (pt k1 1) (.int .i64 (3)) (pt k1 4) (fun _ => rfl) rfl rfl (by kernel_rfl) rfl ?_
  refine wl_load 22 (.tmp 14) (pt k1 4) (.int .u64 (l3 (n))) rfl rfl (run_one Q1 22 4 rfl Try.underlying22 rfl) rfl ?_
  refine wl_build 31 [(0, (.tmp 6)), (1, (.tmp 9)), (2, (.tmp 12)), (3, (.tmp 15)), (4, (.const (.int .u64 (0))))] [(0, .int .u64 (l0 (n))), (1, .int .u64 (l1 (n))), (2, .int .u64 (l2 (n))), (3, .int .u64 (l3 (n))), (4, .int .u64 (0))] (.agg #[.int .u64 (l0 (n)), .int .u64 (l1 (n)), .int .u64 (l2 (n)), .int .u64 (l3 (n)), .int .u64 (0)]) rfl rfl (by kernel_rfl) rfl ?_
  refine wl_alloc 31 #[.int .u64 0, .int .u64 0, .int .u64 0, .int .u64 0, .int .u64 0] rfl (fun _ => by kernel_rfl) rfl ?_
  intro k3 w3 hk hz hq Q3
  have ne_k1_k3 : k1 ≠ k3 := by have := Q1.lt; omega
  have ne_k2_k3 : k2 ≠ k3 := by have := Q2.lt; omega
  have N_k3 : w.heap.size ≤ k3 := by have := M.size; omega
  replace Q1 := Q1.mo hq
  replace Q2 := Q2.mo hq
  replace M := M.trans hq
  clear hk hz hq
  refine wl_st 31 (.tmp 3) (.tmp 16) k3 0 #[.int .u64 (l0 (n)), .int .u64 (l1 (n)), .int .u64 (l2 (n)), .int .u64 (l3 (n)), .int .u64 (0)] [.int .u64 0, .int .u64 0, .int .u64 0, .int .u64 0, .int .u64 0] [.int .u64 (l0 (n)), .int .u64 (l1 (n)), .int .u64 (l2 (n)), .int .u64 (l3 (n)), .int .u64 (0)] Q3 rfl rfl rfl rfl rfl sz31 rfl rfl rfl ?_
  intro w4 hS Qn
  replace Q3 := Qn
  clear Qn
  replace Q1 := hS.other _ _ ne_k1_k3 Q1
  replace Q2 := hS.other _ _ ne_k2_k3 Q2
  replace M := hS.mo _ N_k3 M
  clear hS
  refine w_nil ?_
  refine xn_then ?_
  refine w_seq ?_
  refine w_seq ?_
  refine w_reg ?_
  refine wl_un (fun v => Instr.fieldAt 26 v 0) (.tmp 1) (pt k1 0) (pt k1 0) (fun _ => rfl) rfl (by kernel_rfl) rfl ?_
  refine wl_load 4 (.tmp 17) (pt k1 0) (.bool true) rfl rfl (run_one Q1 4 0 rfl Try.underlying4 rfl) rfl ?_
  refine w_nil ?_
  refine xn_then ?_
  refine w_condT rfl ?_
  refine w_seq ?_
  refine w_reg ?_
  refine wl_load 31 (.tmp 3) (pt k3 0) (.agg #[.int .u64 (l0 (n)), .int .u64 (l1 (n)), .int .u64 (l2 (n)), .int .u64 (l3 (n)), .int .u64 (0)]) rfl rfl (run_row Q3 31 0 5 [.int .u64 (l0 (n)), .int .u64 (l1 (n)), .int .u64 (l2 (n)), .int .u64 (l3 (n)), .int .u64 (0)] rfl Try.underlying31 rfl sz31) rfl ?_
  refine wl_call 31 [(.tmp 19)] _ [.agg #[.int .u64 (l0 (n)), .int .u64 (l1 (n)), .int .u64 (l2 (n)), .int .u64 (l3 (n)), .int .u64 (0)]] (.agg #[.int .u64 (l0 (-n)), .int .u64 (l1 (-n)), .int .u64 (l2 (-n)), .int .u64 (l3 (-n)), .int .u64 (l4 (-n))]) rfl rfl (fun _ _ => by kernel_rfl) (hm _) rfl ?_
  intro w5 hq
  replace Q1 := Q1.mo hq
  replace Q2 := Q2.mo hq
  replace Q3 := Q3.mo hq
  replace M := M.trans hq
  clear hq
  refine wl_st 31 (.tmp 2) (.tmp 20) k2 0 #[.int .u64 (l0 (-n)), .int .u64 (l1 (-n)), .int .u64 (l2 (-n)), .int .u64 (l3 (-n)), .int .u64 (l4 (-n))] [.int .u64 0, .int .u64 0, .int .u64 0, .int .u64 0, .int .u64 0] [.int .u64 (l0 (-n)), .int .u64 (l1 (-n)), .int .u64 (l2 (-n)), .int .u64 (l3 (-n)), .int .u64 (l4 (-n))] Q2 rfl rfl rfl rfl rfl sz31 rfl rfl rfl ?_
  intro w6 hS Qn
  replace Q2 := Qn
  clear Qn
  replace Q1 := hS.other _ _ ne_k1_k2 Q1
  replace Q3 := hS.other _ _ ne_k2_k3.symm Q3
  replace M := hS.mo _ N_k2 M
  clear hS
  refine w_nil ?_
  refine xn_then ?_
  refine w_ret ?_
  refine xr_then ?_
  exact w_ret1 _ (.agg #[.int .u64 (l0 (-n)), .int .u64 (l1 (-n)), .int .u64 (l2 (-n)), .int .u64 (l3 (-n)), .int .u64 (l4 (-n))]) rfl ⟨k2, rfl, (run_row Q2 31 0 5 [.int .u64 (l0 (-n)), .int .u64 (l1 (-n)), .int .u64 (l2 (-n)), .int .u64 (l3 (-n)), .int .u64 (l4 (-n))] rfl Try.underlying31 rfl sz31)⟩ ⟨rfl, M⟩
theorem rwiden_f (n s : Int) (hn0 : 0 ≤ n) (hn : n < MM) : Calls Try.prog 22 #[dc false n s] w fun e w' => e = .returned (wv (n)) ∧ Mo w w' := by
  have h4 := l4_small hn0 hn
  have hv : (Value.agg #[.int .u64 (l0 n), .int .u64 (l1 n), .int .u64 (l2 n), .int .u64 (l3 n), .int .u64 0]) = wv n := by unfold wv; rw [h4]
  refine w_enter 22 Try.func22 Try.ntmps22 rfl rfl ?_
  have M : Mo w w := Mo.refl _
  refine w_seq ?_
  refine w_reg ?_
  refine wl_box 26 (.tmp 0) (.agg #[.bool false, .int .u64 (l0 (n)), .int .u64 (l1 (n)), .int .u64 (l2 (n)), .int .u64 (l3 (n)), .int .i64 (s)]) (#[.bool false, .int .u64 (l0 (n)), .int .u64 (l1 (n)), .int .u64 (l2 (n)), .int .u64 (l3 (n)), .int .i64 (s)]) rfl rfl (fun _ => by kernel_rfl) rfl ?_
  intro k1 w1 hk hz hq Q1
  have N_k1 : w.heap.size ≤ k1 := by have := M.size; omega
  replace M := M.trans hq
  clear hk hz hq
  refine wl_alloc 31 #[.int .u64 0, .int .u64 0, .int .u64 0, .int .u64 0, .int .u64 0] rfl (fun _ => by kernel_rfl) rfl ?_
  intro k2 w2 hk hz hq Q2
  have ne_k1_k2 : k1 ≠ k2 := by have := Q1.lt; omega
  have N_k2 : w.heap.size ≤ k2 := by have := M.size; omega
  replace Q1 := Q1.mo hq
  replace M := M.trans hq
  clear hk hz hq
  refine w_nil ?_
  refine xn_then ?_
  refine w_seq ?_
  refine w_reg ?_
  refine wl_un (fun v => Instr.fieldAt 26 v 1) (.tmp 1) (pt k1 0) (pt k1 1) (fun _ => rfl) rfl (by kernel_rfl) rfl ?_
  refine wl_bin (fun x y => Instr.indexAt 24 x y) (.tmp 4) (.const (.int .i64 (0))) (pt k1 1) (.int .i64 (0)) (pt k1 1) (fun _ => rfl) rfl rfl (by kernel_rfl) rfl ?_
  refine wl_load 22 (.tmp 5) (pt k1 1) (.int .u64 (l0 (n))) rfl rfl (run_one Q1 22 1 rfl Try.underlying22 rfl) rfl ?_
  refine wl_un (fun v => Instr.fieldAt 26 v 1) (.tmp 1) (pt k1 0) (pt k1 1) (fun _ => rfl) rfl (by kernel_rfl) rfl ?_
  refine wl_bin (fun x y => Instr.indexAt 24 x y) (.tmp 7) (.const (.int .i64 (1))) (pt k1 1) (.int .i64 (1)) (pt k1 2) (fun _ => rfl) rfl rfl (by kernel_rfl) rfl ?_
  refine wl_load 22 (.tmp 8) (pt k1 2) (.int .u64 (l1 (n))) rfl rfl (run_one Q1 22 2 rfl Try.underlying22 rfl) rfl ?_
  refine wl_un (fun v => Instr.fieldAt 26 v 1) (.tmp 1) (pt k1 0) (pt k1 1) (fun _ => rfl) rfl (by kernel_rfl) rfl ?_
  refine wl_bin (fun x y => Instr.indexAt 24 x y) (.tmp 10) (.const (.int .i64 (2))) (pt k1 1) (.int .i64 (2)) (pt k1 3) (fun _ => rfl) rfl rfl (by kernel_rfl) rfl ?_
  refine wl_load 22 (.tmp 11) (pt k1 3) (.int .u64 (l2 (n))) rfl rfl (run_one Q1 22 3 rfl Try.underlying22 rfl) rfl ?_
  refine wl_un (fun v => Instr.fieldAt 26 v 1) (.tmp 1) (pt k1 0) (pt k1 1) (fun _ => rfl) rfl (by kernel_rfl) rfl ?_
  refine wl_bin (fun x y => Instr.indexAt 24 x y) (.tmp 13) (.const (.int .i64 (3))) (pt k1 1) (.int .i64 (3)) (pt k1 4) (fun _ => rfl) rfl rfl (by kernel_rfl) rfl ?_
  refine wl_load 22 (.tmp 14) (pt k1 4) (.int .u64 (l3 (n))) rfl rfl (run_one Q1 22 4 rfl Try.underlying22 rfl) rfl ?_
  refine wl_build 31 [(0, (.tmp 6)), (1, (.tmp 9)), (2, (.tmp 12)), (3, (.tmp 15)), (4, (.const (.int .u64 (0))))] [(0, .int .u64 (l0 (n))), (1, .int .u64 (l1 (n))), (2, .int .u64 (l2 (n))), (3, .int .u64 (l3 (n))), (4, .int .u64 (0))] (.agg #[.int .u64 (l0 (n)), .int .u64 (l1 (n)), .int .u64 (l2 (n)), .int .u64 (l3 (n)), .int .u64 (0)]) rfl rfl (by kernel_rfl) rfl ?_
  refine wl_alloc 31 #[.int .u64 0, .int .u64 0, .int .u64 0, .int .u64 0, .int .u64 0] rfl (fun _ => by kernel_rfl) rfl ?_
  intro k3 w3 hk hz hq Q3
  have ne_k1_k3 : k1 ≠ k3 := by have := Q1.lt; omega
  have ne_k2_k3 : k2 ≠ k3 := by have := Q2.lt; omega
  have N_k3 : w.heap.size ≤ k3 := by have := M.size; omega
  replace Q1 := Q1.mo hq
  replace Q2 := Q2.mo hq
  replace M := M.trans hq
  clear hk hz hq
  refine wl_st 31 (.tmp 3) (.tmp 16) k3 0 #[.int .u64 (l0 (n)), .int .u64 (l1 (n)), .int .u64 (l2 (n)), .int .u64 (l3 (n)), .int .u64 (0)] [.int .u64 0, .int .u64 0, .int .u64 0, .int .u64 0, .int .u64 0] [.int .u64 (l0 (n)), .int .u64 (l1 (n)), .int .u64 (l2 (n)), .int .u64 (l3 (n)), .int .u64 (0)] Q3 rfl rfl rfl rfl rfl sz31 rfl rfl rfl ?_
  intro w4 hS Qn
  replace Q3 := Qn
  clear Qn
  replace Q1 := hS.other _ _ ne_k1_k3 Q1
  replace Q2 := hS.other _ _ ne_k2_k3 Q2
  replace M := hS.mo _ N_k3 M
  clear hS
  refine w_nil ?_
  refine xn_then ?_
  refine w_seq ?_
  refine w_seq ?_
  refine w_reg ?_
  refine wl_un (fun v => Instr.fieldAt 26 v 0) (.tmp 1) (pt k1 0) (pt k1 0) (fun _ => rfl) rfl (by kernel_rfl) rfl ?_
  refine wl_load 4 (.tmp 17) (pt k1 0) (.bool false) rfl rfl (run_one Q1 4 0 rfl Try.underlying4 rfl) rfl ?_
  refine w_nil ?_
  refine xn_then ?_
  refine w_condF rfl ?_
  refine w_skip ?_
  refine xn_then ?_
  refine w_seq ?_
  refine w_reg ?_
  refine wl_load 31 (.tmp 3) (pt k3 0) (.agg #[.int .u64 (l0 (n)), .int .u64 (l1 (n)), .int .u64 (l2 (n)), .int .u64 (l3 (n)), .int .u64 (0)]) rfl rfl (run_row Q3 31 0 5 [.int .u64 (l0 (n)), .int .u64 (l1 (n)), .int .u64 (l2 (n)), .int .u64 (l3 (n)), .int .u64 (0)] rfl Try.underlying31 rfl sz31) rfl ?_
  refine wl_st 31 (.tmp 2) (.tmp 21) k2 0 #[.int .u64 (l0 (n)), .int .u64 (l1 (n)), .int .u64 (l2 (n)), .int .u64 (l3 (n)), .int .u64 (0)] [.int .u64 0, .int .u64 0, .int .u64 0, .int .u64 0, .int .u64 0] [.int .u64 (l0 (n)), .int .u64 (l1 (n)), .int .u64 (l2 (n)), .int .u64 (l3 (n)), .int .u64 (0)] Q2 rfl rfl rfl rfl rfl sz31 rfl rfl rfl ?_
  intro w5 hS Qn
  replace Q2 := Qn
  clear Qn
  replace Q1 := hS.other _ _ ne_k1_k2 Q1
  replace Q3 := hS.other _ _ ne_k2_k3.symm Q3
  replace M := hS.mo _ N_k2 M
  clear hS
  refine w_nil ?_
  refine xn_then ?_
  refine w_ret ?_
  exact w_ret1 _ (.agg #[.int .u64 (l0 (n)), .int .u64 (l1 (n)), .int .u64 (l2 (n)), .int .u64 (l3 (n)), .int .u64 (0)]) rfl ⟨k2, rfl, (run_row Q2 31 0 5 [.int .u64 (l0 (n)), .int .u64 (l1 (n)), .int .u64 (l2 (n)), .int .u64 (l3 (n)), .int .u64 (0)] rfl Try.underlying31 rfl sz31)⟩ ⟨by rw [← hv], M⟩
end
end Go.Proofs.Ythpekbohmfmffaa
