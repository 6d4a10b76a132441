/-
  Numbers of twice as many bits as one row of cells: laid and read whole.
-/
import Derived.Test.YthpekbohmfmffaaDec4
import Derived.Deep.MidRow
namespace Go.Proofs.Ythpekbohmfmffaa
open Go.RowKit
/-- The cells of a number of twice as many bits. -/
def dwa (X : Int) : Array Value := #[.int .u64 (l0 (X / MM)), .int .u64 (l1 (X / MM)), .int .u64 (l2 (X / MM)), .int .u64 (l3 (X / MM)), .int .u64 (l0 X), .int .u64 (l1 X), .int .u64 (l2 X), .int .u64 (l3 X)]
abbrev dx (X : Int) : Value := .agg (dwa X)
theorem dwa_size (X : Int) : (dwa X).size = 8 := rfl
theorem dwa_len (X : Int) : (dwa X).toList.length = 8 := rfl
/-- The block k holds a number of twice as many bits. -/
def AtX (w : World) (k : Nat) (X : Int) : Prop := w.rangeAt k 0 (dwa X).toList ∧ w.there k 0 8 ∧ k < w.heap.size
theorem Mo.there {w w' : World} {k n : Nat} (m : Mo w w') (h : w.there k 0 n) (hk : k < w.heap.size) : w'.there k 0 n := fun j hj => by
  rw [m.cell k _ hk, m.2]; exact h j hj
theorem AtX.mo {w w' : World} {k : Nat} {X : Int} (h : AtX w k X) (m : Mo w w') : AtX w' k X :=
  ⟨fun j v hv => (m.cell k _ h.2.2).trans (h.1 j v hv), m.there h.2.1 h.2.2, Nat.lt_of_lt_of_le h.2.2 m.size⟩
theorem size_setCells (k : Nat) : ∀ (l : List Value) (o : Nat) (w : World), (w.setCells k o l).heap.size = w.heap.size
  | [], _, _ => rfl
  | v :: r, o, w => by rw [World.setCells, size_setCells k r]; simp [World.setCell]
theorem Mo.setCells {a : World} {k : Nat} (hk : a.heap.size ≤ k) : ∀ (l : List Value) (o : Nat) (b : World), Mo a b → Mo a (b.setCells k o l)
  | [], _, _, h => h
  | v :: r, o, b, h => by rw [World.setCells]; exact Mo.setCells hk r (o + 1) _ (h.setCell hk v)
theorem AtX.same {w : World} {k : Nat} (X : Int) (h : w.there k 0 8) (hk : k < w.heap.size) : AtX (w.setCells k 0 (dwa X).toList) k X :=
  ⟨World.rangeAt_setCells_same w k 0 _ (by rw [dwa_len]; exact h), World.there_setCells h k 0 _, by rw [size_setCells]; exact hk⟩
theorem AtX.other {w : World} {k j : Nat} {X : Int} (h : AtX w j X) (hk : j ≠ k) (l : List Value) : AtX (w.setCells k 0 l) j X :=
  ⟨World.rangeAt_setCells_apart h.1 k 0 l (Or.inl hk), World.there_setCells h.2.1 k 0 _, by rw [size_setCells]; exact h.2.2⟩
theorem AtD.other {w : World} {k j : Nat} {b : Bool} {n s : Int} (h : AtD w j b n s) (hk : j ≠ k) (l : List Value) : AtD (w.setCells k 0 l) j b n s := by
  obtain ⟨⟨a0, a1, a2, a3, a4, a5⟩, f, z⟩ := h
  have e : ∀ o, (w.setCells k 0 l).cell? ⟨j, o, none⟩ = w.cell? ⟨j, o, none⟩ := fun o => World.cell?_setCells_out k l 0 w _ (fun hb _ => absurd hb hk)
  exact ⟨by simp only [e]; exact ⟨a0, a1, a2, a3, a4, a5⟩, fun o => by rw [World.frozen?_setCells]; exact f o, by rw [size_setCells]; exact z⟩
theorem there_new (w : World) : (w.alloc (.cells #[.int .u64 0, .int .u64 0, .int .u64 0, .int .u64 0, .int .u64 0, .int .u64 0, .int .u64 0, .int .u64 0] 76)).there w.heap.size 0 8 := fun j hj => by
  have hq : j = 0 ∨ j = 1 ∨ j = 2 ∨ j = 3 ∨ j = 4 ∨ j = 5 ∨ j = 6 ∨ j = 7 := by omega
  rcases hq with rfl | rfl | rfl | rfl | rfl | rfl | rfl | rfl <;> simp [go_sem]
theorem st81 (w : World) (k : Nat) (X : Int) (h : w.there k 0 8) : (storeCells ⟨k, 0, none⟩ (dwa X).toList 0).run Try.prog w = .ok () (w.setCells k 0 (dwa X).toList) := by
  have hh := run_storeAt_mid (P := Try.prog) w k 0 76 (dwa X) (by rw [dwa_size]; exact h) (by rw [dwa_size]; kernel_rfl) (by
    rw [Array.all_eq_true_iff_forall_mem]; intro v hv; simp [dwa] at hv; rcases hv with rfl | rfl | rfl | rfl | rfl | rfl | rfl | rfl <;> rfl)
  have e : (Instr.storeAt 76 (.pointer (some ⟨k, 0, none⟩)) (.agg (dwa X))).run Try.prog w = (storeCells ⟨k, 0, none⟩ (dwa X).toList 0).run Try.prog w := by
    simp [Instr.storeAt, Instr.sureAddr, storeVar, Sem.run_bind, go_sem, Value.cells, dwa_size]
  rw [← e]; exact hh
theorem ld81 (w : World) (k : Nat) (X : Int) (h : w.rangeAt k 0 (dwa X).toList) : (loadCellsFrom ⟨k, 0, none⟩ 0 8 #[]).run Try.prog w = .ok (dwa X) w := by
  have := run_loadCells_list (P := Try.prog) w ⟨k, 0, none⟩ (dwa X).toList (fun j v hv => by rw [Addr.add_mid]; exact h j v hv)
  simpa [loadCells, dwa_len, dwa_size] using this
theorem lift_x (b : Bool) (n s S : Int) (k : Nat) (w : World) (hn0 : 0 ≤ n) (hn : n < MM) (hk : S - s = (k : Int)) (hk7 : k ≤ 77) :
    Calls Try.prog 51 #[dc b n s, .int .i64 S] w fun e w' => e = .returned (dx (n * 10 ^ k)) ∧ Mo w w' := lift_n b n s S k w hn0 hn hk hk7
theorem cmpDouble_x (X Y : Int) (w : World) (hX0 : 0 ≤ X) (hX : X < MM * MM) (hY0 : 0 ≤ Y) (hY : Y < MM * MM) :
    Calls Try.prog 50 #[dx X, dx Y] w fun e w' => e = .returned (.int .i64 (cm X Y)) ∧ Mo w w' := cmpDouble_n X Y w hX0 hX hY0 hY
theorem mulDouble_x (A B : Int) (w : World) (hA0 : 0 ≤ A) (hAM : A < MM) (hB0 : 0 ≤ B) (hBM : B < MM) :
    Calls Try.prog 59 #[nv A, nv B] w fun e w' => e = .returned (dx (A * B)) ∧ Mo w w' := mulDouble_n A B w hA0 hAM hB0 hBM
end Go.Proofs.Ythpekbohmfmffaa
