/-
  limb.Text, whatever the limbs: the walk. Decimal digits as plain lists.
-/
import Derived.Test.YthpekbohmfmffaaDivl
import Derived.Test.YthpekbohmfmffaaEq
import Derived.ScopeJumps
import Derived.WalkMore
namespace Go.Proofs.Ythpekbohmfmffaa
open Go.RowKit
/-- The decimal digits of a number, the greatest first, as bytes; at most so many. -/
def decF : Nat → Int → List Int
  | 0, _ => []
  | f + 1, n => if n / 10 = 0 then [48 + n % 10] else decF f (n / 10) ++ [48 + n % 10]
/-- A string of bytes. -/
def strOf (ns : List Int) : ByteArray := ns.foldl (fun r n => r.push (UInt8.ofNat n.toNat)) ByteArray.empty
def Z78 : Array Value := Array.replicate 78 (.int .u8 0)
/-- The block k holds acc behind p zeros. -/
def Dg (w : World) (k p : Nat) (acc : List Int) : Prop := ∀ j, j < 78 → w.cell? ⟨k, j, none⟩ = some (.int .u8 (if j < p then 0 else acc.getD (j - p) 0))
/-- The world between two digits. -/
def TW (w wx : World) (n : Int) (p : Nat) (acc : List Int) : Prop := Mo w wx ∧ w.heap.size + 1 < wx.heap.size ∧ At4 wx w.heap.size (l0 n) (l1 n) (l2 n) (l3 n) ∧ Fz wx w.heap.size ∧ Fz wx (w.heap.size + 1) ∧ Dg wx (w.heap.size + 1) p acc
theorem TW.mo {w wx w1 : World} {n : Int} {p : Nat} {acc : List Int} (h : TW w wx n p acc) (m : Mo wx w1) : TW w w1 n p acc := by
  obtain ⟨h1, h2, h3, h4, h5, h6⟩ := h
  have := m.size
  exact ⟨h1.trans m, by omega, h3.mo m (by omega), h4.mo m, h5.mo m, fun j hj => (m.cell _ _ h2).trans (h6 j hj)⟩
theorem TW.step {w w1 : World} {n q d : Int} {p : Nat} {acc : List Int} (h : TW w w1 n (p + 1) acc) (hp : p < 78) :
    TW w (((((w1.setCell ⟨w.heap.size, 0, none⟩ (.int .u64 (l0 q))).setCell ⟨w.heap.size, 1, none⟩ (.int .u64 (l1 q))).setCell ⟨w.heap.size, 2, none⟩ (.int .u64 (l2 q))).setCell ⟨w.heap.size, 3, none⟩ (.int .u64 (l3 q))).setCell ⟨w.heap.size + 1, p, none⟩ (.int .u8 d)) q p (d :: acc) := by
  obtain ⟨h1, h2, ⟨b0, b1, b2, b3⟩, h4, h5, h6⟩ := h
  refine ⟨?_, by simpa [World.setCell] using h2, ?_, ?_, ?_, ?_⟩
  · exact ((((h1.setCell (Nat.le_refl _) _).setCell (Nat.le_refl _) _).setCell (Nat.le_refl _) _).setCell (Nat.le_refl _) _).setCell (by show w.heap.size ≤ w.heap.size + 1; omega) _
  · simp [At4, go_sem, *]
  · intro o; simp [World.frozen?_setCell, h4 o]
  · intro o; simp [World.frozen?_setCell, h5 o]
  · intro j hj
    have e := h6 j hj
    by_cases hjp : j = p
    · subst hjp
      simp [go_sem, e]
    · have e2 : (((((w1.setCell ⟨w.heap.size, 0, none⟩ (.int .u64 (l0 q))).setCell ⟨w.heap.size, 1, none⟩ (.int .u64 (l1 q))).setCell ⟨w.heap.size, 2, none⟩ (.int .u64 (l2 q))).setCell ⟨w.heap.size, 3, none⟩ (.int .u64 (l3 q))).setCell ⟨w.heap.size + 1, p, none⟩ (.int .u8 d)).cell? ⟨w.heap.size + 1, j, none⟩ = w1.cell? ⟨w.heap.size + 1, j, none⟩ := by
        simp [go_sem, e]
      rw [e2, e]
      by_cases hlt : j < p
      · rw [if_pos (by omega), if_pos hlt]
      · rw [if_neg (by omega), if_neg hlt, show j - p = (j - (p + 1)) + 1 from by omega]
        simp
theorem zero4 {q : Int} (h0 : 0 ≤ q) (h : q < MM) : (l0 q == 0 && (l1 q == 0 && (l2 q == 0 && l3 q == 0))) = decide (q = 0) := by
  have e := vl_lb q h0 h
  rw [Bool.eq_iff_iff]
  simp
  constructor
  · rintro ⟨a, b, c, d⟩; rw [a, b, c, d] at e; rw [← e]; rfl
  · rintro rfl; decide
theorem conv (W : World) (k p l c : Nat) (acc : List Int) (h : Dg W k p acc) (hp : p + acc.length = 78) (hl : l = acc.length) :
    (convert 50 9 (.slice (some ⟨k, p, none⟩) l c)).run Try.prog W = .ok (.string (strOf acc)) W := by
  subst hl
  rw [run_convert_bytes_string W 50 9 5 _ _ _ Try.underlying50 Try.underlying5 Try.underlying9, run_bytesToString W _ _ _ acc]
  · rfl
  · rw [show acc.length = (acc.map (Value.int .u8)).length by simp]
    refine run_loadCells_list W _ _ ?_
    intro j v hv
    rw [List.getElem?_map, Option.map_eq_some_iff] at hv
    obtain ⟨x, hx, rfl⟩ := hv
    have hj : j < acc.length := by
      rcases Nat.lt_or_ge j acc.length with h' | h'
      · exact h'
      · rw [List.getElem?_eq_none h'] at hx; cases hx
    rw [Addr.add_mid]
    have := h (p + j) (by omega)
    rw [if_neg (by omega), show p + j - p = j from by omega, List.getD, hx] at this
    exact this
theorem text_end {n : Int} {p : Nat} (h : n / 10 = 0) : decF (p + 1) n = [48 + n % 10] := by rw [decF, if_pos h]
theorem text_on {n : Int} {p : Nat} (h : n / 10 ≠ 0) : decF (p + 1) n = decF p (n / 10) ++ [48 + n % 10] := by rw [decF, if_neg h]

end Go.Proofs.Ythpekbohmfmffaa
