/-
  The document's Div, whatever the numbers: the walk.
-/
import Derived.Test.YthpekbohmfmffaaRdm
import Derived.Test.YthpekbohmfmffaaBit
namespace Go.Proofs.Ythpekbohmfmffaa
open Go.RowKit
/-- The blocks of the call: what is divided, the divisor, the results; the rest and the quotient so far. -/
def QW (w wx : World) (k : Nat) (H L D R Q : Int) : Prop := Mo w wx ∧ AtN wx w.heap.size H ∧ AtN wx (w.heap.size + 1) L ∧ AtN wx (w.heap.size + 1 + 1) D ∧ AtN wx (w.heap.size + 1 + 1 + 1) 0 ∧ AtN wx (w.heap.size + 1 + 1 + 1 + 1) 0 ∧ AtN wx k R ∧ AtN wx (k + 1) Q ∧ w.heap.size + 1 + 1 + 1 + 1 < k
theorem QW.mo {w wx w1 : World} {k : Nat} {H L D R Q : Int} (v : QW w wx k H L D R Q) (m : Mo wx w1) : QW w w1 k H L D R Q := by
  obtain ⟨h1, h2, h3, h4, h5, h6, h7, h8, h9⟩ := v
  exact ⟨h1.trans m, h2.mo m, h3.mo m, h4.mo m, h5.mo m, h6.mo m, h7.mo m, h8.mo m, h9⟩
theorem QW.other {w wx : World} {k : Nat} {H L D R Q : Int} (v : QW w wx k H L D R Q) {j : Nat} (hj : k + 1 < j) (o : Nat) (x : Value) : QW w (wx.setCell ⟨j, o, none⟩ x) k H L D R Q := by
  obtain ⟨h1, h2, h3, h4, h5, h6, h7, h8, h9⟩ := v
  exact ⟨h1.setCell (by show w.heap.size ≤ j; omega) _, h2.set1 (by omega) _ _, h3.set1 (by omega) _ _, h4.set1 (by omega) _ _, h5.set1 (by omega) _ _, h6.set1 (by omega) _ _, h7.set1 (by omega) _ _, h8.set1 (by omega) _ _, h9⟩
theorem QW.rest {w wx : World} {k : Nat} {H L D R Q : Int} (v : QW w wx k H L D R Q) (z : Int) : QW w (st4 wx k z) k H L D z Q := by
  obtain ⟨h1, h2, h3, h4, h5, h6, h7, h8, h9⟩ := v
  exact ⟨h1.st4 (by omega) _, h2.other (by omega) _, h3.other (by omega) _, h4.other (by omega) _, h5.other (by omega) _, h6.other (by omega) _, h7.same _, h8.other (by omega) _, h9⟩
theorem QW.quo {w wx : World} {k : Nat} {H L D R Q : Int} (v : QW w wx k H L D R Q) {o : Nat} {x : Value} {Z : Int} (h : At4 (wx.setCell ⟨k + 1, o, none⟩ x) (k + 1) (l0 Z) (l1 Z) (l2 Z) (l3 Z)) : QW w (wx.setCell ⟨k + 1, o, none⟩ x) k H L D R Z := by
  obtain ⟨h1, h2, h3, h4, h5, h6, h7, ⟨_, f, s⟩, h9⟩ := v
  exact ⟨h1.setCell (by show w.heap.size ≤ k + 1; omega) _, h2.set1 (by omega) _ _, h3.set1 (by omega) _ _, h4.set1 (by omega) _ _, h5.set1 (by omega) _ _, h6.set1 (by omega) _ _, h7.set1 (by omega) _ _, ⟨h, fun o => by simp [World.frozen?_setCell, f o], by simpa [World.setCell] using s⟩, h9⟩
theorem even_or {x b : Int} (hx : 0 ≤ x) (hx2 : x < 18446744073709551616) (he : x % 2 = 0) (hb : b = 0 ∨ b = 1) : bits .or .u64 x b = x + b := by
  have := or_join (x / 2) b 1 (by omega) (by omega) (by simp; omega) (by simp; omega)
  simp at this
  rw [show x / 2 * 2 = x from by omega] at this
  exact this

end Go.Proofs.Ythpekbohmfmffaa
