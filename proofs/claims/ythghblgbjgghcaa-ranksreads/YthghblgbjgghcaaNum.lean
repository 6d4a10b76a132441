/-
  The world behind a call that only makes new blocks.
-/
import Derived.Test.YthghblgbjgghcaaProg
import Derived.WalkKit
import Derived.WalkSpells
import Derived.Handy
import Derived.BigQuiet
import Derived.Deep.RegionHeld3
namespace Go.Proofs.Ythghblgbjgghcaa
open Go.RowKit

/-- The world behind a call that only makes new blocks. -/
def Mo (w w' : World) : Prop := Below w.heap.size w w' ∧ ∀ a : Addr, a.block < w.heap.size → w'.frozen? a = w.frozen? a
theorem Mo.refl (w : World) : Mo w w := ⟨Below.refl _ _, fun _ _ => rfl⟩
theorem Mo.trans {a b c : World} (h : Mo a b) (k : Mo b c) : Mo a c :=
  ⟨h.1.trans (k.1.mono h.1.size), fun x hx => (k.2 x (Nat.lt_of_lt_of_le hx h.1.size)).trans (h.2 x hx)⟩
theorem Mo.drew {a b : World} (h : Mo a b) : Mo a b.drew := ⟨h.1.drew, h.2⟩
theorem Mo.alloc {a b : World} (h : Mo a b) (c : Array Value) (t : TypeId) : Mo a (b.alloc (.cells c t)) :=
  ⟨h.1.alloc h.1.size _, fun x hx => (frozen?_alloc_cells _ _ _ x).trans (h.2 x hx)⟩
theorem Mo.setCell {a b : World} (h : Mo a b) {p : Addr} (hp : a.heap.size ≤ p.block) (v : Value) : Mo a (b.setCell p v) :=
  ⟨h.1.setCell hp v, fun x hx => (World.frozen?_setCell _ _ _ _).trans (h.2 x hx)⟩
theorem Mo.size {a b : World} (h : Mo a b) : a.heap.size ≤ b.heap.size := h.1.size
theorem Mo.cell {a b : World} (h : Mo a b) : ∀ k o, k < a.heap.size → b.cell? ⟨k, o, none⟩ = a.cell? ⟨k, o, none⟩ := fun k o hk => h.1.cell (p := ⟨k, o, none⟩) hk

/-- No cell of the block k is frozen. -/
def Fz (w : World) (k : Nat) : Prop := ∀ o, w.frozen? ⟨k, o, none⟩ = false
theorem Fz.mo {w w' : World} {k : Nat} (h : Fz w k) (m : Mo w w') (hk : k < w.heap.size) : Fz w' k := fun o => (m.2 _ hk).trans (h o)
end Go.Proofs.Ythghblgbjgghcaa
