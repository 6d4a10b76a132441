/-
  The world behind a call that only makes new blocks.
-/
import Derived.Test.YtepfokoepibkcaaGreatProg
import Derived.WalkKit
import Derived.WalkSpells
import Derived.Handy
import Derived.BigQuiet
import Derived.Deep.RegionHeld3
namespace Go.Proofs.YtepfokoepibkcaaGreat
open Go.RowKit

/-- The world behind a call that only makes new blocks. -/
def Mo (w w' : World) : Prop := Below w.heap.size w w' ∧ ∀ a, w'.frozen? a = w.frozen? a
theorem Mo.refl (w : World) : Mo w w := ⟨Below.refl _ _, fun _ => rfl⟩
theorem Mo.trans {a b c : World} (h : Mo a b) (k : Mo b c) : Mo a c :=
  ⟨h.1.trans (k.1.mono h.1.size), fun x => (k.2 x).trans (h.2 x)⟩
theorem Mo.drew {a b : World} (h : Mo a b) : Mo a b.drew := ⟨h.1.drew, h.2⟩
theorem Mo.alloc {a b : World} (h : Mo a b) (c : Array Value) (t : TypeId) : Mo a (b.alloc (.cells c t)) :=
  ⟨h.1.alloc h.1.size _, fun x => (frozen?_alloc_cells _ _ _ x).trans (h.2 x)⟩
theorem Mo.setCell {a b : World} (h : Mo a b) {p : Addr} (hp : a.heap.size ≤ p.block) (v : Value) : Mo a (b.setCell p v) :=
  ⟨h.1.setCell hp v, fun x => (World.frozen?_setCell _ _ _ _).trans (h.2 x)⟩
theorem Mo.size {a b : World} (h : Mo a b) : a.heap.size ≤ b.heap.size := h.1.size
theorem Mo.cell {a b : World} (h : Mo a b) : ∀ k o, k < a.heap.size → b.cell? ⟨k, o, none⟩ = a.cell? ⟨k, o, none⟩ := fun k o hk => h.1.cell (p := ⟨k, o, none⟩) hk

/-- No cell of the block k is frozen. -/
def Fz (w : World) (k : Nat) : Prop := ∀ o, w.frozen? ⟨k, o, none⟩ = false
theorem Fz.mo {w w' : World} {k : Nat} (h : Fz w k) (m : Mo w w') : Fz w' k := fun o => (m.2 _).trans (h o)
/-- The byte at a place; 0 behind the end. -/
def bt (s : ByteArray) (k : Nat) : Int := if h : k < s.size then (s[k].toNat : Int) else 0
theorem bt_in {s : ByteArray} {k : Nat} (h : k < s.size) : bt s k = (s[k].toNat : Int) := by unfold bt; rw [dif_pos h]
end Go.Proofs.YtepfokoepibkcaaGreat

