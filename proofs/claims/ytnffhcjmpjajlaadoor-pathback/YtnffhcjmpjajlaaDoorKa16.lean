/-
  A part of the proof.
-/
import Derived.Test.YtnffhcjmpjajlaaDoorKa15
import Derived.Test.YtnffhcjmpjajlaaDoorKa13
import Derived.Test.YtnffhcjmpjajlaaDoorKa11
import Derived.Test.YtnffhcjmpjajlaaDoorKa10
import Derived.Test.YtnffhcjmpjajlaaDoorKa6
import Derived.Test.YtnffhcjmpjajlaaDoorKa5
import Derived.Test.YtnffhcjmpjajlaaDoorKa4
import Derived.Test.YtnffhcjmpjajlaaDoorKa3
import Derived.Test.YtnffhcjmpjajlaaDoorKa2
import Derived.Test.YtnffhcjmpjajlaaDoorKa1
import Derived.RegionTactic
import Derived.Test.YtnffhcjmpjajlaaDoorProg
import Derived.WalkKit
import Derived.WalkSpells
import Derived.Handy
import Derived.BigQuiet
import Derived.Deep.RegionHeld3
import Derived.Deep.MidRow
import Derived.BigCall
import Derived.ChangeKeysEq
import Derived.Shelf.Small.Bits
import Derived.Shelf.Strconv.Itoa0
import Derived.Shelf.Bits.Mul64
import Derived.Deep.CutRange
import Derived.Deep.CutBlock
import Derived.ScopeJumps
import Derived.WalkMore
import Derived.Laws.StructEq
import Derived.Lib.CutLaws
import Derived.Maps.OwnSet
import Derived.WalkArith
import Derived.StringKeys
import Derived.ProofKit
import Derived.OpenShut
import Derived.ChangeArms
import Derived.Deep.Slices
import Derived.ReadAgain
import Derived.WideKeyArgs
import Derived.Maps.AppendAt
import Derived.Test.YtnffhcjmpjajlaaDoorKa9
import Derived.Test.YtnffhcjmpjajlaaDoorKa7
import Derived.Shelf.Strconv.Itoa4
import Derived.Test.YtnffhcjmpjajlaaDoorKa8
import Derived.Lib.IndexBytes
import Derived.Lib.AppendIntMem
import Derived.Lib.ItoaLen
import Derived.Laws.MakeOwn
import Derived.Test.YtnffhcjmpjajlaaDoorKa12
import Derived.Test.YtnffhcjmpjajlaaDoorKa14
namespace Go.Proofs.YtnffhcjmpjajlaaDoor
open Go.RowKit D
def wds : List ByteArray := [⟨#[114, 101, 116, 117, 114, 110]⟩, ⟨#[102, 105, 101, 108, 100]⟩, ⟨#[108, 105, 110, 101]⟩, ⟨#[99, 104, 101, 99, 107]⟩, ⟨#[115, 101, 99, 116, 105, 111, 110]⟩, ⟨#[116, 97, 98, 108, 101]⟩, ⟨#[112, 97, 103, 101]⟩, ⟨#[119, 104, 101, 110]⟩, ⟨#[109, 97, 120]⟩, ⟨#[102, 114, 111, 109]⟩, ⟨#[98, 97, 115, 101]⟩, ⟨#[114, 97, 116, 101]⟩, ⟨#[110, 101, 101, 100, 101, 100]⟩, ⟨#[97, 109, 111, 117, 110, 116]⟩, ⟨#[102, 108, 97, 103]⟩, ⟨#[116, 101, 120, 116]⟩, ⟨#[105, 102]⟩, ⟨#[114, 111, 117, 110, 100]⟩, ⟨#[98, 108, 97, 110, 107]⟩, ⟨#[114, 111, 119, 115]⟩, ⟨#[115, 117, 109]⟩, ⟨#[99, 111, 117, 110, 116]⟩, ⟨#[109, 105, 110]⟩, ⟨#[97, 110, 100]⟩, ⟨#[111, 114]⟩, ⟨#[110, 111, 116]⟩, ⟨#[116, 114, 117, 101]⟩, ⟨#[102, 97, 108, 115, 101]⟩, ⟨#[104, 97, 108, 102, 95, 117, 112]⟩, ⟨#[104, 97, 108, 102, 95, 101, 118, 101, 110]⟩, ⟨#[100, 111, 119, 110]⟩, ⟨#[117, 112]⟩, ⟨#[102, 108, 111, 111, 114]⟩]
def rsv (s : ByteArray) : Bool := wds.any (fun x => decide (s = x))
def may (s : ByteArray) : Bool := nam s && !rsv s
/-! A checker. -/
variable {w w' : World} {z : Zc} {A : Al}
end Go.Proofs.YtnffhcjmpjajlaaDoor

namespace Go.Proofs.YtnffhcjmpjajlaaDoor
open Go.RowKit D
/-! The definitions that live holds. -/
theorem SL.one {w : World} {k n : Nat} {α : Type} {cells : α → List Value} (hl : ∀ x, (cells x).length = n) {x : α} (h : At w k (cells x)) : SL w n cells (some ⟨k, 0, none⟩) [x] := SL.of_at hl (show 1 ≤ maxLen by decide) (by rw [List.flatMap_cons, List.flatMap_nil, List.append_nil]; exact h)
theorem SL.nil {w : World} {n : Nat} {α : Type} {cells : α → List Value} {pa : Option Addr} : SL w n cells pa ([] : List α) := ⟨Nat.zero_le _, fun i o h => by simp at h⟩
end Go.Proofs.YtnffhcjmpjajlaaDoor

