/-
  A part of the proof.
-/
import Derived.Shelf.Strings.Builder1
import Derived.Shelf.Strings.Builder2
import Derived.Shelf.Strings.OnBuilder
import Derived.Shelf.Strings.Trim
import Derived.Shelf.Small.Strs
import Derived.Shelf.Small.Wraps
import Derived.Shelf.Strings.BuilderF
import Derived.Shelf.Strings.BuilderK
import Derived.Shelf.Strings.Search1
import Derived.Shelf.Strings.Search2
import Derived.Shelf.Strings.Prefix
import Derived.Test.YthgknegocfhdbaaDoorProg
import Derived.Test.YthgknegocfhdbaaDoorC1
import Derived.Shelf.Strings.Repeat
import Derived.Lib.CutLaws
import Derived.Lib.IndexBytes
import Derived.Deep.MidRow
import Derived.BigCall
import Derived.Deep.CutBlock
import Derived.Deep.CutRange
namespace Go.Proofs
open Go.Shelf
def Tryd.lays169_ren : Go.Shelf.Ren := ⟨fun | 169 => 41 | n => n, fun | 70 => 61 | 9 => 9 | 0 => 0 | 72 => 64 | 37 => 62 | 127 => 79 | 3 => 3 | 5 => 5 | n => n, fun | n => n⟩
theorem Tryd.lays169 : Go.Proofs.Lays.n169 Tryd.prog Tryd.lays169_ren := {
  mixed := by kernel_rfl
  f169 := Tryd.func41.trans (congrArg some (by kernel_rfl))
  t0 := Tryd.underlying0
  a0 := Tryd.isAgg0
  z0 := Tryd.sizeOf0
  v0 := Tryd.zeroValue0
  t3 := Tryd.underlying3
  a3 := Tryd.isAgg3
  z3 := Tryd.sizeOf3
  v3 := Tryd.zeroValue3
  t9 := Tryd.underlying9
  a9 := Tryd.isAgg9
  z9 := Tryd.sizeOf9
  v9 := Tryd.zeroValue9
  t37 := Tryd.underlying62
  a37 := Tryd.isAgg62
  z37 := Tryd.sizeOf62
  v37 := Tryd.zeroValue62
  t70 := Tryd.underlying61
  a70 := Tryd.isAgg61
  z70 := Tryd.sizeOf61
  v70 := Tryd.zeroValue61
  t72 := Tryd.underlying64
  a72 := Tryd.isAgg64
  z72 := Tryd.sizeOf64
  v72 := Tryd.zeroValue64
  t127 := Tryd.underlying79
  a127 := Tryd.isAgg79
  z127 := Tryd.sizeOf79
  v127 := Tryd.zeroValue79 }
theorem Tryd.Builder_Extra_169 : Builder.Extra Tryd.prog Tryd.lays169_ren := {
  sizeBuilder := by kernel_rfl
  liesBuilder := by kernel_rfl
  t5 := Tryd.underlying5
  a5 := Tryd.isAgg5
  z5 := Tryd.sizeOf5
  v5 := Tryd.zeroValue5
  infoByte := by kernel_rfl
  cellsByte := by kernel_rfl
  sizeByte := by kernel_rfl
  neB5 := by decide }
open Go.RowKit in theorem Tryd.Builder_String_any (B b : Nat) (l : List UInt8) (w : World) (h : Lib.IsBuilder 64 5 B b (Lib.byteCells l) w) (hBw : B ≤ w.heap.size) :
    Calls Tryd.prog 41 #[.pointer (some ⟨b, 0, none⟩)] w fun e w' => e = .returned (.string ⟨l.toArray⟩) ∧ Below B w w' := Any.Builder_String_any Tryd.lays169 Tryd.Builder_Extra_169 B b l w h hBw
def Tryd.lays156_ren : Go.Shelf.Ren := ⟨fun | 156 => 45 | 165 => 55 | 166 => 44 | 169 => 41 | 240 => 54 | 241 => 68 | 276 => 67 | 277 => 75 | n => n, fun | 31 => 60 | 9 => 9 | 3 => 3 | 4 => 4 | 0 => 0 | 20 => 20 | 72 => 64 | 76 => 72 | 70 => 61 | 37 => 62 | 75 => 68 | 127 => 79 | 164 => 89 | 5 => 5 | 80 => 70 | n => n, fun | n => n⟩
theorem Tryd.lays156 : Go.Proofs.Lays.n156 Tryd.prog Tryd.lays156_ren := {
  mixed := by kernel_rfl
  f156 := Tryd.func45.trans (congrArg some (by kernel_rfl))
  f165 := Tryd.func55.trans (congrArg some (by kernel_rfl))
  f166 := Tryd.func44.trans (congrArg some (by kernel_rfl))
  f169 := Tryd.func41.trans (congrArg some (by kernel_rfl))
  f240 := Tryd.func54.trans (congrArg some (by kernel_rfl))
  f241 := Tryd.func68.trans (congrArg some (by kernel_rfl))
  f276 := Tryd.func67.trans (congrArg some (by kernel_rfl))
  f277 := Tryd.func75.trans (congrArg some (by kernel_rfl))
  t0 := Tryd.underlying0
  a0 := Tryd.isAgg0
  z0 := Tryd.sizeOf0
  v0 := Tryd.zeroValue0
  t3 := Tryd.underlying3
  a3 := Tryd.isAgg3
  z3 := Tryd.sizeOf3
  v3 := Tryd.zeroValue3
  t4 := Tryd.underlying4
  a4 := Tryd.isAgg4
  z4 := Tryd.sizeOf4
  v4 := Tryd.zeroValue4
  t9 := Tryd.underlying9
  a9 := Tryd.isAgg9
  z9 := Tryd.sizeOf9
  v9 := Tryd.zeroValue9
  t20 := Tryd.underlying20
  a20 := Tryd.isAgg20
  z20 := Tryd.sizeOf20
  v20 := Tryd.zeroValue20
  t31 := Tryd.underlying60
  a31 := Tryd.isAgg60
  z31 := Tryd.sizeOf60
  v31 := Tryd.zeroValue60
  t37 := Tryd.underlying62
  a37 := Tryd.isAgg62
  z37 := Tryd.sizeOf62
  v37 := Tryd.zeroValue62
  t70 := Tryd.underlying61
  a70 := Tryd.isAgg61
  z70 := Tryd.sizeOf61
  v70 := Tryd.zeroValue61
  t72 := Tryd.underlying64
  a72 := Tryd.isAgg64
  z72 := Tryd.sizeOf64
  v72 := Tryd.zeroValue64
  t75 := Tryd.underlying68
  a75 := Tryd.isAgg68
  z75 := Tryd.sizeOf68
  v75 := Tryd.zeroValue68
  t76 := Tryd.underlying72
  a76 := Tryd.isAgg72
  z76 := Tryd.sizeOf72
  v76 := Tryd.zeroValue72
  t127 := Tryd.underlying79
  a127 := Tryd.isAgg79
  z127 := Tryd.sizeOf79
  v127 := Tryd.zeroValue79
  t164 := Tryd.underlying89
  a164 := Tryd.isAgg89
  z164 := Tryd.sizeOf89
  v164 := Tryd.zeroValue89 }
theorem Tryd.Builder_Extra_156 : Builder.Extra Tryd.prog Tryd.lays156_ren := {
  sizeBuilder := by kernel_rfl
  liesBuilder := by kernel_rfl
  t5 := Tryd.underlying5
  a5 := Tryd.isAgg5
  z5 := Tryd.sizeOf5
  v5 := Tryd.zeroValue5
  infoByte := by kernel_rfl
  cellsByte := by kernel_rfl
  sizeByte := by kernel_rfl
  neB5 := by decide }
open Go.RowKit in theorem Tryd.strings_Join_none (a : Option Addr) (c : Nat) (sep : ByteArray) (w : World) :
    Calls Tryd.prog 45 #[.slice a 0 c, .string sep] w fun e w' => e = .returned (.string ⟨#[]⟩) ∧ w' = w := Any.strings_Join_none Tryd.lays156 Tryd.Builder_Extra_156 a c sep w
open Go.RowKit in theorem Tryd.strings_Join (bk o c : Nat) (xs : List ByteArray) (sep : ByteArray) (w : World) (hcells : ∀ (j : Nat) x, xs[j]? = some x → w.cell? ⟨bk, o + j, none⟩ = some (.string x)) (hbk : bk < w.heap.size) (hN : xs.length ≤ 140737488355328) (hcap : xs.length ≤ c) (hlen : (Lib.join (xs.map (·.data.toList)) sep.data.toList).length ≤ 140737488355328) :
    Calls Tryd.prog 45 #[.slice (some ⟨bk, o, none⟩) xs.length c, .string sep] w fun e w' => e = .returned (.string ⟨(Lib.join (xs.map (·.data.toList)) sep.data.toList).toArray⟩) ∧ Below w.heap.size w w' := Any.strings_Join Tryd.lays156 Tryd.Builder_Extra_156 bk o c xs sep w hcells hbk hN hcap hlen
def Tryd.lays161_ren : Go.Shelf.Ren := ⟨fun | 161 => 73 | 231 => 80 | 227 => 81 | 233 => 82 | 235 => 83 | 228 => 90 | 197 => 91 | 151 => 92 | 260 => 94 | 152 => 95 | 137 => 36 | 119 => 96 | 224 => 85 | 225 => 84 | 217 => 52 | 266 => 66 | n => n, fun | 9 => 9 | 4 => 4 | 3 => 3 | 5 => 5 | 117 => 102 | 116 => 101 | 0 => 0 | 124 => 105 | 105 => 111 | 21 => 21 | 119 => 118 | 46 => 74 | 139 => 121 | 138 => 120 | n => n, fun | 3 => 1 | 4 => 2 | n => n⟩
theorem Tryd.lays161 : Go.Proofs.Lays.n161 Tryd.prog Tryd.lays161_ren := {
  mixed := by kernel_rfl
  f119 := Tryd.func96.trans (congrArg some (by kernel_rfl))
  f137 := Tryd.func36.trans (congrArg some (by kernel_rfl))
  f151 := Tryd.func92.trans (congrArg some (by kernel_rfl))
  f152 := Tryd.func95.trans (congrArg some (by kernel_rfl))
  f161 := Tryd.func73.trans (congrArg some (by kernel_rfl))
  f197 := Tryd.func91.trans (congrArg some (by kernel_rfl))
  f217 := Tryd.func52.trans (congrArg some (by kernel_rfl))
  f224 := Tryd.func85.trans (congrArg some (by kernel_rfl))
  f225 := Tryd.func84.trans (congrArg some (by kernel_rfl))
  f227 := Tryd.func81.trans (congrArg some (by kernel_rfl))
  f228 := Tryd.func90.trans (congrArg some (by kernel_rfl))
  f231 := Tryd.func80.trans (congrArg some (by kernel_rfl))
  f233 := Tryd.func82.trans (congrArg some (by kernel_rfl))
  f235 := Tryd.func83.trans (congrArg some (by kernel_rfl))
  f260 := Tryd.func94.trans (congrArg some (by kernel_rfl))
  f266 := Tryd.func66.trans (congrArg some (by kernel_rfl))
  t0 := Tryd.underlying0
  a0 := Tryd.isAgg0
  z0 := Tryd.sizeOf0
  v0 := Tryd.zeroValue0
  t3 := Tryd.underlying3
  a3 := Tryd.isAgg3
  z3 := Tryd.sizeOf3
  v3 := Tryd.zeroValue3
  t4 := Tryd.underlying4
  a4 := Tryd.isAgg4
  z4 := Tryd.sizeOf4
  v4 := Tryd.zeroValue4
  t5 := Tryd.underlying5
  a5 := Tryd.isAgg5
  z5 := Tryd.sizeOf5
  v5 := Tryd.zeroValue5
  t9 := Tryd.underlying9
  a9 := Tryd.isAgg9
  z9 := Tryd.sizeOf9
  v9 := Tryd.zeroValue9
  t21 := Tryd.underlying21
  a21 := Tryd.isAgg21
  z21 := Tryd.sizeOf21
  v21 := Tryd.zeroValue21
  t46 := Tryd.underlying74
  a46 := Tryd.isAgg74
  z46 := Tryd.sizeOf74
  v46 := Tryd.zeroValue74
  t105 := Tryd.underlying111
  a105 := Tryd.isAgg111
  z105 := Tryd.sizeOf111
  v105 := Tryd.zeroValue111
  t116 := Tryd.underlying101
  a116 := Tryd.isAgg101
  z116 := Tryd.sizeOf101
  t117 := Tryd.underlying102
  a117 := Tryd.isAgg102
  z117 := Tryd.sizeOf102
  v117 := Tryd.zeroValue102
  t119 := Tryd.underlying118
  a119 := Tryd.isAgg118
  z119 := Tryd.sizeOf118
  t124 := Tryd.underlying105
  a124 := Tryd.isAgg105
  z124 := Tryd.sizeOf105
  v124 := Tryd.zeroValue105
  t138 := Tryd.underlying120
  a138 := Tryd.isAgg120
  z138 := Tryd.sizeOf120
  v138 := Tryd.zeroValue120
  t139 := Tryd.underlying121
  a139 := Tryd.isAgg121
  z139 := Tryd.sizeOf121
  v139 := Tryd.zeroValue121
  g3 := by kernel_rfl
  g4 := by kernel_rfl }
open Go.RowKit in theorem Tryd.strings_TrimLeft_one (s : ByteArray) (c : UInt8) (hc : c.toNat < 128) (w : World) :
    Calls Tryd.prog 73 #[.string s, .string ⟨#[c]⟩] w fun e w' => e = .returned (.string ⟨(Lib.trimLeftB s.data.toList c).toArray⟩) ∧ w' = w := Any.strings_TrimLeft_one Tryd.lays161 s c hc w
def Tryd.lays137_ren : Go.Shelf.Ren := ⟨fun | 137 => 36 | 217 => 52 | 266 => 66 | n => n, fun | 9 => 9 | 5 => 5 | 3 => 3 | n => n, fun | n => n⟩
theorem Tryd.lays137 : Go.Proofs.Lays.n137 Tryd.prog Tryd.lays137_ren := {
  mixed := by kernel_rfl
  f137 := Tryd.func36.trans (congrArg some (by kernel_rfl))
  f217 := Tryd.func52.trans (congrArg some (by kernel_rfl))
  f266 := Tryd.func66.trans (congrArg some (by kernel_rfl))
  t3 := Tryd.underlying3
  a3 := Tryd.isAgg3
  z3 := Tryd.sizeOf3
  v3 := Tryd.zeroValue3
  t5 := Tryd.underlying5
  a5 := Tryd.isAgg5
  z5 := Tryd.sizeOf5
  v5 := Tryd.zeroValue5
  t9 := Tryd.underlying9
  a9 := Tryd.isAgg9
  z9 := Tryd.sizeOf9
  v9 := Tryd.zeroValue9 }
open Go.RowKit in theorem Tryd.strings_IndexByte (s : ByteArray) (c : Int) (w : World) :
    Calls Tryd.prog 36 #[.string s, .int .u8 c] w fun e w' => e = .returned (.int .i64 (Lib.indexByte s.data.toList c.toNat.toUInt8)) ∧ w' = w := Any.strings_IndexByte Tryd.lays137 s c w
def Tryd.lays103_ren : Go.Shelf.Ren := ⟨fun | 103 => 59 | 210 => 69 | 206 => 46 | n => n, fun | 9 => 9 | 4 => 4 | 24 => 42 | 3 => 3 | n => n, fun | n => n⟩
theorem Tryd.lays103 : Go.Proofs.Lays.n103 Tryd.prog Tryd.lays103_ren := {
  mixed := by kernel_rfl
  f103 := Tryd.func59.trans (congrArg some (by kernel_rfl))
  f206 := Tryd.func46.trans (congrArg some (by kernel_rfl))
  f210 := Tryd.func69.trans (congrArg some (by kernel_rfl))
  t3 := Tryd.underlying3
  a3 := Tryd.isAgg3
  z3 := Tryd.sizeOf3
  v3 := Tryd.zeroValue3
  t4 := Tryd.underlying4
  a4 := Tryd.isAgg4
  z4 := Tryd.sizeOf4
  v4 := Tryd.zeroValue4
  t9 := Tryd.underlying9
  a9 := Tryd.isAgg9
  z9 := Tryd.sizeOf9
  v9 := Tryd.zeroValue9
  t24 := Tryd.underlying42
  a24 := Tryd.isAgg42
  z24 := Tryd.sizeOf42
  v24 := Tryd.zeroValue42 }
open Go.RowKit in theorem Tryd.strings_CutPrefix (s p : ByteArray) (w : World) :
    Calls Tryd.prog 59 #[.string s, .string p] w fun e w' => e = .returned (.tuple #[.string ⟨(Lib.trimPrefix s.data.toList p.data.toList).toArray⟩, .bool (Lib.hasPrefix s.data.toList p.data.toList)]) ∧ w' = w := Any.strings_CutPrefix Tryd.lays103 s p w
def Tryd.lays219_ren : Go.Shelf.Ren := ⟨fun | 219 => 76 | 217 => 52 | 225 => 84 | 224 => 85 | 267 => 86 | 266 => 66 | 314 => 93 | n => n, fun | 9 => 9 | 3 => 3 | 4 => 4 | 5 => 5 | 46 => 74 | 146 => 115 | 51 => 114 | n => n, fun | 1 => 0 | n => n⟩
theorem Tryd.lays219 : Go.Proofs.Lays.n219 Tryd.prog Tryd.lays219_ren := {
  mixed := by kernel_rfl
  f217 := Tryd.func52.trans (congrArg some (by kernel_rfl))
  f219 := Tryd.func76.trans (congrArg some (by kernel_rfl))
  f224 := Tryd.func85.trans (congrArg some (by kernel_rfl))
  f225 := Tryd.func84.trans (congrArg some (by kernel_rfl))
  f266 := Tryd.func66.trans (congrArg some (by kernel_rfl))
  f267 := Tryd.func86.trans (congrArg some (by kernel_rfl))
  f314 := Tryd.func93.trans (congrArg some (by kernel_rfl))
  t3 := Tryd.underlying3
  a3 := Tryd.isAgg3
  z3 := Tryd.sizeOf3
  v3 := Tryd.zeroValue3
  t4 := Tryd.underlying4
  a4 := Tryd.isAgg4
  z4 := Tryd.sizeOf4
  v4 := Tryd.zeroValue4
  t5 := Tryd.underlying5
  a5 := Tryd.isAgg5
  z5 := Tryd.sizeOf5
  v5 := Tryd.zeroValue5
  t9 := Tryd.underlying9
  a9 := Tryd.isAgg9
  z9 := Tryd.sizeOf9
  v9 := Tryd.zeroValue9
  t46 := Tryd.underlying74
  a46 := Tryd.isAgg74
  z46 := Tryd.sizeOf74
  v46 := Tryd.zeroValue74
  t51 := Tryd.underlying114
  a51 := Tryd.isAgg114
  z51 := Tryd.sizeOf114
  v51 := Tryd.zeroValue114
  t146 := Tryd.underlying115
  a146 := Tryd.isAgg115
  z146 := Tryd.sizeOf115
  v146 := Tryd.zeroValue115
  g1 := by kernel_rfl }
open Go.RowKit Go.Lib in theorem Tryd.stringslite_Index_one (s : ByteArray) (c : UInt8) (w : World) :
    Calls Tryd.prog 76 #[.string s, .string ⟨#[c]⟩] w fun e w' => e = .returned (.int .i64 (Lib.indexByte s.data.toList c)) ∧ w' = w := Any.stringslite_Index_one Tryd.lays219 s c w
def Tryd.lays99_ren : Go.Shelf.Ren := ⟨fun | 99 => 26 | 206 => 46 | n => n, fun | 9 => 9 | 4 => 4 | 3 => 3 | n => n, fun | n => n⟩
theorem Tryd.lays99 : Go.Proofs.Lays.n99 Tryd.prog Tryd.lays99_ren := {
  mixed := by kernel_rfl
  f99 := Tryd.func26.trans (congrArg some (by kernel_rfl))
  f206 := Tryd.func46.trans (congrArg some (by kernel_rfl))
  t3 := Tryd.underlying3
  a3 := Tryd.isAgg3
  z3 := Tryd.sizeOf3
  v3 := Tryd.zeroValue3
  t4 := Tryd.underlying4
  a4 := Tryd.isAgg4
  z4 := Tryd.sizeOf4
  v4 := Tryd.zeroValue4
  t9 := Tryd.underlying9
  a9 := Tryd.isAgg9
  z9 := Tryd.sizeOf9
  v9 := Tryd.zeroValue9 }
open Go.RowKit Go.Lib in theorem Tryd.strings_HasPrefix (s p : ByteArray) (w : World) :
    Calls Tryd.prog 26 #[.string s, .string p] w fun e w' => e = .returned (.bool (Lib.hasPrefix s.data.toList p.data.toList)) ∧ w' = w := Any.strings_HasPrefix Tryd.lays99 s p w
end Go.Proofs
/-
 strings.Cut at one byte, isDecimal, withoutZeros.
-/
namespace Go.Proofs.YthgknegocfhdbaaDoor
open Go.RowKit Go.Lib
abbrev by8 (s : ByteArray) : List UInt8 := s.data.toList
abbrev tx (l : List UInt8) : Value := .string ⟨l.toArray⟩
set_option maxHeartbeats 1000000 in
theorem cut51 (s : ByteArray) (c : UInt8) (w : World) (hs : s.size ≤ maxLen) : Calls Tryd.prog 70 #[.string s, .string ⟨#[c]⟩] w fun e w' =>
  e = .returned (.tuple #[tx (Lib.cut (by8 s) [c]).1, tx (Lib.cut (by8 s) [c]).2.1, .bool (Lib.cut (by8 s) [c]).2.2]) ∧ Mo w w' := by
 have hone : Lib.index s.data.toList [c] = Lib.indexByte s.data.toList c := Lib.index_one _ _
 rcases Lib.indexB_cases s ⟨#[c]⟩ with hix | ⟨i, hix, hroom⟩
 ·obtain ⟨e1, e2, e3⟩ := Lib.cutB_miss s ⟨#[c]⟩ hix
  have e1' : (⟨(Lib.cut (by8 s) [c]).1.toArray⟩ : ByteArray) = s := e1
  have e2' : (⟨(Lib.cut (by8 s) [c]).2.1.toArray⟩ : ByteArray) = ⟨#[]⟩ := e2
  have e3' : (Lib.cut (by8 s) [c]).2.2 = false := e3
  unfold tx; rw [e1', e2', e3']
  have hix' : Lib.indexByte s.data.toList c = -1 := by rw [← hone]; exact hix
  go_enter Tryd.func70, Tryd.ntmps70
  go_wp2_with (go_at_call 76; refine (Tryd.stringslite_Index_one _ _ _).mono ?_; rintro e w' ⟨rfl, rfl⟩; rw [hix'])
  go_ret3
  exact ⟨rfl, Mo.refl _⟩
 ·obtain ⟨e1, e2, e3⟩ := Lib.cutB_hit s ⟨#[c]⟩ i hix
  have e3' : (Lib.cut (by8 s) [c]).2.2 = true := e3
  unfold tx; rw [show (⟨(Lib.cut (by8 s) [c]).1.toArray⟩ : ByteArray) = _ from e1, show (⟨(Lib.cut (by8 s) [c]).2.1.toArray⟩ : ByteArray) = _ from e2, e3']
  have hix' : Lib.indexByte s.data.toList c = (i : Int) := by rw [← hone]; exact hix
  have hsz : (⟨#[c]⟩ : ByteArray).size = 1 := rfl
  rw [hsz] at hroom
  have c1 : (0 : Int) ≤ ↑i := by omega
  have c2 : (↑i : Int) ≤ ↑s.size := by omega
  unfold maxLen at hs
  have hw : IntKind.i64.wrap ((i : Int) + 1) = (i : Int) + 1 := by rw [IntKind.wrap_i64]; omega
  have hw2 : wrap64 ((i : Int) + 1) = (i : Int) + 1 := by unfold wrap64; omega
  have c3 : (0 : Int) ≤ ↑i + 1 := by omega
  have c4 : (↑i + 1 : Int) ≤ ↑s.size := by omega
  go_enter Tryd.func70, Tryd.ntmps70
  go_wp2_with (go_at_call 76; refine (Tryd.stringslite_Index_one _ _ _).mono ?_; rintro e w' ⟨rfl, rfl⟩; rw [hix'])
  go_region
  go_wp2
  go_ret3
  exact ⟨rfl, (Mo.refl _).drew⟩
end Go.Proofs.YthgknegocfhdbaaDoor

/-
 A walk step by step: each operation by its own law, the world behind it a letter, a block's cells one row.
-/
namespace Go.Proofs.YthgknegocfhdbaaDoor.V
open Go.RowKit
def Mw (w w' : World) : Prop := Below w.heap.size w w'
theorem Mw.refl (w : World) : Mw w w := Below.refl _ _
theorem Mw.trans {a b c : World} (h : Mw a b) (k : Mw b c) : Mw a c := Below.trans h (Below.mono k (Below.size h))
theorem Mw.drew {a b : World} (h : Mw a b) : Mw a b.drew := Below.drew h
theorem Mw.alloc {a b : World} (h : Mw a b) (c : Array Value) (t : TypeId) : Mw a (b.alloc (.cells c t)) := Below.alloc h (Below.size h) _
theorem Mw.setCell {a b : World} (h : Mw a b) {p : Addr} (hp : a.heap.size ≤ p.block) (v : Value) : Mw a (b.setCell p v) := Below.setCell h hp v
theorem Mw.size {a b : World} (h : Mw a b) : a.heap.size ≤ b.heap.size := Below.size h
theorem Mw.cell {a b : World} (h : Mw a b) : ∀ k o, k < a.heap.size → b.cell? ⟨k, o, none⟩ = a.cell? ⟨k, o, none⟩ := fun k o hk => Below.cell h (p := ⟨k, o, none⟩) hk
theorem fzMw {w w' : World} {k : Nat} (h : Fz w k) (m : Mw w w') (hk : k < w.heap.size) : Fz w' k := fun o => (Below.frozen m (p := ⟨k, o, none⟩) hk).trans (h o)
theorem wk {P : Program} {g : Nat} {args : Array Value} {w : World} {v : Value} (h : Calls P g args w fun e w' => e = .returned v ∧ Mo w w') : Calls P g args w fun e w' => e = .returned v ∧ Mw w w' := h.mono fun _ _ ⟨a, b⟩ => ⟨a, b.1⟩
abbrev pt (k o : Nat) : Value := .pointer (some ⟨k, o, none⟩)
def At (w : World) (k : Nat) (vs : List Value) : Prop := w.rangeAt k 0 vs ∧ Fz w k ∧ k < w.heap.size
theorem At.lt {w : World} {k : Nat} {vs : List Value} (h : At w k vs) : k < w.heap.size := h.2.2
theorem At.mo {w w' : World} {k : Nat} {vs : List Value} (h : At w k vs) (m : Mw w w') : At w' k vs :=
 ⟨fun j v hv => (m.cell k _ h.2.2).trans (h.1 j v hv), fzMw h.2.1 m h.2.2, Nat.lt_of_lt_of_le h.2.2 m.size⟩
theorem At.cell {w : World} {k : Nat} {vs : List Value} (h : At w k vs) {j : Nat} {v : Value} (hv : vs[j]? = some v) : w.cell? ⟨k, j, none⟩ = some v := by
 have := h.1 j v hv; simpa using this
theorem At.there {w : World} {k : Nat} {vs : List Value} (h : At w k vs) (o n : Nat) (hn : o + n ≤ vs.length) : w.there k o n := fun j hj => by
 refine ⟨?_, h.2.1 _⟩
 rw [h.cell (j := o + j) (v := vs[o + j]'(by omega)) (List.getElem?_eq_getElem (by omega))]; rfl
theorem At.new (w : World) (cs : Array Value) (t : TypeId) : At (w.alloc (.cells cs t)) w.heap.size cs.toList := by
 refine ⟨fun j v hv => ?_, fun o => ?_, by simp⟩
 ·simp at hv; simp [go_sem, hv]
 ·simp [go_sem]
theorem sz_setCells (k : Nat) : ∀ (l : List Value) (o : Nat) (w : World), (w.setCells k o l).heap.size = w.heap.size
 | [], _, _ => rfl
 | v :: r, o, w => by rw [World.setCells, sz_setCells k r]; simp [World.setCell]
theorem Mw.setCs {a : World} {k : Nat} (hk : a.heap.size ≤ k) : ∀ (l : List Value) (o : Nat) (b : World), Mw a b → Mw a (b.setCells k o l)
 | [], _, _, h => h
 | v :: r, o, b, h => by rw [World.setCells]; exact Mw.setCs hk r (o + 1) _ (h.setCell hk v)
structure St (k : Nat) (w w' : World) : Prop where
 size : w'.heap.size = w.heap.size
 other : ∀ j vs, j ≠ k → At w j vs → At w' j vs
 mo : ∀ a : World, a.heap.size ≤ k → Mw a w → Mw a w'
theorem St.mk' (w : World) (k o : Nat) (l : List Value) : St k w (w.setCells k o l) where
 size := sz_setCells k l o w
 other := fun j vs hj h => ⟨World.rangeAt_setCells_apart h.1 k o l (Or.inl hj), fun o' => by rw [World.frozen?_setCells]; exact h.2.1 o', by rw [sz_setCells]; exact h.2.2⟩
 mo := fun a ha h => Mw.setCs ha l o w h
theorem At.set {w : World} {k : Nat} {us : List Value} (h : At w k us) (o : Nat) (l : List Value) (hl : o + l.length ≤ us.length) (vs : List Value) (hvs : vs = us.take o ++ l ++ us.drop (o + l.length)) : At (w.setCells k o l) k vs := by
 subst hvs
 refine ⟨fun j v hv => ?_, fun o' => by rw [World.frozen?_setCells]; exact h.2.1 o', by rw [sz_setCells]; exact h.2.2⟩
 rw [Nat.zero_add]
 by_cases h1 : j < o
 ·rw [World.cell?_setCells_out k l o w _ (fun _ _ => Or.inl h1)]
  refine h.cell ?_
  rw [List.append_assoc, List.getElem?_append_left (by simp; omega), List.getElem?_take_of_lt h1] at hv
  exact hv
 ·by_cases h2 : j < o + l.length
  ·rw [List.append_assoc, List.getElem?_append_right (by simp; omega), List.getElem?_append_left (by simp; omega)] at hv
   have := World.cell?_setCells_in k l o w (fun i hi => (h.there o l.length hl i hi).1) (j - o) (by omega)
   rw [show o + (j - o) = j by omega] at this
   rw [this, ← hv]
   rw [List.length_take, show min o us.length = o by omega, List.getElem?_eq_getElem (by omega)]
  ·rw [World.cell?_setCells_out k l o w _ (fun _ _ => Or.inr (by show o + l.length ≤ j; omega))]
   refine h.cell ?_
   rw [List.getElem?_append_right (by simp; omega), List.getElem?_drop] at hv
   rw [← hv]
   congr 1
   simp
   omega
section runs
variable {P : Program} {w : World} {k : Nat} {vs : List Value}
theorem run_row (h : At w k vs) (ty : TypeId) (o n : Nat) (us : List Value) (hus : us = (vs.drop o).take n) {d : TypeDesc} (hu : P.underlying ty = some d) (hd : d.isRow = true) (hi : (P.info? ty).map (·.size) = some us.length) :
  (Instr.loadAt ty (pt k o)).run P w = .ok (.agg us.toArray) w :=
 run_loadAt_mid w k o ty us d (fun j v hv => by
  subst hus
  refine h.cell ?_
  rw [List.getElem?_take] at hv
  split at hv
  ·rw [List.getElem?_drop] at hv; exact hv
  ·cases hv) hu hd hi
theorem run_one (h : At w k vs) (ty : TypeId) (o : Nat) {v : Value} (hv : vs[o]? = some v) {d : TypeDesc} (hu : P.underlying ty = some d) (hd : d.isRow = false) :
  (Instr.loadAt ty (pt k o)).run P w = .ok v w := by
 have hagg : (isAgg ty).run P w = .ok false w := by
  unfold isAgg
  rw [Sem.run_bind, run_underlying hu w]
  cases d <;> simp_all
 have hc := h.cell hv
 simp [Instr.loadAt, Instr.sureAddr, loadVar, Sem.run_bind, hagg, hc]
theorem run_put (h : At w k vs) (ty : TypeId) (o : Nat) (us : Array Value) (hl : o + us.size ≤ vs.length) (hi : (P.info? ty).map (·.size) = some us.size) (h1 : us.all (·.oneCell') = true) :
  (Instr.storeAt ty (pt k o) (.agg us)).run P w = .ok () (w.setCells k o us.toList) :=
 run_storeAt_mid w k o ty us (h.there o us.size hl) hi h1
theorem run_put1 (h : At w k vs) (ty : TypeId) (o : Nat) (v : Value) (hl : o < vs.length) (hi : (P.info? ty).map (·.size) = some 1) (hv : v.cells = #[v]) (h1 : v.oneCell' = true) :
  (Instr.storeAt ty (pt k o) v).run P w = .ok () (w.setCells k o [v]) := by
 have ht := h.there o 1 (by omega)
 have := run_storeCells_cells (P := P) k o [v] 0 w (fun j hj => by simpa using (ht j (by simpa using hj)).1) (fun j hj => by simpa using (ht j (by simpa using hj)).2)
  (fun u hu => by simp at hu; subst hu; exact h1)
 cases hq : P.info? ty with
 | none => simp [hq] at hi
 | some i =>
  have hs : i.size = 1 := by simpa [hq] using hi
  simp only [Nat.add_zero] at this
  simp [Instr.storeAt, Instr.sureAddr, storeVar, sizeOf, typeInfo, hq, hv, hs, this]
end runs
/-! Frames as lists of what was put where, the last first. -/
theorem blt_f {t n : Nat} (h : ¬ t < n) : Nat.blt t n = false := by
 cases e : Nat.blt t n with
 | false => rfl
 | true => rw [Nat.blt_eq] at e; exact absurd e h
theorem beq_f {d j : Nat} (h : ¬ d = j) : Nat.beq d j = false := by
 cases e : Nat.beq d j with
 | false => rfl
 | true => exact absurd (Nat.eq_of_beq_eq_true e) h
def look : List (Nat × Value) → Nat → Value
 | [], _ => undef
 | (d, v) :: l, t => bif Nat.beq d t then v else look l t
def fr (n : Nat) (l : List (Nat × Value)) : Act := { tmps := Array.ofFn (n := n) fun i => look l i, defers := [] }
def ext (l : List (Nat × Value)) : Option Tmp → Value → List (Nat × Value)
 | some d, v => (d, v) :: l
 | none, _ => l
def evl (n : Nat) (l : List (Nat × Value)) : Operand → Value
 | .tmp t => bif Nat.blt t n then look l t else undef
 | .const v => v
 | .global g => .pointer (some ⟨g, 0, none⟩)
 | .func f => .func (.func f) #[] #[]
theorem fr_getD (n : Nat) (l : List (Nat × Value)) (t : Nat) : (fr n l).tmps.getD t undef = bif Nat.blt t n then look l t else undef := by
 unfold fr
 by_cases h : t < n
 ·have e : Nat.blt t n = true := by simpa using h
  simp [h, e]
 ·have e := blt_f h
  simp [h, e]
theorem fr_eval (n : Nat) (l : List (Nat × Value)) : (fr n l).eval = evl n l := by
 funext x
 cases x with
 | tmp t => exact fr_getD n l t
 | _ => rfl
theorem fr_put (n : Nat) (l : List (Nat × Value)) (d : Option Tmp) (v : Value) : (fr n l).put d v = fr n (ext l d v) := by
 cases d with
 | none => rfl
 | some d =>
  simp only [fr, Act.put, ext]
  congr 1
  apply Array.ext
  ·simp
  ·intro j h1 h2
   simp at h1
   by_cases e : d = j
   ·subst e; simp [look]
   ·have := beq_f e
    rw [Array.getElem_setIfInBounds_ne (by simpa using h1) e]
    simp [look, this]
def wnt (n : Nat) (l : List (Nat × Value)) (ops : Array Oper) (o : Oper) : Bool :=
 match o.guard with
 | none => true
 | some (j, want) => (match (ops[j]?).bind (·.dst) with
  | some t => (bif Nat.blt t n then (match look l t with | .bool b => some b | _ => none) else none)
  | none => none) == some want
theorem fr_wanted (n : Nat) (l : List (Nat × Value)) (ops : Array Oper) (o : Oper) : Region.wanted o (yielded ops (fr n l).tmps) = wnt n l ops o := by
 unfold Region.wanted wnt
 cases o.guard with
 | none => rfl
 | some g =>
  obtain ⟨j, want⟩ := g
  simp only [yielded]
  cases (ops[j]?).bind (·.dst) with
  | none => rfl
  | some t =>
   by_cases h : t < n
   ·have e : Nat.blt t n = true := by simpa using h
    simp [fr, h, e]
    cases look l t <;> rfl
   ·have e := blt_f h
    simp [fr, h, e]
def argl : Nat → List Value → List (Nat × Value)
 | _, [] => []
 | i, v :: r => (i, v) :: argl (i + 1) r
theorem look_argl : ∀ (vs : List Value) (i t : Nat), look (argl i vs) t = if i ≤ t then (vs[t - i]?).getD undef else undef
 | [], i, t => by simp [argl, look]
 | v :: r, i, t => by
  have ih := look_argl r (i + 1) t
  by_cases e : i = t
  ·subst e; simp [argl, look]
  ·have hb := beq_f e
   simp only [argl, look, hb, cond_false, ih]
   by_cases h : i + 1 ≤ t
   ·rw [if_pos h, if_pos (by omega), show t - i = (t - (i + 1)) + 1 by omega, List.getElem?_cons_succ]
   ·rw [if_neg h, if_neg (by omega)]
theorem fr_args (n : Nat) (args : Array Value) (h : args.size ≤ n) : ({ tmps := args ++ Array.replicate (n - args.size) undef, defers := [] } : Act) = fr n (argl 0 args.toList) := by
 unfold fr
 congr 1
 apply Array.ext
 ·simp; omega
 ·intro j h1 h2
  simp at h2
  simp only [Array.getElem_ofFn, look_argl, Nat.zero_le, if_true, Nat.sub_zero]
  by_cases hj : j < args.size
  ·rw [Array.getElem_append_left hj]; simp [hj]
  ·rw [Array.getElem_append_right (by omega)]; simp [Nat.le_of_not_lt hj]
theorem f_enter {P : Program} {f : FuncId} {fn : Func} {c : Code} {args : Array Value} {w : World} {R : Ending → World → Prop} (n : Nat) (hf : P.funcs[f]? = some fn) (hn : fn.ntmps = n) (hb : fn.body = some c)
  (ha : Nat.ble args.size n = true) (h : c.wp P (bodyPost P fn R) (fr n (argl 0 args.toList)) w) : Calls P f args w R := by
 refine calls_of_wp hf hb ?_
 rw [hn, fr_args n args (by simpa using ha)]
 exact h
def resv (n : Nat) (l : List (Nat × Value)) (P : Program) (w : World) (v : Value) : ResultVar → Prop
 | .tmp t => (bif Nat.blt t n then look l t else undef) = v
 | .cell a t => ∃ k : Nat, (bif Nat.blt a n then look l a else undef) = pt k 0 ∧ (Instr.loadAt t (pt k 0)).run P w = .ok v w
theorem resv_tmp {n : Nat} {l : List (Nat × Value)} {P : Program} {w : World} {v : Value} {t : Tmp} (h : resv n l P w v (.tmp t)) : (fr n l).tmps[t]?.getD undef = v := by
 have := fr_getD n l t
 simp only [Array.getD_eq_getD_getElem?] at this
 rw [this]; exact h
theorem resv_cell {n : Nat} {l : List (Nat × Value)} {P : Program} {w : World} {v : Value} {a : Tmp} {t : TypeId} (h : resv n l P w v (.cell a t)) : ∃ k : Nat, (fr n l).tmps[a]?.getD undef = pt k 0 ∧ (loadVar t ⟨k, 0, none⟩).run P w = .ok v w := by
 obtain ⟨k, h1, h2⟩ := h
 refine ⟨k, ?_, by simpa only [Instr.loadAt, Instr.sureAddr, Sem.run_bind, Sem.run_pure, Result.andThen_ok] using h2⟩
 have := fr_getD n l a
 simp only [Array.getD_eq_getD_getElem?] at this
 rw [this]; exact h1
theorem Each.mono {F G : Nat → Oper → Prop} (h : ∀ i o, F i o → G i o) : ∀ (l : List Oper) (n : Nat), Each F n l → Each G n l
 | [], _, _ => trivial
 | _ :: l, n, hh => ⟨h _ _ hh.1, Each.mono h l (n + 1) hh.2⟩
/-! The laws of the steps. -/
section steps
variable {P : Program} {o : Oper} {n : Nat} {l : List (Nat × Value)} {w : World} {ops : Array Oper} {rest : List Oper} {Q : Exit → Act → World → Prop} {K : Act → World → Prop}
theorem o_val {w' : World} (v : Value) (h : (execOp (evl n l) o).run P w = .ok (.value v) w') (hk : K (fr n (ext l o.dst v)) w') : o.wp P (fr n l) w K Q := by
 unfold Oper.wp; rw [fr_eval, h, Oper.upon_value, fr_put]; exact hk
theorem o_load (ty : TypeId) (x : Operand) (p v : Value) (ho : o.op = .load ty x) (hx : evl n l x = p) (h : (Instr.loadAt ty p).run P w = .ok v w) (hk : K (fr n (ext l o.dst v)) w) : o.wp P (fr n l) w K Q := by
 refine o_val v ?_ hk
 subst hx
 simp [execOp, ho, h]
theorem o_store (ty : TypeId) (x y : Operand) (p v : Value) {w' : World} (ho : o.op = .store ty x y) (hd : o.dst = none) (hx : evl n l x = p) (hy : evl n l y = v) (h : (Instr.storeAt ty p v).run P w = .ok () w') (hk : K (fr n l) w') : o.wp P (fr n l) w K Q := by
 subst hx hy
 have e : (execOp (evl n l) o).run P w = .ok .skip w' := by simp [execOp, ho, h]
 unfold Oper.wp; rw [fr_eval, e, Oper.upon_skip, hd]; exact hk
theorem o_alloc (ty : TypeId) (zs : Array Value) (ho : o.op = .alloc ty) (h : ∀ w, (Instr.alloc ty true (.tuple #[])).run P w = .ok (pt w.heap.size 0) (w.alloc (.cells zs ty)))
  (hk : ∀ k w', w.heap.size = k → w'.heap.size = k + 1 → Mw w w' → At w' k zs.toList → K (fr n (ext l o.dst (pt k 0))) w') : o.wp P (fr n l) w K Q := by
 refine o_val (pt w.heap.size 0) (w' := w.alloc (.cells zs ty)) ?_ (hk _ _ rfl (by simp) ((Mw.refl _).alloc _ _) (At.new w zs ty))
 simp [execOp, ho, h]
theorem o_call (g : FuncId) (xs : List Operand) (ats : Array TypeId) (args : List Value) (v : Value) (ho : o.op = .call { callee := .value (.func g), args := xs.toArray, argTypes := ats }) (hx : xs.map (evl n l) = args)
  (h : ∀ args w, (callFunc g args).run P w = .ok (.enter g args) w)
  (hc : Calls P g args.toArray w fun e w' => e = .returned v ∧ Mw w w') (hk : ∀ w', Mw w w' → K (fr n (ext l o.dst v)) w') : o.wp P (fr n l) w K Q := by
 have e : (execOp (evl n l) o).run P w = .ok (.enter g args.toArray) w := by
  obtain ⟨dst, op, ty, pos, after, guard⟩ := o
  simp only at ho
  subst ho hx
  have e2 := execOp_call_go (fr n l) dst g xs.toArray ats ty pos after guard
  rw [fr_eval] at e2
  rw [e2, h]
  simp
 unfold Oper.wp; rw [fr_eval, e, Oper.upon_enter]
 refine hc.mono ?_
 rintro e w' ⟨rfl, h⟩
 show K _ _
 rw [fr_put]
 exact hk w' h
theorem o_st (ty : TypeId) (x y : Operand) (k off : Nat) (us : Array Value) (vs vs' : List Value) (hA : At w k vs) (ho : o.op = .store ty x y) (hd : o.dst = none) (hx : evl n l x = pt k off) (hy : evl n l y = .agg us)
  (hl : Nat.ble (off + us.size) vs.length = true) (hi : (P.info? ty).map (·.size) = some us.size) (h1 : us.toList.all (·.oneCell') = true) (hvs : vs' = vs.take off ++ us.toList ++ vs.drop (off + us.toList.length))
  (hk : ∀ w', St k w w' → At w' k vs' → K (fr n l) w') : o.wp P (fr n l) w K Q :=
 o_store ty x y _ _ ho hd hx hy (run_put hA ty off us (Nat.le_of_ble_eq_true hl) hi (by rw [← Array.all_toList]; exact h1)) (hk _ (St.mk' w k off us.toList) (hA.set off us.toList (by have := Nat.le_of_ble_eq_true hl; simpa using this) vs' hvs))
theorem o_st1 (ty : TypeId) (x y : Operand) (k off : Nat) (v : Value) (vs vs' : List Value) (hA : At w k vs) (ho : o.op = .store ty x y) (hd : o.dst = none) (hx : evl n l x = pt k off) (hy : evl n l y = v)
  (hl : Nat.blt off vs.length = true) (hi : (P.info? ty).map (·.size) = some 1) (hv : v.cells = #[v]) (h1 : v.oneCell' = true) (hvs : vs' = vs.take off ++ [v] ++ vs.drop (off + 1))
  (hk : ∀ w', St k w w' → At w' k vs' → K (fr n l) w') : o.wp P (fr n l) w K Q :=
 have hl' : off < vs.length := by rw [Nat.blt_eq] at hl; exact hl
 o_store ty x y _ _ ho hd hx hy (run_put1 hA ty off v hl' hi hv h1) (hk _ (St.mk' w k off [v]) (hA.set off [v] (by simp; omega) vs' hvs))
theorem l_step (hg : wnt n l ops o = true) (h : o.wp P (fr n l) w (wpList P ops Q rest) Q) : wpList P ops Q (o :: rest) (fr n l) w :=
 wpList_step fun K hK => by rw [fr_wanted, hg, if_pos rfl]; exact Oper.wp_mono (fun a w h => hK a w h) h
theorem l_skip (hg : wnt n l ops o = false) (h : wpList P ops Q rest (fr n (ext l o.dst undef)) w) : wpList P ops Q (o :: rest) (fr n l) w :=
 wpList_step fun K hK => by rw [fr_wanted, hg, fr_put]; exact hK _ _ h
theorem c_cond {c : Operand} {x y : Code} (t : Bool) (hc : evl n l c = .bool t) (h : (bif t then x else y).wp P Q (fr n l) w) : (Code.cond c x y).wp P Q (fr n l) w := by
 cases t
 ·exact wp_cond_false (by rw [fr_eval]; exact hc) h
 ·exact wp_cond_true (by rw [fr_eval]; exact hc) h
theorem c_ret1 {fn : Func} {R : Ending → World → Prop} (x : ResultVar) (v : Value) (hf : fn.results = #[x]) (h : resv n l P w v x) (hR : R (.returned v) w) : bodyPost P fn R .ret (fr n l) w := by
 refine bodyPost_ret (v := v) ?_ rfl hR
 cases x with
 | tmp t => have := resv_tmp h; simp [results, hf, this]
 | cell a t => obtain ⟨k, h1, h2⟩ := resv_cell h; simp [results, hf, h1, h2, asAddr]
theorem c_ret2 {fn : Func} {R : Ending → World → Prop} (x y : ResultVar) (v u : Value) (hf : fn.results = #[x, y]) (h : resv n l P w v x) (g : resv n l P w u y) (hR : R (.returned (.tuple #[v, u])) w) : bodyPost P fn R .ret (fr n l) w := by
 refine bodyPost_ret (v := .tuple #[v, u]) ?_ rfl hR
 cases x with
 | tmp t =>
  have h1 := resv_tmp h
  cases y with
  | tmp t => have g1 := resv_tmp g; simp [results, hf, h1, g1]
  | cell a t => obtain ⟨k, g1, g2⟩ := resv_cell g; simp [results, hf, h1, g1, g2, asAddr]
 | cell a t =>
  obtain ⟨k, h1, h2⟩ := resv_cell h
  cases y with
  | tmp t => have g1 := resv_tmp g; simp [results, hf, h1, h2, g1, asAddr]
  | cell a t => obtain ⟨k, g1, g2⟩ := resv_cell g; simp [results, hf, h1, h2, g1, g2, asAddr]
def asg (f : Nat → Value) : Nat → List Oper → List (Nat × Value) → List (Nat × Value)
 | _, [], l => l
 | i, o :: r, l => asg f (i + 1) r (ext l o.dst (f i))
theorem putAll_fr (f : Nat → Value) : ∀ (r : List Oper) (i : Nat) (l : List (Nat × Value)), putAll f i r (fr n l) = fr n (asg f i r l)
 | [], _, _ => rfl
 | o :: r, i, l => by simp only [putAll, asg, fr_put]; exact putAll_fr f r (i + 1) _
def depb (o : Oper) (j : Nat) : Bool := o.after.toList.any fun e => Region.binds .any e && Nat.beq e.on j
theorem li1 {a b : Value} (h : a = b) : [a] = [b] := by rw [h]
theorem li2 {a b c d : Value} (h : a = b) (k : c = d) : [a, c] = [b, d] := by rw [h, k]
end steps
end Go.Proofs.YthgknegocfhdbaaDoor.V

/-
 A region that draws its order: what each operation of its first part yields, said once for each; the last part a chain.
-/
namespace Go.Proofs.YthgknegocfhdbaaDoor.V
open Go.RowKit
abbrev Sp := Sum Value (List Value)
def spNew : Sp → Bool
 | .inl _ => false
 | .inr _ => true
def spDen (N : Nat) : Sp → Value → World → Prop
 | .inl v, u, _ => u = v
 | .inr zs, u, w => ∃ k, u = pt k 0 ∧ N ≤ k ∧ At w k zs
theorem spMo {N : Nat} {s : Sp} {u : Value} {w w' : World} (m : Mw w w') (h : spDen N s u w) : spDen N s u w' := by
 cases s with
 | inl v => exact h
 | inr zs => obtain ⟨k, h1, h2, h3⟩ := h; exact ⟨k, h1, h2, h3.mo m⟩
def spAt (sp : List Sp) (i : Nat) : Sp := (sp[i]?).getD (.inl undef)
def Ds (sp : List Sp) (f : Nat → Value) (w : World) : Prop :=
 (∀ j, spNew (spAt sp j) = true → ∀ k, f j = pt k 0 → k < w.heap.size) ∧ ∀ i j, spNew (spAt sp i) = true → spNew (spAt sp j) = true → i ≠ j → ∀ k, f i = pt k 0 → f j ≠ pt k 0
theorem Ds.other {sp : List Sp} {f : Nat → Value} {w w' : World} {i : Nat} {v : Value} (h : Ds sp f w) (hi : spNew (spAt sp i) = false) (hz : w.heap.size ≤ w'.heap.size) : Ds sp (upd f i v) w' := by
 have e : ∀ j, spNew (spAt sp j) = true → upd f i v j = f j := fun j hj => by
  unfold upd; rw [if_neg]; intro e; subst e; rw [hi] at hj; cases hj
 exact ⟨fun j hj k hk => Nat.lt_of_lt_of_le (h.1 j hj k (by rw [← e j hj]; exact hk)) hz, fun a b ha hb hab k hk => by rw [e b hb]; exact h.2 a b ha hb hab k (by rw [← e a ha]; exact hk)⟩
theorem pt_inj {a b : Nat} (h : pt a 0 = pt b 0) : a = b := by simpa using h
theorem Ds.fresh {sp : List Sp} {f : Nat → Value} {w w' : World} {i k : Nat} (h : Ds sp f w) (hk : w.heap.size = k) (hz : w'.heap.size = k + 1) : Ds sp (upd f i (pt k 0)) w' := by
 refine ⟨fun j hj m hm => ?_, fun a b ha hb hab m hm hn => ?_⟩
 ·unfold upd at hm
  split at hm
  ·have := pt_inj hm; omega
  ·have := h.1 j hj m hm; omega
 ·unfold upd at hm hn
  split at hm
  ·have e := pt_inj hm
   split at hn
   ·omega
   ·have := h.1 b hb m hn; omega
  ·split at hn
   ·have e := pt_inj hn; have := h.1 a ha m hm; omega
   ·exact h.2 a b ha hb hab m hm hn
def tw (ops : List Oper) : Nat → Nat → Nat → Bool
 | 0, _, _ => false
 | f + 1, i, j => match ops[i]? with
  | some o => depb o j || (List.range i).any fun k => depb o k && tw ops f k j
  | none => false
theorem exists_least0 {p : Nat → Prop} (h : ∃ m, p m) : ∃ m, p m ∧ ∀ k, p k → m ≤ k := by
 obtain ⟨m, hm⟩ := h
 induction m using Nat.strongRecOn with
 | ind m ih =>
  by_cases hh : ∃ k, k < m ∧ p k
  ·obtain ⟨k, hk, hp⟩ := hh; exact ih k hk hp
  ·exact ⟨m, hm, fun k hp => Nat.le_of_not_lt (fun hk => hh ⟨k, hk, hp⟩)⟩
def chainB (ops : List Oper) (m : Nat) (fs : List Nat) : Bool := (List.range ops.length).all fun i => Nat.blt i m || (List.range i).all fun j => fs.contains j || tw ops ops.length i j
def Shut (ops : List Oper) (listed : Array Bool) : Prop := ∀ i o, ops[i]? = some o → listed.getD i false = true → ∀ e ∈ o.after, Region.binds .any e = true → listed.getD e.on false = true
theorem tw_spec {ops : List Oper} {listed : Array Bool} (hc : Shut ops listed) : ∀ (f i j : Nat) (o : Oper), ops[i]? = some o → (∀ e ∈ o.after, Region.binds .any e = true → listed.getD e.on false = true) → tw ops f i j = true → listed.getD j false = true := by
 intro f
 induction f with
 | zero => intro i j o _ _ h; cases h
 | succ f ih =>
  intro i j o ho hd h
  have dep : ∀ k, depb o k = true → listed.getD k false = true := fun k hk => by
   obtain ⟨e, he, hb⟩ := List.any_eq_true.1 hk
   simp only [Bool.and_eq_true] at hb
   have := hd e (by simpa using he) hb.1
   rwa [Nat.eq_of_beq_eq_true hb.2] at this
  simp only [tw, ho, Bool.or_eq_true] at h
  rcases h with h | h
  ·exact dep j h
  ·obtain ⟨k, hk, hkk⟩ := List.any_eq_true.1 h
   simp only [Bool.and_eq_true] at hkk
   cases hok : ops[k]? with
   | none => cases f with
    | zero => cases hkk.2
    | succ f => simp [tw, hok] at hkk
   | some ok => exact ih k j ok hok (fun e he hb => hc k ok hok (dep k hkk.1) e he hb) hkk.2
theorem chainB_spec {ops : List Oper} {m : Nat} {fs : List Nat} (h : chainB ops m fs = true) {listed : Array Bool} (hc : Shut ops listed) {i : Nat} {o : Oper} (ho : ops[i]? = some o) (hi : m ≤ i) (hd : ∀ e ∈ o.after, Region.binds .any e = true → listed.getD e.on false = true) : ∀ j, j < i → fs.contains j = false → listed.getD j false = true := by
 intro j hj hfl
 have h1 := List.all_eq_true.1 h i (List.mem_range.2 (List.getElem?_eq_some_iff.1 ho).1)
 simp only [Bool.or_eq_true] at h1
 rcases h1 with h1 | h1
 ·rw [Nat.blt_eq] at h1; omega
 ·have h2 := List.all_eq_true.1 h1 j (List.mem_range.2 hj)
  rw [hfl, Bool.false_or] at h2
  exact tw_spec hc _ i j o ho hd h2
theorem Shut.step {ops : List Oper} {listed : Array Bool} (h : Shut ops listed) {i : Nat} {o : Oper} (ho : ops[i]? = some o) (hd : ∀ e ∈ o.after, Region.binds .any e = true → listed.getD e.on false = true) : Shut ops (listed.setIfInBounds i true) := by
 intro j oj hoj hl e he hb
 by_cases hij : i = j
 ·subst hij
  rw [ho] at hoj; cases hoj
  exact getD_set_true (hd e he hb)
 ·rw [getD_set_ne false hij] at hl
  exact getD_set_true (h j oj hoj hl e he hb)
theorem Shut.start (ops : List Oper) (n : Nat) : Shut ops (Array.replicate n false) := fun i _ _ hl => by
 exfalso
 rcases Nat.lt_or_ge i n with h' | h' <;> simp [h'] at hl
section
variable {P : Program} {ops : List Oper} {Q : Exit → Act → World → Prop} {n : Nat} {l : List (Nat × Value)}
theorem wpAny_chain {m : Nat} {fs : List Nat} (hfs : ∀ j, m ≤ j → fs.contains j = false) (hc : chainB ops m fs = true) (hb : edgesBack .any ops.toArray = true) : ∀ (d q fuel : Nat) (listed : Array Bool) (a : Act) (w : World), q + d = ops.length → m ≤ q → d ≤ fuel → listed.size = ops.length → Shut ops listed →
  (∀ j, j < ops.length → listed.getD j true = decide (j < q)) → wpList P ops.toArray Q (ops.drop q) a w → wpAny P .any ops.toArray Q fuel listed a w := by
 intro d
 induction d with
 | zero =>
  intro q fuel listed a w hq hm hf hz hsh hl h
  have hr : Region.ready .any ops.toArray listed = [] := by
   rw [List.eq_nil_iff_forall_not_mem]
   intro i hi
   obtain ⟨h0, o, ho, _⟩ := mem_ready.1 hi
   have hlt : i < ops.length := by have := (Array.getElem?_eq_some_iff.1 ho).1; simpa using this
   rw [hl i hlt] at h0
   have := of_decide_eq_false h0
   omega
  rw [List.drop_eq_nil_of_le (by omega)] at h
  exact wpAny_done hr h fuel
 | succ d ih =>
  intro q fuel listed a w hq hm hf hz hsh hl h
  have hqlt : q < ops.length := by omega
  cases fuel with
  | zero => omega
  | succ fuel =>
   have hone : ∀ i, i ∈ Region.ready .any ops.toArray listed ↔ i = q := by
    intro i
    constructor
    ·intro hi
     obtain ⟨h0, o, ho, hall⟩ := mem_ready.1 hi
     have hlt : i < ops.length := by have := (Array.getElem?_eq_some_iff.1 ho).1; simpa using this
     rw [hl i hlt] at h0
     have hge := of_decide_eq_false h0
     rcases Nat.lt_or_ge q i with hgt | hle
     ·have h1 := chainB_spec hc hsh (i := i) (o := o) (by simpa using ho) (by omega) hall q hgt (hfs q hm)
      have h2 := hl q hqlt
      have : q < listed.size := by omega
      simp [this] at h1 h2
      rw [h1] at h2; cases h2
     ·omega
    ·rintro rfl
     refine mem_ready.2 ⟨by rw [hl i hqlt]; simp, ops[i], by simp [hqlt], fun e he hbd => ?_⟩
     have hlt := edgesBack_spec hb (i := i) (o := ops[i]) (by simp [hqlt]) e he hbd
     have h2 := hl e.on (by omega)
     have : e.on < listed.size := by omega
     simp [this] at h2 ⊢
     rw [h2]; exact decide_eq_true hlt
   refine ⟨fun h0 => ?_, fun i hi => ?_⟩
   ·have := (hone q).2 rfl; rw [h0] at this; cases this
   ·have := (hone i).1 hi
    subst this
    have hdi : ∀ e ∈ (ops[i]).after, Region.binds .any e = true → listed.getD e.on false = true := by
     obtain ⟨_, o, ho, hall⟩ := mem_ready.1 hi
     have : ops[i] = o := by have := Array.getElem?_eq_some_iff.1 ho; obtain ⟨_, h⟩ := this; simpa using h
     rw [this]; exact hall
    rw [List.drop_eq_getElem_cons hqlt] at h
    have h1 : wpOp P ops.toArray Q i (wpList P ops.toArray Q (ops.drop (i + 1))) a w := by
     unfold wpOp
     have e : ops.toArray[i]? = some ops[i] := by simp [hqlt]
     rw [e]
     unfold wpList at h
     exact h
    refine wpOp_mono (fun a' w' h' => ih (i + 1) fuel _ a' w' (by omega) (by omega) (by omega) (by simpa using hz) (hsh.step (i := i) (o := ops[i]) (by simp [hqlt]) hdi) (fun j hj => ?_) h') h1
    by_cases e : i = j
    ·subst e
     have : i < listed.size := by omega
     simp [this]
    ·rw [getD_set_ne true e, hl j hj]
     congr 1
     rw [eq_iff_iff]; omega
def OgE (P : Program) (ops : List Oper) (Q : Exit → Act → World → Prop) (n : Nat) (l : List (Nat × Value)) (m : Nat) (W : World) (sp : List Sp) (i : Nat) (o : Oper) : Prop :=
 ∀ f w, Mw W w → (∀ j, depb o j = true → spDen W.heap.size (spAt sp j) (f j) w) → ∀ K : Act → World → Prop,
  (match spAt sp i with
   | .inl v => ∀ w', Mw w w' → K (fr n (ext (asg f 0 (ops.take m) l) o.dst v)) w'
   | .inr zs => ∀ k w', w.heap.size = k → w'.heap.size = k + 1 → Mw w w' → At w' k zs → K (fr n (ext (asg f 0 (ops.take m) l) o.dst (pt k 0))) w') →
  bif wnt n (asg f 0 (ops.take m) l) ops.toArray o then o.wp P (fr n (asg f 0 (ops.take m) l)) w K Q else K (fr n (ext (asg f 0 (ops.take m) l) o.dst undef)) w
def floatB (ops : List Oper) (m : Nat) (fs : List Nat) : Bool := fs.all fun i => Nat.blt i m && match ops[i]? with
 | some o => (List.range ops.length).all fun j => Nat.beq j i || Nat.blt j i || (Nat.blt j m && !fs.contains j) || match ops[j]? with
  | some oj => depb oj i || o.apart ops.toArray oj
  | none => true
 | none => false
def LateO (P : Program) (ops : List Oper) (Q : Exit → Act → World → Prop) (n : Nat) (l : List (Nat × Value)) (m : Nat) (sp : List Sp) (i : Nat) : Prop :=
 ∃ o v, ops[i]? = some o ∧ spAt sp i = .inl v ∧ (∀ u c a w, Q (.panic c) (a.put o.dst u) w → Q (.panic c) a w) ∧
  ∀ f, (∀ j, depb o j = true → ∀ u, spAt sp j = .inl u → f j = u) → wnt n (asg f 0 (ops.take m) l) ops.toArray o = true ∧ ∀ w, (execOp (evl n (asg f 0 (ops.take m) l)) o).run P w = .ok (.value v) w
theorem r_draw {id : Nat} {W : World} (m : Nat) (sp : List Sp) (fs : List Nat) (hm : P.follows .mixedOrders = true)
    (hb : edgesBack .any ops.toArray = true) (hd : dstsApart (ops.take m) = true) (hc : chainB ops m fs = true) (hl : Nat.ble m ops.length = true) (hf : floatB ops m fs = true) (hns : Region.noSelect ops.toArray = true)
    (hlate : ∀ i, i ∈ fs → LateO P ops Q n l m sp i)
    (hD : Ds sp (slots (fr n l) (ops.take m).toArray) W)
    (hs : Each (OgE P ops Q n l m W sp) 0 (ops.take m))
    (hend : ∀ f w, Mw W w → (∀ i, Nat.blt i m = true → spDen W.heap.size (spAt sp i) (f i) w) → Ds sp f w → wpList P ops.toArray Q (ops.drop m) (fr n (asg f 0 (ops.take m) l)) w) :
    (Code.region id ops.toArray true).wp P Q (fr n l) W := by
  have hml : m ≤ ops.length := Nat.le_of_ble_eq_true hl
  have hfm : ∀ i, i ∈ fs → i < m := fun i hi => by
    have := List.all_eq_true.1 hf i hi
    simp only [Bool.and_eq_true] at this
    rw [Nat.blt_eq] at this; exact this.1
  have hfs : ∀ j, m ≤ j → fs.contains j = false := fun j hj => by
    cases e : fs.contains j with
    | false => rfl
    | true => have := hfm j (by simpa using e); omega
  refine wp_region_any hm ?_
  -- all that are not late have come up: the late ones first, then the last part
  have second : ∀ (d fuel : Nat) (listed : Array Bool) (f : Nat → Value) (w : World), listed.toList.count false = (ops.length - m) + d → (ops.length - m) + d ≤ fuel → listed.size = ops.length → Shut ops listed → (∀ j, m ≤ j → j < ops.length → listed.getD j true = false) →
      (∀ j, j < m → fs.contains j = false → listed.getD j true = true) → Mw W w → Ds sp f w → (∀ i, i < m → listed.getD i false = true → spDen W.heap.size (spAt sp i) (f i) w) → wpAny P .any ops.toArray Q fuel listed (putAll f 0 (ops.take m) (fr n l)) w := by
    intro d
    induction d with
    | zero =>
      intro fuel listed f w hcnt hfu hz hsh hun hall hW hDs hR
      have hall2 : ∀ j, j < m → listed.getD j true = true := fun j hj => by
        cases e : listed.getD j true with
        | true => rfl
        | false =>
          exfalso
          have h1 : (listed.toList.drop m).count false = ops.length - m := by
            have h2 : listed.toList.drop m = List.replicate (ops.length - m) false := by
              apply List.ext_getElem
              · simp [hz]
              · intro j h3 h4
                simp at h3
                have := hun (m + j) (by omega) (by omega)
                have h5 : m + j < listed.size := by omega
                simpa [h5] using this
            rw [h2]; simp
          have h3 := List.take_append_drop m listed.toList
          have h4 : 0 < (listed.toList.take m).count false := by
            apply List.count_pos_iff.2
            have hjs : j < listed.size := by omega
            simp [hjs] at e
            rw [List.mem_iff_getElem]
            exact ⟨j, by simp; omega, by simp [e]⟩
          rw [← h3, List.count_append] at hcnt
          omega
      refine wpAny_chain hfs hc hb (ops.length - m) m _ listed _ w (by omega) (Nat.le_refl _) (by omega) hz hsh (fun j hj => ?_) ?_
      · rcases Nat.lt_or_ge j m with h | h
        · rw [hall2 j h]; simp [h]
        · rw [hun j h hj]; simp [Nat.not_lt.2 h]
      · rw [putAll_fr]
        exact hend f w hW (fun i hi => by
          have hi' : i < m := by rw [Nat.blt_eq] at hi; exact hi
          refine hR i hi' ?_
          have h1 := hall2 i hi'
          have h2 : i < listed.size := by omega
          simpa [h2] using h1) hDs
    | succ d ih =>
      intro fuel listed f w hcnt hfu hz hsh hun hall hW hDs hR
      -- a late one that has not come up: the first
      have hex : ∃ i, i < m ∧ listed.getD i true = false := by
        apply Classical.byContradiction
        intro hno
        have hall2 : ∀ j, j < m → listed.getD j true = true := fun j hj => by
          cases e : listed.getD j true with
          | true => rfl
          | false => exact absurd ⟨j, hj, e⟩ hno
        have h3 := List.take_append_drop m listed.toList
        have h4 : (listed.toList.take m).count false = 0 := by
          rw [List.count_eq_zero]
          intro hmem
          rw [List.mem_iff_getElem] at hmem
          obtain ⟨j, hj, e⟩ := hmem
          simp at hj e
          have hj1 : j < m := by omega
          have hj2 : j < listed.size := by omega
          have := hall2 j hj1
          simp [hj2] at this
          rw [this] at e; cases e
        have h5 : (listed.toList.drop m).count false ≤ ops.length - m := by
          have := List.count_le_length (a := false) (l := listed.toList.drop m)
          simp [hz] at this; exact this
        rw [← h3, List.count_append] at hcnt
        omega
      obtain ⟨i, ⟨him, hiu⟩, hmin⟩ := exists_least0 hex
      have hif : i ∈ fs := by
        cases e : fs.contains i with
        | true => simpa using e
        | false => have := hall i him e; rw [hiu] at this; cases this
      obtain ⟨o, v, ho, hv, hQ, hy⟩ := hlate i hif
      have hdep : ∀ e ∈ o.after, Region.binds .any e = true → listed.getD e.on false = true := fun e he hbd => by
        have hlt := edgesBack_spec hb (i := i) (o := o) (by simpa using ho) e he hbd
        have h1 : listed.getD e.on true = true := by
          cases ee : listed.getD e.on true with
          | true => rfl
          | false => have := hmin e.on ⟨by omega, ee⟩; omega
        have h2 : e.on < listed.size := by omega
        simpa [h2] using h1
      have hval : ∀ j, depb o j = true → ∀ u, spAt sp j = .inl u → f j = u := fun j hj u hu => by
        obtain ⟨e, he, hb'⟩ := List.any_eq_true.1 hj
        simp only [Bool.and_eq_true] at hb'
        have heon := Nat.eq_of_beq_eq_true hb'.2
        have hj' := hdep e (by simpa using he) hb'.1
        have hlt := edgesBack_spec hb (i := i) (o := o) (by simpa using ho) e (by simpa using he) hb'.1
        rw [heon] at hj' hlt
        have := hR j (by omega) hj'
        rw [hu] at this
        exact this
      obtain ⟨hw1, hw2⟩ := hy f hval
      cases fuel with
      | zero => omega
      | succ fuel =>
        refine wpAny_first (i := i) (oi := o) (v := v) (by simpa using ho) (Region.noSelect_spec hns) (hQ v) fuel listed _ w ?_ ?_ ?_ ?_
        · intro j oj hoj hji hju hno
          have hjl : j < ops.length := by have := (Array.getElem?_eq_some_iff.1 hoj).1; simpa using this
          have h1 := List.all_eq_true.1 hf i hif
          simp only [Bool.and_eq_true, ho] at h1
          have h2 := List.all_eq_true.1 h1.2 j (List.mem_range.2 hjl)
          have hoj' : ops[j]? = some oj := by simpa using hoj
          simp only [hoj', Bool.or_eq_true, Bool.and_eq_true, Bool.not_eq_true'] at h2
          rcases h2 with ((h2 | h2) | h2) | h2 | h2
          · exact absurd (Nat.eq_of_beq_eq_true h2) hji
          · rw [Nat.blt_eq] at h2
            have := hmin j ⟨by omega, hju⟩
            omega
          · have := hall j (by have := h2.1; rw [Nat.blt_eq] at this; exact this) h2.2
            rw [this] at hju; cases hju
          · obtain ⟨e, he, hb'⟩ := List.any_eq_true.1 h2
            simp only [Bool.and_eq_true] at hb'
            exact absurd (Nat.eq_of_beq_eq_true hb'.2) (hno e (by simpa using he) hb'.1)
          · exact h2
        · exact mem_ready.2 ⟨hiu, o, by simpa using ho, hdep⟩
        · rw [putAll_fr]
          exact Or.inl ⟨by rw [fr_wanted]; exact hw1, fun w => by rw [fr_eval]; exact hw2 w⟩
        · have hot : (ops.take m)[i]? = some o := by rw [List.getElem?_take_of_lt him]; exact ho
          have hp := putAll_put v (ops.take m) 0 f (fr n l) hd i o hot
          rw [Nat.zero_add] at hp
          rw [hp]
          have h1 : listed.toList[i]? = some false := by
            have h' : i < listed.size := by omega
            simp [h'] at hiu; simp [h', hiu]
          have hcs := count_set _ _ h1
          refine ih fuel _ (upd f i v) w ?_ (by omega) (by simpa using hz) (hsh.step ho hdep) (fun j h1 h2 => ?_) (fun j h1 h2 => ?_) hW (hDs.other (by rw [hv]; rfl) (Nat.le_refl _)) (fun j hj hlj => ?_)
          · simp only [Array.toList_setIfInBounds]; omega
          · rw [getD_set_ne true (by omega)]; exact hun j h1 h2
          · have hij : i ≠ j := by intro e; subst e; have : fs.contains i = true := by simpa using hif
                                   rw [this] at h2; cases h2
            rw [getD_set_ne true hij]; exact hall j h1 h2
          · by_cases e : j = i
            · subst e; rw [hv]; simp [upd, spDen]
            · rw [getD_set_ne false (Ne.symm e)] at hlj
              have := hR j hj hlj
              simpa [upd, e] using this
  have main : ∀ (fuel : Nat) (listed : Array Bool) (f : Nat → Value) (w : World), listed.toList.count false ≤ fuel → listed.size = ops.length → Shut ops listed → (∀ j, m ≤ j → j < ops.length → listed.getD j true = false) →
      Mw W w → Ds sp f w → (∀ i, i < m → listed.getD i false = true → spDen W.heap.size (spAt sp i) (f i) w) → wpAny P .any ops.toArray Q fuel listed (putAll f 0 (ops.take m) (fr n l)) w := by
    intro fuel
    induction fuel with
    | zero =>
      intro listed f w hcnt hz hsh hun hW hDs hR
      refine wpAny_chain hfs hc hb (ops.length - m) m 0 listed _ w (by omega) (Nat.le_refl _) ?_ hz hsh ?_ ?_
      · rcases Nat.lt_or_ge m ops.length with h | h
        · exfalso
          have h1 := hun m (Nat.le_refl _) h
          have h2 : m < listed.size := by omega
          have : false ∈ listed.toList := by simp [h2] at h1; rw [← h1]; simp
          have := List.count_pos_iff.2 this
          omega
        · omega
      · intro j hj
        have h2 : j < listed.size := by omega
        have h3 : listed.getD j true = true := by
          cases e : listed.getD j true with
          | true => rfl
          | false =>
            have : false ∈ listed.toList := by simp [h2] at e; rw [← e]; simp
            have := List.count_pos_iff.2 this
            omega
        rcases Nat.lt_or_ge j m with h | h
        · rw [h3]; simp [h]
        · rw [hun j h hj] at h3; cases h3
      · rw [putAll_fr]
        refine hend f w hW (fun i hi => hR i (by rw [Nat.blt_eq] at hi; exact hi) ?_) hDs
        have hi' : i < m := by rw [Nat.blt_eq] at hi; exact hi
        have h2 : i < listed.size := by omega
        cases e : listed.getD i false with
        | true => rfl
        | false =>
          have : false ∈ listed.toList := by simp [h2] at e; rw [← e]; simp
          have := List.count_pos_iff.2 this
          omega
    | succ fuel ih =>
      intro listed f w hcnt hz hsh hun hW hDs hR
      by_cases hall : ∀ j, j < m → fs.contains j = false → listed.getD j true = true
      · have hge : ops.length - m ≤ listed.toList.count false := by
          have h1 : (listed.toList.drop m).count false = ops.length - m := by
            have h2 : listed.toList.drop m = List.replicate (ops.length - m) false := by
              apply List.ext_getElem
              · simp [hz]
              · intro j h3 h4
                simp at h3
                have := hun (m + j) (by omega) (by omega)
                have h5 : m + j < listed.size := by omega
                simpa [h5] using this
            rw [h2]; simp
          have h3 := List.take_append_drop m listed.toList
          rw [← h3, List.count_append]
          omega
        exact second (listed.toList.count false - (ops.length - m)) _ listed f w (by omega) (by omega) hz hsh hun hall hW hDs hR
      · obtain ⟨u, hum, huf, hu⟩ : ∃ u, u < m ∧ fs.contains u = false ∧ listed.getD u true = false := by
          rcases Classical.not_forall.1 hall with ⟨u, h⟩
          rcases Classical.not_imp.1 h with ⟨h1, h2⟩
          rcases Classical.not_imp.1 h2 with ⟨h3, h4⟩
          exact ⟨u, h1, h3, by cases e : listed.getD u true with | true => exact absurd e h4 | false => rfl⟩
        have hne : Region.ready .any ops.toArray listed ≠ [] := fun hr => by
          have := all_listed hb hr u (by simp; omega)
          rw [hu] at this; cases this
        refine ⟨fun h0 => absurd h0 hne, fun i hi => ?_⟩
        obtain ⟨h0, o, ho, hdep⟩ := mem_ready.1 hi
        have hoi : ops[i]? = some o := by simpa using ho
        have hilt : i < ops.length := (List.getElem?_eq_some_iff.1 hoi).1
        have him : i < m := by
          rcases Nat.lt_or_ge i m with h | h
          · exact h
          · exfalso
            have h1 := chainB_spec hc hsh hoi h hdep u (by omega) huf
            have h2 : u < listed.size := by omega
            simp [h2] at h1 hu
            rw [h1] at hu; cases hu
        have hot : (ops.take m)[i]? = some o := by rw [List.getElem?_take_of_lt him]; exact hoi
        have hstep := Each.spec (ops.take m) 0 hs i o hot
        rw [Nat.zero_add] at hstep
        have hcount : ((listed.setIfInBounds i true).toList.count false) ≤ fuel := by
          have h1 : listed.toList[i]? = some false := by
            have h' : i < listed.size := by omega
            simp [h'] at h0; simp [h', h0]
          have := count_set _ _ h1
          simp only [Array.toList_setIfInBounds]
          omega
        have hun' : ∀ j, m ≤ j → j < ops.length → (listed.setIfInBounds i true).getD j true = false := fun j h1 h2 => by
          rw [getD_set_ne true (by omega)]; exact hun j h1 h2
        have next : ∀ v w', Mw w w' → Ds sp (upd f i v) w' → spDen W.heap.size (spAt sp i) v w' → wpAny P .any ops.toArray Q fuel (listed.setIfInBounds i true) (putAll (upd f i v) 0 (ops.take m) (fr n l)) w' := fun v w' hmo hds hden => by
          refine ih _ _ w' hcount (by simpa using hz) (hsh.step hoi hdep) hun' (hW.trans hmo) hds (fun j hj hlj => ?_)
          by_cases e : j = i
          · subst e; simpa [upd] using hden
          · rw [getD_set_ne false (Ne.symm e)] at hlj
            have := spMo hmo (hR j hj hlj)
            simpa [upd, e] using this
        have put : ∀ v, fr n (ext (asg f 0 (ops.take m) l) o.dst v) = putAll (upd f i v) 0 (ops.take m) (fr n l) := fun v => by
          have := putAll_put v (ops.take m) 0 f (fr n l) hd i o hot
          rw [Nat.zero_add] at this
          rw [← this, putAll_fr, fr_put]
        refine wpOp_step ho (fun K hK => ?_)
        rw [putAll_fr, fr_wanted]
        have hh := hstep f w hW (fun j hj => by
          obtain ⟨e, he, hb'⟩ := List.any_eq_true.1 hj
          simp only [Bool.and_eq_true] at hb'
          have heon := Nat.eq_of_beq_eq_true hb'.2
          have hj' := hdep e (by simpa using he) hb'.1
          have hlt := edgesBack_spec hb ho e (by simpa using he) hb'.1
          rw [heon] at hj' hlt
          exact hR j (by omega) hj') K
        have hh2 : (bif wnt n (asg f 0 (ops.take m) l) ops.toArray o then o.wp P (fr n (asg f 0 (ops.take m) l)) w K Q else K (fr n (ext (asg f 0 (ops.take m) l) o.dst undef)) w) := by
          refine hh ?_
          cases hsp : spAt sp i with
          | inl v =>
            intro w' hmo
            rw [put]
            exact hK _ _ (next v w' hmo (hDs.other (by rw [hsp]; rfl) hmo.size) (by rw [hsp]; rfl))
          | inr zs =>
            intro k w' hk hz' hmo hat
            rw [put]
            exact hK _ _ (next (pt k 0) w' hmo (hDs.fresh hk hz') (by rw [hsp]; exact ⟨k, rfl, by have := hW.size; omega, hat⟩))
        rw [fr_put]
        cases hw : wnt n (asg f 0 (ops.take m) l) ops.toArray o <;> simp only [hw, cond_true, cond_false] at hh2 ⊢ <;> exact hh2
  have h0 : putAll (slots (fr n l) (ops.take m).toArray) 0 (ops.take m) (fr n l) = fr n l := putAll_self _ _ 0 _ (fun i o ho t ht => by simp only [Nat.zero_add, slots]; rw [show (ops.take m).toArray[i]? = some o by simpa using ho]; simp [ht])
  have := main ops.length (Array.replicate ops.length false) (slots (fr n l) (ops.take m).toArray) W.drew (by simp) (by simp) (Shut.start _ _) (fun j _ hj => by simp [hj]) (Mw.refl _).drew ⟨fun j hj k hk => hD.1 j hj k hk, hD.2⟩ (fun i _ hi => by
    exfalso
    rcases Nat.lt_or_ge i ops.length with h' | h' <;> simp [h'] at hi)
  rw [h0] at this
  simpa using this
def spv (sp : List Sp) (kf : Nat → Nat) (i : Nat) : Value :=
 match spAt sp i with
 | .inl v => v
 | .inr _ => pt (kf i) 0
theorem asg_congr {f g : Nat → Value} : ∀ (r : List Oper) (i : Nat) (l : List (Nat × Value)), (∀ j, i ≤ j → j < i + r.length → f j = g j) → asg f i r l = asg g i r l
 | [], _, _, _ => rfl
 | o :: r, i, l, h => by
  unfold asg
  rw [h i (Nat.le_refl _) (by simp)]
  exact asg_congr r (i + 1) _ (fun j h1 h2 => h j (by omega) (by simp; omega))
theorem r_any {id : Nat} {W : World} (m : Nat) (sp : List Sp) (fs : List Nat) (hm : P.follows .mixedOrders = true)
  (hb : edgesBack .any ops.toArray = true) (hd : dstsApart (ops.take m) = true) (hc : chainB ops m fs = true) (hl : Nat.ble m ops.length = true) (hf : floatB ops m fs = true) (hns : Region.noSelect ops.toArray = true)
  (hlate : ∀ i, i ∈ fs → LateO P ops Q n l m sp i)
  (hD : Ds sp (slots (fr n l) (ops.take m).toArray) W)
  (hs : Each (OgE P ops Q n l m W sp) 0 (ops.take m))
  (hend : ∀ kf w, Mw W w → (∀ i zs, Nat.blt i m = true → spAt sp i = .inr zs → W.heap.size ≤ kf i ∧ At w (kf i) zs) → (∀ i j, Nat.blt i m = true → Nat.blt j m = true → spNew (spAt sp i) = true → spNew (spAt sp j) = true → i ≠ j → kf i ≠ kf j) →
   wpList P ops.toArray Q (ops.drop m) (fr n (asg (spv sp kf) 0 (ops.take m) l)) w) :
  (Code.region id ops.toArray true).wp P Q (fr n l) W := by
 refine r_draw m sp fs hm hb hd hc hl hf hns hlate hD hs (fun f w hmo hR hDs => ?_)
 have hk : ∃ kf : Nat → Nat, ∀ i zs, i < m → spAt sp i = .inr zs → f i = pt (kf i) 0 ∧ W.heap.size ≤ kf i ∧ At w (kf i) zs := by
  refine ⟨fun i => Classical.epsilon (fun k => f i = pt k 0), fun i zs hi hsp => ?_⟩
  have h1 := hR i (by rw [Nat.blt_eq]; exact hi)
  rw [hsp] at h1
  obtain ⟨k, e, h2, h3⟩ := h1
  have hex : ∃ k, f i = pt k 0 := ⟨k, e⟩
  have hc := Classical.epsilon_spec hex
  have : Classical.epsilon (fun k => f i = pt k 0) = k := pt_inj (hc.symm.trans e)
  simp only [this]
  exact ⟨e, h2, h3⟩
 obtain ⟨kf, hkf⟩ := hk
 have e : asg f 0 (ops.take m) l = asg (spv sp kf) 0 (ops.take m) l := asg_congr _ 0 l (fun j _ hj => by
  have hjm : j < m := by have := List.length_take_le m ops; omega
  unfold spv
  cases hsp : spAt sp j with
  | inl v =>
   have := hR j (by rw [Nat.blt_eq]; exact hjm)
   rw [hsp] at this
   exact this
  | inr zs => exact (hkf j zs hjm hsp).1)
 rw [e]
 refine hend kf w hmo (fun i zs hi hsp => (hkf i zs (by rw [Nat.blt_eq] at hi; exact hi) hsp).2) (fun i j hi hj hin hjn hne heq => ?_)
 have gi : ∃ zs, spAt sp i = .inr zs := by cases h : spAt sp i with | inl v => rw [h] at hin; cases hin | inr zs => exact ⟨zs, rfl⟩
 have gj : ∃ zs, spAt sp j = .inr zs := by cases h : spAt sp j with | inl v => rw [h] at hjn; cases hjn | inr zs => exact ⟨zs, rfl⟩
 obtain ⟨zi, gi⟩ := gi
 obtain ⟨zj, gj⟩ := gj
 have hi' : i < m := by rw [Nat.blt_eq] at hi; exact hi
 have hj' : j < m := by rw [Nat.blt_eq] at hj; exact hj
 have h1 := (hkf i zi hi' gi).1
 have h2 := (hkf j zj hj' gj).1
 rw [← heq] at h2
 exact hDs.2 i j hin hjn hne _ h1 h2
theorem Ds.none {sp : List Sp} {f : Nat → Value} {w : World} (h : sp.all (fun s => !spNew s) = true) : Ds sp f w := by
 have hh : ∀ j, spNew (spAt sp j) = true → False := fun j hj => by
  unfold spAt at hj
  cases e : sp[j]? with
  | none => rw [e] at hj; cases hj
  | some s =>
   rw [e] at hj
   have := List.all_eq_true.1 h s (List.mem_of_getElem? e)
   simp at this
   simp [this] at hj
 exact ⟨fun j hj => (hh j hj).elim, fun i j hi => (hh i hi).elim⟩
theorem Ds.undef {sp : List Sp} {f : Nat → Value} {w : World} (h : ∀ j, j < sp.length → spNew (spAt sp j) = true → f j = undef) : Ds sp f w := by
 have hh : ∀ j, spNew (spAt sp j) = true → ∀ k, f j ≠ pt k 0 := fun j hj k e => by
  rcases Nat.lt_or_ge j sp.length with hl | hl
  ·rw [h j hl hj] at e; cases e
  ·unfold spAt at hj; rw [List.getElem?_eq_none hl] at hj; cases hj
 exact ⟨fun j hj k hk => (hh j hj k hk).elim, fun i j hi _ _ k hk => (hh i hi k hk).elim⟩
theorem ct {b : Bool} {A B : Prop} (h : b = true) (a : A) : (bif b then A else B) := by subst h; exact a
theorem cf {b : Bool} {A B : Prop} (h : b = false) (a : B) : (bif b then A else B) := by subst h; exact a
theorem n_then {Q : Exit → Act → World → Prop} {next : Act → World → Prop} {a : Act} {w : World} (h : next a w) : Exit.then next Q .normal a w := h
theorem n_blk {Q : Exit → Act → World → Prop} {id : Nat} {a : Act} {w : World} (h : Q .normal a w) : Exit.inBlock id Q .normal a w := h
theorem x_then {Q : Exit → Act → World → Prop} {next : Act → World → Prop} {id : Nat} {a : Act} {w : World} (h : Q (.exit id) a w) : Exit.then next Q (.exit id) a w := h
theorem x_blk {Q : Exit → Act → World → Prop} {id : Nat} {a : Act} {w : World} (h : Q .normal a w) : Exit.inBlock id Q (.exit id) a w := by simp only [Exit.inBlock, if_true]; exact h
theorem r_then {Q : Exit → Act → World → Prop} {next : Act → World → Prop} {a : Act} {w : World} (h : Q .ret a w) : Exit.then next Q .ret a w := h
theorem r_blk {Q : Exit → Act → World → Prop} {id : Nat} {a : Act} {w : World} (h : Q .ret a w) : Exit.inBlock id Q .ret a w := h
variable {o : Oper} {w : World} {K : Act → World → Prop}
theorem o_mv (x : Operand) (p : Value) (ho : ∀ ρ, execOp ρ o = pure (.value (ρ x))) (hx : evl n l x = p) (hk : K (fr n (ext l o.dst p)) w) : o.wp P (fr n l) w K Q := by
 refine o_val p ?_ hk
 rw [ho, hx]; rfl
theorem o_un (F : Value → Sem Value) (x : Operand) (p v : Value) (ho : ∀ ρ, execOp ρ o = (do pure (.value (← F (ρ x))))) (hx : evl n l x = p) (h : (F p).run P w = .ok v w) (hk : K (fr n (ext l o.dst v)) w) : o.wp P (fr n l) w K Q := by
 refine o_val v ?_ hk
 rw [ho, hx]; simp [h]
theorem o_bin (F : Value → Value → Sem Value) (x y : Operand) (p q v : Value) (ho : ∀ ρ, execOp ρ o = (do pure (.value (← F (ρ x) (ρ y))))) (hx : evl n l x = p) (hy : evl n l y = q) (h : (F p q).run P w = .ok v w) (hk : K (fr n (ext l o.dst v)) w) : o.wp P (fr n l) w K Q := by
 refine o_val v ?_ hk
 rw [ho, hx, hy]; simp [h]
theorem o_build (t : TypeId) (xs : List (Nat × Operand)) (ps : List (Nat × Value)) (v : Value) (ho : o.op = .build t xs.toArray) (hx : xs.map (fun p => (p.1, evl n l p.2)) = ps) (h : (Instr.build t ps.toArray).run P w = .ok v w) (hk : K (fr n (ext l o.dst v)) w) : o.wp P (fr n l) w K Q := by
 refine o_val v ?_ hk
 subst hx
 simp only [execOp, ho, List.map_toArray]
 simp [h]
theorem o_pick (c x y : Operand) (t : Bool) (v : Value) (ho : ∀ ρ, execOp ρ o = (do pure (.value (if ← asBool (ρ c) then ρ x else ρ y)))) (hc : evl n l c = .bool t) (hv : evl n l (bif t then x else y) = v) (hk : K (fr n (ext l o.dst v)) w) : o.wp P (fr n l) w K Q := by
 refine o_val v ?_ hk
 rw [ho, hc]
 cases t <;> simp at hv <;> simp [asBool, hv]
end
end Go.Proofs.YthgknegocfhdbaaDoor.V

/-
 The laws of the steps over propositions that nothing unfolds by itself.
-/
namespace Go.Proofs.YthgknegocfhdbaaDoor.V
open Go.RowKit
theorem exists_least {p : Nat → Prop} (h : ∃ m, p m) : ∃ m, p m ∧ ∀ k, p k → m ≤ k := by
 obtain ⟨m, hm⟩ := h
 induction m using Nat.strongRecOn with
 | ind m ih =>
  by_cases hh : ∃ k, k < m ∧ p k
  ·obtain ⟨k, hk, hp⟩ := hh; exact ih k hk hp
  ·exact ⟨m, hm, fun k hp => Nat.le_of_not_lt (fun hk => hh ⟨k, hk, hp⟩)⟩
def least (p : Nat → Prop) (m : Nat) : Prop := p m ∧ ∀ k, p k → m ≤ k
theorem least_ok {p : Nat → Prop} (h : ∃ m, p m) : least p (Classical.epsilon (least p)) := Classical.epsilon_spec (exists_least h)
structure WC (P : Program) (c : Code) (Q : Exit → Act → World → Prop) (n : Nat) (l : List (Nat × Value)) (w : World) : Prop where
 out : c.wp P Q (fr n l) w
structure WL (P : Program) (ops : Array Oper) (Q : Exit → Act → World → Prop) (r : List Oper) (n : Nat) (l : List (Nat × Value)) (w : World) : Prop where
 out : wpList P ops Q r (fr n l) w
structure WX (Q : Exit → Act → World → Prop) (e : Exit) (n : Nat) (l : List (Nat × Value)) (w : World) : Prop where
 out : Q e (fr n l) w
structure WO (P : Program) (o : Oper) (n : Nat) (l : List (Nat × Value)) (w : World) (K : Act → World → Prop) (Q : Exit → Act → World → Prop) : Prop where
 out : o.wp P (fr n l) w K Q
section
variable {P : Program} {o : Oper} {n : Nat} {l : List (Nat × Value)} {w : World} {ops : Array Oper} {rest : List Oper} {Q : Exit → Act → World → Prop} {K : Act → World → Prop}
theorem w_enter {f : FuncId} {fn : Func} {c : Code} {args : Array Value} {R : Ending → World → Prop} (n : Nat) (hf : P.funcs[f]? = some fn) (hn : fn.ntmps = n) (hb : fn.body = some c)
  (ha : Nat.ble args.size n = true) (h : WC P c (bodyPost P fn R) n (argl 0 args.toList) w) : Calls P f args w R := f_enter n hf hn hb ha h.out
theorem w_seq {x y : Code} (h : WC P x (Exit.then (y.wp P Q) Q) n l w) : WC P (Code.seq x y) Q n l w := ⟨wp_seq h.out⟩
theorem w_block {id : Nat} {c : Code} (h : WC P c (Exit.inBlock id Q) n l w) : WC P (Code.block id c) Q n l w := ⟨wp_block h.out⟩
theorem w_skip (h : WX Q .normal n l w) : WC P .skip Q n l w := ⟨wp_skip h.out⟩
theorem w_label {i : Nat} (h : WX Q .normal n l w) : WC P (.label i) Q n l w := ⟨wp_label h.out⟩
theorem w_ret (h : WX Q .ret n l w) : WC P .ret Q n l w := ⟨wp_ret h.out⟩
theorem w_exit {id : Nat} (h : WX Q (.exit id) n l w) : WC P (.exit id) Q n l w := ⟨wp_exit h.out⟩
theorem w_condT {c : Operand} {x y : Code} (hc : evl n l c = .bool true) (h : WC P x Q n l w) : WC P (Code.cond c x y) Q n l w := ⟨c_cond true hc h.out⟩
theorem w_condF {c : Operand} {x y : Code} (hc : evl n l c = .bool false) (h : WC P y Q n l w) : WC P (Code.cond c x y) Q n l w := ⟨c_cond false hc h.out⟩
theorem w_reg {id : Nat} {ol : List Oper} (h : WL P ol.toArray Q ol n l w) : WC P (Code.region id ol.toArray false) Q n l w := ⟨wp_region_lit h.out⟩
theorem w_nil (h : WX Q .normal n l w) : WL P ops Q [] n l w := ⟨wpList_nil h.out⟩
theorem xn_then {y : Code} {Q' : Exit → Act → World → Prop} (h : WC P y Q n l w) : WX (Exit.then (y.wp P Q) Q') .normal n l w := ⟨n_then h.out⟩
theorem xn_blk {id : Nat} (h : WX Q .normal n l w) : WX (Exit.inBlock id Q) .normal n l w := ⟨n_blk h.out⟩
theorem xx_then {next : Act → World → Prop} {id : Nat} (h : WX Q (.exit id) n l w) : WX (Exit.then next Q) (.exit id) n l w := ⟨x_then h.out⟩
theorem xx_blk {id : Nat} (h : WX Q .normal n l w) : WX (Exit.inBlock id Q) (.exit id) n l w := ⟨x_blk h.out⟩
theorem xr_then {next : Act → World → Prop} (h : WX Q .ret n l w) : WX (Exit.then next Q) .ret n l w := ⟨r_then h.out⟩
theorem xr_blk {id : Nat} (h : WX Q .ret n l w) : WX (Exit.inBlock id Q) .ret n l w := ⟨r_blk h.out⟩
theorem w_ret1 {fn : Func} {R : Ending → World → Prop} (x : ResultVar) (v : Value) (hf : fn.results = #[x]) (h : resv n l P w v x) (hR : R (.returned v) w) : WX (bodyPost P fn R) .ret n l w := ⟨c_ret1 x v hf h hR⟩
theorem w_ret2 {fn : Func} {R : Ending → World → Prop} (x y : ResultVar) (v u : Value) (hf : fn.results = #[x, y]) (h : resv n l P w v x) (g : resv n l P w u y) (hR : R (.returned (.tuple #[v, u])) w) : WX (bodyPost P fn R) .ret n l w := ⟨c_ret2 x y v u hf h g hR⟩
theorem w_loop {c : Code} (I : Nat → List (Nat × Value) → World → Prop) (m : Nat) (h0 : I m l w)
  (round : ∀ m l w, I m l w → WC P c (Exit.then (fun a w' => ∃ m' l', m' < m ∧ a = fr n l' ∧ I m' l' w') Q) n l w) : WC P (Code.loop c) Q n l w := by
 refine ⟨?_⟩
 have key : ∀ m : Nat, ∀ l w, I m l w → (Code.loop c).wp P Q (fr n l) w := by
  intro m0 l0 w0 hI0
  refine wp_loop (fun a w => ∃ m l, a = fr n l ∧ I m l w) (fun a w => Classical.epsilon (least (fun m => ∃ l, a = fr n l ∧ I m l w))) ⟨m0, l0, rfl, hI0⟩ ?_
  rintro a w ⟨m, l, rfl, hI⟩
  obtain ⟨l2, e2, hI2⟩ := (least_ok (p := fun m => ∃ l', fr n l = fr n l' ∧ I m l' w) ⟨m, l, rfl, hI⟩).1
  rw [e2]
  refine Code.wp_mono ?_ (round _ l2 w hI2).out
  intro e a' w' hq
  cases e with
  | normal =>
   obtain ⟨m', l', hlt, rfl, hI'⟩ := hq
   refine ⟨⟨m', l', rfl, hI'⟩, Nat.lt_of_le_of_lt ((least_ok (p := fun m => ∃ l'', fr n l' = fr n l'' ∧ I m l'' w') ⟨m', l', rfl, hI'⟩).2 m' ⟨l', rfl, hI'⟩) ?_⟩
   rw [← e2]; exact hlt
  | _ => exact hq
 exact key m l w h0
theorem xn_loop {I : Nat → List (Nat × Value) → World → Prop} {m : Nat} (m' : Nat) (hlt : m' < m) (h : I m' l w) : WX (Exit.then (fun a w' => ∃ m' l', m' < m ∧ a = fr n l' ∧ I m' l' w') Q) .normal n l w := ⟨⟨m', l, hlt, rfl, h⟩⟩
theorem wl_val (v : Value) (h : (execOp (evl n l) o).run P w = .ok (.value v) w) (hg : wnt n l ops o = true) (hk : WL P ops Q rest n (ext l o.dst v) w) : WL P ops Q (o :: rest) n l w :=
 ⟨l_step hg (o_val v h hk.out)⟩
theorem wo_val (v : Value) (h : (execOp (evl n l) o).run P w = .ok (.value v) w) (hk : K (fr n (ext l o.dst v)) w) : WO P o n l w K Q := ⟨o_val v h hk⟩
theorem wl_mv (x : Operand) (p : Value) (ho : ∀ ρ, execOp ρ o = pure (.value (ρ x))) (hx : evl n l x = p) (hg : wnt n l ops o = true) (hk : WL P ops Q rest n (ext l o.dst p) w) : WL P ops Q (o :: rest) n l w :=
 ⟨l_step hg (o_mv x p ho hx hk.out)⟩
theorem wo_mv (x : Operand) (p : Value) (ho : ∀ ρ, execOp ρ o = pure (.value (ρ x))) (hx : evl n l x = p) (hk : K (fr n (ext l o.dst p)) w) : WO P o n l w K Q := ⟨o_mv x p ho hx hk⟩
theorem wl_un (F : Value → Sem Value) (x : Operand) (p v : Value) (ho : ∀ ρ, execOp ρ o = (do pure (.value (← F (ρ x))))) (hx : evl n l x = p) (h : (F p).run P w = .ok v w) (hg : wnt n l ops o = true) (hk : WL P ops Q rest n (ext l o.dst v) w) : WL P ops Q (o :: rest) n l w :=
 ⟨l_step hg (o_un F x p v ho hx h hk.out)⟩
theorem wo_un (F : Value → Sem Value) (x : Operand) (p v : Value) (ho : ∀ ρ, execOp ρ o = (do pure (.value (← F (ρ x))))) (hx : evl n l x = p) (h : (F p).run P w = .ok v w) (hk : K (fr n (ext l o.dst v)) w) : WO P o n l w K Q := ⟨o_un F x p v ho hx h hk⟩
theorem wl_bin (F : Value → Value → Sem Value) (x y : Operand) (p q v : Value) (ho : ∀ ρ, execOp ρ o = (do pure (.value (← F (ρ x) (ρ y))))) (hx : evl n l x = p) (hy : evl n l y = q) (h : (F p q).run P w = .ok v w) (hg : wnt n l ops o = true) (hk : WL P ops Q rest n (ext l o.dst v) w) : WL P ops Q (o :: rest) n l w :=
 ⟨l_step hg (o_bin F x y p q v ho hx hy h hk.out)⟩
theorem wo_bin (F : Value → Value → Sem Value) (x y : Operand) (p q v : Value) (ho : ∀ ρ, execOp ρ o = (do pure (.value (← F (ρ x) (ρ y))))) (hx : evl n l x = p) (hy : evl n l y = q) (h : (F p q).run P w = .ok v w) (hk : K (fr n (ext l o.dst v)) w) : WO P o n l w K Q := ⟨o_bin F x y p q v ho hx hy h hk⟩
theorem wl_pick (c x y : Operand) (t : Bool) (v : Value) (ho : ∀ ρ, execOp ρ o = (do pure (.value (if ← asBool (ρ c) then ρ x else ρ y)))) (hc : evl n l c = .bool t) (hv : evl n l (bif t then x else y) = v) (hg : wnt n l ops o = true) (hk : WL P ops Q rest n (ext l o.dst v) w) : WL P ops Q (o :: rest) n l w :=
 ⟨l_step hg (o_pick c x y t v ho hc hv hk.out)⟩
theorem wl_build (t : TypeId) (xs : List (Nat × Operand)) (ps : List (Nat × Value)) (v : Value) (ho : o.op = .build t xs.toArray) (hx : xs.map (fun p => (p.1, evl n l p.2)) = ps) (h : (Instr.build t ps.toArray).run P w = .ok v w) (hg : wnt n l ops o = true) (hk : WL P ops Q rest n (ext l o.dst v) w) : WL P ops Q (o :: rest) n l w :=
 ⟨l_step hg (o_build t xs ps v ho hx h hk.out)⟩
theorem wo_build (t : TypeId) (xs : List (Nat × Operand)) (ps : List (Nat × Value)) (v : Value) (ho : o.op = .build t xs.toArray) (hx : xs.map (fun p => (p.1, evl n l p.2)) = ps) (h : (Instr.build t ps.toArray).run P w = .ok v w) (hk : K (fr n (ext l o.dst v)) w) : WO P o n l w K Q := ⟨o_build t xs ps v ho hx h hk⟩
theorem wl_load (ty : TypeId) (x : Operand) (p v : Value) (ho : o.op = .load ty x) (hx : evl n l x = p) (h : (Instr.loadAt ty p).run P w = .ok v w) (hg : wnt n l ops o = true) (hk : WL P ops Q rest n (ext l o.dst v) w) : WL P ops Q (o :: rest) n l w :=
 ⟨l_step hg (o_load ty x p v ho hx h hk.out)⟩
theorem wo_load (ty : TypeId) (x : Operand) (p v : Value) (ho : o.op = .load ty x) (hx : evl n l x = p) (h : (Instr.loadAt ty p).run P w = .ok v w) (hk : K (fr n (ext l o.dst v)) w) : WO P o n l w K Q := ⟨o_load ty x p v ho hx h hk⟩
theorem wl_m (x : Operand) (p : Value) (hk : WL P ops Q rest n (ext l o.dst p) w) (ho : ∀ ρ, execOp ρ o = pure (.value (ρ x)) := by exact fun _ => rfl) (hx : evl n l x = p := by rfl) (hg : wnt n l ops o = true := by rfl) : WL P ops Q (o :: rest) n l w := wl_mv x p ho hx hg hk
theorem wl_b (b : BinOp) (t : TypeId) (x y : Operand) (p q v : Value) (h : (do eqGuard b t x y p q; binOp b t p q).run P w = .ok v w) (hk : WL P ops Q rest n (ext l o.dst v) w) (ho : ∀ ρ, execOp ρ o = (do pure (.value (← (do eqGuard b t x y (ρ x) (ρ y); binOp b t (ρ x) (ρ y))))) := by exact fun _ => rfl) (hx : evl n l x = p := by rfl) (hy : evl n l y = q := by rfl) (hg : wnt n l ops o = true := by rfl) : WL P ops Q (o :: rest) n l w := wl_bin (fun u z => do eqGuard b t x y u z; binOp b t u z) x y p q v ho hx hy h hg hk
theorem wl_f (t : TypeId) (i : Nat) (x : Operand) (p v : Value) (hk : WL P ops Q rest n (ext l o.dst v) w) (h : (Instr.fieldAt t p i).run P w = .ok v w := by kernel_rfl) (ho : ∀ ρ, execOp ρ o = (do pure (.value (← Instr.fieldAt t (ρ x) i))) := by exact fun _ => rfl) (hx : evl n l x = p := by rfl) (hg : wnt n l ops o = true := by rfl) : WL P ops Q (o :: rest) n l w := wl_un (fun v => Instr.fieldAt t v i) x p v ho hx h hg hk
theorem wl_l (t : TypeId) (x : Operand) (p v : Value) (h : (Instr.loadAt t p).run P w = .ok v w) (hk : WL P ops Q rest n (ext l o.dst v) w) (ho : o.op = .load t x := by rfl) (hx : evl n l x = p := by rfl) (hg : wnt n l ops o = true := by rfl) : WL P ops Q (o :: rest) n l w := wl_load t x p v ho hx h hg hk
theorem wl_alloc (ty : TypeId) (zs : Array Value) (ho : o.op = .alloc ty) (h : ∀ w, (Instr.alloc ty true (.tuple #[])).run P w = .ok (pt w.heap.size 0) (w.alloc (.cells zs ty))) (hg : wnt n l ops o = true) (hk : ∀ k w', w.heap.size = k → w'.heap.size = k + 1 → Mw w w' → At w' k zs.toList → WL P ops Q rest n (ext l o.dst (pt k 0)) w') : WL P ops Q (o :: rest) n l w :=
 ⟨l_step hg (o_alloc ty zs ho h (fun k w' a b c d => (hk k w' a b c d).out))⟩
theorem wo_alloc (ty : TypeId) (zs : Array Value) (ho : o.op = .alloc ty) (h : ∀ w, (Instr.alloc ty true (.tuple #[])).run P w = .ok (pt w.heap.size 0) (w.alloc (.cells zs ty))) (hk : ∀ k w', w.heap.size = k → w'.heap.size = k + 1 → Mw w w' → At w' k zs.toList → K (fr n (ext l o.dst (pt k 0))) w') : WO P o n l w K Q := ⟨o_alloc ty zs ho h (fun k w' a b c d => (hk k w' a b c d))⟩
theorem wl_call (g : FuncId) (xs : List Operand) (ats : Array TypeId) (args : List Value) (v : Value) (ho : o.op = .call { callee := .value (.func g), args := xs.toArray, argTypes := ats }) (hx : xs.map (evl n l) = args) (h : ∀ args w, (callFunc g args).run P w = .ok (.enter g args) w) (hc : Calls P g args.toArray w fun e w' => e = .returned v ∧ Mw w w') (hg : wnt n l ops o = true) (hk : ∀ w', Mw w w' → WL P ops Q rest n (ext l o.dst v) w') : WL P ops Q (o :: rest) n l w :=
 ⟨l_step hg (o_call g xs ats args v ho hx h hc (fun w' m => (hk w' m).out))⟩
theorem wo_call (g : FuncId) (xs : List Operand) (ats : Array TypeId) (args : List Value) (v : Value) (ho : o.op = .call { callee := .value (.func g), args := xs.toArray, argTypes := ats }) (hx : xs.map (evl n l) = args) (h : ∀ args w, (callFunc g args).run P w = .ok (.enter g args) w) (hc : Calls P g args.toArray w fun e w' => e = .returned v ∧ Mw w w') (hk : ∀ w', Mw w w' → K (fr n (ext l o.dst v)) w') : WO P o n l w K Q := ⟨o_call g xs ats args v ho hx h hc (fun w' m => (hk w' m))⟩
theorem wl_skip (hg : wnt n l ops o = false) (h : WL P ops Q rest n (ext l o.dst undef) w) : WL P ops Q (o :: rest) n l w := ⟨l_skip hg h.out⟩
theorem wl_st (ty : TypeId) (x y : Operand) (k off : Nat) (us : Array Value) (vs vs' : List Value) (hA : At w k vs) (ho : o.op = .store ty x y) (hd : o.dst = none) (hx : evl n l x = pt k off) (hy : evl n l y = .agg us)
  (hl : Nat.ble (off + us.size) vs.length = true) (hi : (P.info? ty).map (·.size) = some us.size) (h1 : us.toList.all (·.oneCell') = true) (hvs : vs' = vs.take off ++ us.toList ++ vs.drop (off + us.toList.length)) (hg : wnt n l ops o = true)
  (hk : ∀ w', St k w w' → At w' k vs' → WL P ops Q rest n l w') : WL P ops Q (o :: rest) n l w :=
 ⟨l_step hg (o_st ty x y k off us vs vs' hA ho hd hx hy hl hi h1 hvs (fun w' a b => (hk w' a b).out))⟩
theorem wl_st1 (ty : TypeId) (x y : Operand) (k off : Nat) (v : Value) (vs vs' : List Value) (hA : At w k vs) (ho : o.op = .store ty x y) (hd : o.dst = none) (hx : evl n l x = pt k off) (hy : evl n l y = v)
  (hl : Nat.blt off vs.length = true) (hi : (P.info? ty).map (·.size) = some 1) (hv : v.cells = #[v]) (h1 : v.oneCell' = true) (hvs : vs' = vs.take off ++ [v] ++ vs.drop (off + 1)) (hg : wnt n l ops o = true)
  (hk : ∀ w', St k w w' → At w' k vs' → WL P ops Q rest n l w') : WL P ops Q (o :: rest) n l w :=
 ⟨l_step hg (o_st1 ty x y k off v vs vs' hA ho hd hx hy hl hi hv h1 hvs (fun w' a b => (hk w' a b).out))⟩
structure Go1 (P : Program) (ops : List Oper) (Q : Exit → Act → World → Prop) (n : Nat) (l : List (Nat × Value)) (w : World) (K : Act → World → Prop) (o : Oper) : Prop where
 out : (wnt n l ops.toArray o = true ∧ WO P o n l w K Q) ∨ (wnt n l ops.toArray o = false ∧ K (fr n (ext l o.dst undef)) w)
theorem go_run {ol : List Oper} (hg : wnt n l ol.toArray o = true) (h : WO P o n l w K Q) : Go1 P ol Q n l w K o := ⟨Or.inl ⟨hg, h⟩⟩
structure OgW (P : Program) (ops : List Oper) (Q : Exit → Act → World → Prop) (n : Nat) (l : List (Nat × Value)) (m : Nat) (W : World) (sp : List Sp) (i : Nat) (o : Oper) : Prop where
 out : ∀ f w, Mw W w → (∀ j, depb o j = true → spDen W.heap.size (spAt sp j) (f j) w) → ∀ K : Act → World → Prop,
  (match spAt sp i with
   | .inl v => ∀ w', Mw w w' → K (fr n (ext (asg f 0 (ops.take m) l) o.dst v)) w'
   | .inr zs => ∀ k w', w.heap.size = k → w'.heap.size = k + 1 → Mw w w' → At w' k zs → K (fr n (ext (asg f 0 (ops.take m) l) o.dst (pt k 0))) w') →
  Go1 P ops Q n (asg f 0 (ops.take m) l) w K o
theorem og_eq {ol : List Oper} {m : Nat} {W : World} {sp : List Sp} {i : Nat} (v : Value) (hs : spAt sp i = .inl v)
  (h : ∀ f w, Mw W w → (∀ j, depb o j = true → spDen W.heap.size (spAt sp j) (f j) w) → ∀ K : Act → World → Prop, (∀ w', Mw w w' → K (fr n (ext (asg f 0 (ol.take m) l) o.dst v)) w') → Go1 P ol Q n (asg f 0 (ol.take m) l) w K o) : OgW P ol Q n l m W sp i o :=
 ⟨fun f w hm hd K hK => h f w hm hd K (by rw [hs] at hK; exact hK)⟩
theorem og_new {ol : List Oper} {m : Nat} {W : World} {sp : List Sp} {i : Nat} (zs : List Value) (hs : spAt sp i = .inr zs)
  (h : ∀ f w, Mw W w → (∀ j, depb o j = true → spDen W.heap.size (spAt sp j) (f j) w) → ∀ K : Act → World → Prop, (∀ k w', w.heap.size = k → w'.heap.size = k + 1 → Mw w w' → At w' k zs → K (fr n (ext (asg f 0 (ol.take m) l) o.dst (pt k 0))) w') → Go1 P ol Q n (asg f 0 (ol.take m) l) w K o) : OgW P ol Q n l m W sp i o :=
 ⟨fun f w hm hd K hK => h f w hm hd K (by rw [hs] at hK; exact hK)⟩
theorem ea_nil {F : Nat → Oper → Prop} {i : Nat} : Each F i [] := trivial
theorem ea_cons {F : Nat → Oper → Prop} {i : Nat} {o : Oper} {r : List Oper} (h : F i o) (k : Each F (i + 1) r) : Each F i (o :: r) := ⟨h, k⟩
def slo (n : Nat) (l : List (Nat × Value)) (ops : List Oper) (i : Nat) : Value :=
 match (ops[i]?).bind (·.dst) with
 | some d => bif Nat.blt d n then look l d else undef
 | none => undef
theorem slo_eq (ops : List Oper) : slots (fr n l) ops.toArray = slo n l ops := by
 funext i
 unfold slots slo
 simp only [List.getElem?_toArray]
 cases (ops[i]?).bind (·.dst) with
 | none => rfl
 | some d => exact fr_getD n l d
def isPt : Value → Bool
 | .pointer (some _) => true
 | _ => false
theorem Ds.start {sp : List Sp} {f : Nat → Value} (h : (List.range sp.length).all (fun j => !spNew (spAt sp j) || !isPt (f j)) = true) : Ds sp f w := by
 have hh : ∀ j, spNew (spAt sp j) = true → ∀ k, f j ≠ pt k 0 := fun j hj k e => by
  rcases Nat.lt_or_ge j sp.length with hl | hl
  ·have := List.all_eq_true.1 h j (List.mem_range.2 hl)
   simp [hj, e, isPt] at this
  ·unfold spAt at hj; rw [List.getElem?_eq_none hl] at hj; cases hj
 exact ⟨fun j hj k hk => (hh j hj k hk).elim, fun i j hi _ _ k hk => (hh i hi k hk).elim⟩
theorem la_un (F : Value → Sem Value) (x : Operand) (p v : Value) (ho : ∀ ρ, execOp ρ o = (do pure (.value (← F (ρ x))))) (hx : evl n l x = p) (h : ∀ w, (F p).run P w = .ok v w) : ∀ w, (execOp (evl n l) o).run P w = .ok (.value v) w := fun w => by
 rw [ho, hx]; simp [h]
theorem late_nil {ol : List Oper} {m : Nat} {sp : List Sp} : ∀ i, i ∈ ([] : List Nat) → LateO P ol Q n l m sp i := fun i h => absurd h (by simp)
theorem late_cons {ol : List Oper} {m : Nat} {sp : List Sp} {j : Nat} {r : List Nat} (h : LateO P ol Q n l m sp j) (k : ∀ i, i ∈ r → LateO P ol Q n l m sp i) : ∀ i, i ∈ j :: r → LateO P ol Q n l m sp i := fun i hi => by
 rcases List.mem_cons.1 hi with rfl | hi
 ·exact h
 ·exact k i hi
theorem w_any {id : Nat} {ol : List Oper} (m : Nat) (sp : List Sp) (fs : List Nat) (hm : P.follows .mixedOrders = true)
  (hb : edgesBack .any ol.toArray = true) (hd : dstsApart (ol.take m) = true) (hc : chainB ol m fs = true) (hl : Nat.ble m ol.length = true) (hf : floatB ol m fs = true) (hns : Region.noSelect ol.toArray = true)
  (hlate : ∀ i, i ∈ fs → LateO P ol Q n l m sp i)
  (hD : Ds sp (slo n l (ol.take m)) w)
  (hs : Each (OgW P ol Q n l m w sp) 0 (ol.take m))
  (hend : ∀ kf w', Mw w w' → (∀ i zs, Nat.blt i m = true → spAt sp i = .inr zs → w.heap.size ≤ kf i ∧ At w' (kf i) zs) → (∀ i j, Nat.blt i m = true → Nat.blt j m = true → spNew (spAt sp i) = true → spNew (spAt sp j) = true → i ≠ j → kf i ≠ kf j) →
   WL P ol.toArray Q (ol.drop m) n (asg (spv sp kf) 0 (ol.take m) l) w') : WC P (Code.region id ol.toArray true) Q n l w := by
 refine ⟨r_any m sp fs hm hb hd hc hl hf hns hlate (by rw [slo_eq]; exact hD) (Each.mono ?_ _ 0 hs) (fun kf w' a b c => (hend kf w' a b c).out)⟩
 intro i o h f w' hmo hdep K hK
 rcases (h.out f w' hmo hdep K hK).out with ⟨hg, h⟩ | ⟨hg, h⟩
 ·exact ct hg h.out
 ·exact cf hg h
end
end Go.Proofs.YthgknegocfhdbaaDoor.V

/-
 withPoint as a function of lists; strings.Cut, withoutZeros, isDecimal.
-/
namespace Go.Proofs.YthgknegocfhdbaaDoor
open Go.RowKit Go.Lib
theorem tx_of (x : ByteArray) : Value.string x = tx (by8 x) := rfl
theorem by8_app (a b : ByteArray) : by8 (a ++ b) = by8 a ++ by8 b := by simp [by8]
theorem by8_ext (a : ByteArray) (i j : Nat) : by8 (a.extract i j) = ((by8 a).drop i).take (j - i) := by simp [by8, ByteArray.data_extract]
theorem by8_len (a : ByteArray) : (by8 a).length = a.size := (Lib.size_eq a).symm
theorem cut_n (s : ByteArray) (c : UInt8) (w : World) (hs : s.size ≤ maxLen) : Calls Tryd.prog 60 #[.string s, .string ⟨#[c]⟩] w fun e w' =>
  e = .returned (.tuple #[tx (Lib.cut (by8 s) [c]).1, tx (Lib.cut (by8 s) [c]).2.1, .bool (Lib.cut (by8 s) [c]).2.2]) ∧ Mo w w' := by
 have h := cut51 s c
 generalize (Lib.cut (by8 s) [c]).1 = x1 at *
 generalize (Lib.cut (by8 s) [c]).2.1 = x2 at *
 generalize (Lib.cut (by8 s) [c]).2.2 = x3 at *
 go_enter Tryd.func60, Tryd.ntmps60
 go_wp2_with (go_at_call 70; refine (h _ hs).mono ?_; rintro e w' ⟨rfl, hm⟩)
 go_ret3
 exact ⟨rfl, hm⟩
def woz (l : List UInt8) : List UInt8 := if l.dropWhile (· == 48) = [] then [48] else l.dropWhile (· == 48)
theorem withoutZeros_n (s : ByteArray) (w : World) : Calls Tryd.prog 62 #[.string s] w fun e w' => e = .returned (tx (woz (by8 s))) ∧ Mo w w' := by
 have h := Tryd.strings_TrimLeft_one s 48 (by decide)
 unfold woz
 have e : Lib.trimLeftB s.data.toList 48 = (by8 s).dropWhile (· == 48) := rfl
 rw [e] at h
 generalize (by8 s).dropWhile (· == 48) = y at *
 clear e
 cases y with
 | nil =>
  go_enter Tryd.func62, Tryd.ntmps62
  go_wp2_with (go_at_call 73; refine (h _).mono ?_; rintro e w' ⟨rfl, rfl⟩)
  go_ret
  exact ⟨rfl, Mo.refl _⟩
 | cons a r =>
  rw [if_neg (by simp)]
  unfold tx
  have hne : (⟨(a :: r).toArray⟩ : ByteArray).toList.isEmpty = false := by rw [ByteArray.toList_eq]; rfl
  generalize (⟨(a :: r).toArray⟩ : ByteArray) = q at *
  go_enter Tryd.func62, Tryd.ntmps62
  go_wp2_with (go_at_call 73; refine (h _).mono ?_; rintro e w' ⟨rfl, rfl⟩)
  go_ret
  exact ⟨rfl, Mo.refl _⟩
end Go.Proofs.YthgknegocfhdbaaDoor

/-
 Numbers by their digits to the base 2^32: plain arithmetic, no program in sight.
-/
namespace Go.Proofs.YthgknegocfhdbaaDoor

def dg (V : Int) (j : Nat) : Int := V / 2 ^ (32 * j) % 4294967296
theorem dg_bd (V : Int) (j : Nat) : 0 ≤ dg V j ∧ dg V j < 4294967296 := by unfold dg; omega
theorem pp (n : Nat) : (0 : Int) < 2 ^ n := Int.pow_pos (by decide)
theorem p32 (j : Nat) : (2 : Int) ^ (32 * (j + 1)) = 2 ^ (32 * j) * 4294967296 := by
 rw [Nat.mul_add, Int.pow_add]; rfl
theorem dg_set {W n : Int} {j : Nat} (hn0 : 0 ≤ n) (hn : n < 4294967296) (m : Nat) :
  dg (W + (n - dg W j) * 2 ^ (32 * j)) m = if m = j then n else dg W m := by
 have hP := pp (32 * j)
 have e1 : (W + (n - dg W j) * 2 ^ (32 * j)) / 2 ^ (32 * j) = W / 2 ^ (32 * j) + (n - dg W j) := Int.add_mul_ediv_right _ _ (by omega)
 rcases Nat.lt_trichotomy m j with h | h | h
 ·rw [if_neg (by omega)]
  obtain ⟨t, rfl⟩ : ∃ t, j = m + 1 + t := ⟨j - (m + 1), by omega⟩
  have e2 : (2 : Int) ^ (32 * (m + 1 + t)) = 4294967296 * 2 ^ (32 * t) * 2 ^ (32 * m) := by
   rw [Nat.mul_add, Int.pow_add, p32, Int.mul_comm (2 ^ (32 * m)), Int.mul_assoc, Int.mul_assoc, Int.mul_comm (2 ^ (32 * m))]
  generalize hc : n - dg W (m + 1 + t) = c
  have hQ := pp (32 * m)
  unfold dg
  rw [e2, ← Int.mul_assoc, Int.add_mul_ediv_right _ _ (by omega), Int.mul_comm 4294967296, ← Int.mul_assoc, Int.add_mul_emod_self_right]
 ·subst h
  rw [if_pos rfl]
  unfold dg at e1 ⊢
  rw [e1]
  omega
 ·rw [if_neg (by omega)]
  obtain ⟨t, rfl⟩ : ∃ t, m = j + 1 + t := ⟨m - (j + 1), by omega⟩
  have e2 : (2 : Int) ^ (32 * (j + 1 + t)) = 2 ^ (32 * j) * 4294967296 * 2 ^ (32 * t) := by
   rw [Nat.mul_add, Int.pow_add, p32]
  have e3 : (W / 2 ^ (32 * j) + (n - dg W j)) / 4294967296 = W / 2 ^ (32 * j) / 4294967296 := by unfold dg; omega
  have hd : ∀ x : Int, x / 2 ^ (32 * (j + 1 + t)) = x / 2 ^ (32 * j) / 4294967296 / 2 ^ (32 * t) := by
   intro x
   rw [e2, ← Int.ediv_ediv_of_nonneg (by omega), ← Int.ediv_ediv_of_nonneg (by omega)]
  rw [dg, hd, e1, e3, ← hd, ← dg]
theorem dg_high {W : Int} {j M : Nat} (h0 : 0 ≤ W) (h : W < 2 ^ (32 * M)) (hj : M ≤ j) : dg W j = 0 := by
 obtain ⟨t, rfl⟩ : ∃ t, j = M + t := ⟨j - M, by omega⟩
 have e : W / 2 ^ (32 * (M + t)) = 0 := by
  apply Int.ediv_eq_zero_of_lt h0
  rw [Nat.mul_add, Int.pow_add]
  have h1 := pp (32 * t)
  have h2 : 2 ^ (32 * M) * 1 ≤ (2 : Int) ^ (32 * M) * 2 ^ (32 * t) := Int.mul_le_mul_of_nonneg_left (by omega) (by omega)
  omega
 unfold dg
 rw [e]
 rfl

theorem inner {W c V x B : Int} {i k : Nat} (h : W + c * 2 ^ (32 * (i + k)) = V + x * 2 ^ (32 * i) * (B % 2 ^ (32 * k))) :
  (W + ((dg W (i + k) + x * dg B k + c) % 4294967296 - dg W (i + k)) * 2 ^ (32 * (i + k))) + (dg W (i + k) + x * dg B k + c) / 4294967296 * 2 ^ (32 * (i + (k + 1))) = V + x * 2 ^ (32 * i) * (B % 2 ^ (32 * (k + 1))) := by
 have e1 : (2 : Int) ^ (32 * (i + (k + 1))) = 2 ^ (32 * (i + k)) * 4294967296 := p32 (i + k)
 have e2 : B % 2 ^ (32 * (k + 1)) = B % 2 ^ (32 * k) + 2 ^ (32 * k) * dg B k := by
  have hP := pp (32 * k)
  rw [p32, dg, Int.emod_def B (2 ^ (32 * k) * 4294967296), Int.emod_def B (2 ^ (32 * k)), Int.emod_def _ 4294967296, ← Int.ediv_ediv_of_nonneg (by omega)]
  generalize (2 : Int) ^ (32 * k) = P
  generalize B / P = u
  rw [Int.mul_sub, Int.mul_assoc]
  omega
 have e3 : (2 : Int) ^ (32 * (i + k)) = 2 ^ (32 * i) * 2 ^ (32 * k) := by rw [Nat.mul_add, Int.pow_add]
 generalize hs : dg W (i + k) + x * dg B k + c = s at *
 have hs2 : s = s % 4294967296 + 4294967296 * (s / 4294967296) := by omega
 generalize hq : s / 4294967296 = q at *
 generalize hr : s % 4294967296 = r at *
 rw [e1, e2]
 rw [e3] at h ⊢
 generalize (2 : Int) ^ (32 * i) = P at *
 generalize (2 : Int) ^ (32 * k) = Q at *
 have hr2 : r = dg W (i + k) + x * dg B k + c - 4294967296 * q := by omega
 rw [hr2]
 generalize dg W (i + k) = d at *
 generalize dg B k = b at *
 generalize B % Q = m at *
 grind

theorem dg_set_bd {W n : Int} {j M : Nat} (h0 : 0 ≤ W) (h : W < 2 ^ (32 * M)) (hj : j < M) (hn0 : 0 ≤ n) (hn : n < 4294967296) :
  0 ≤ W + (n - dg W j) * 2 ^ (32 * j) ∧ W + (n - dg W j) * 2 ^ (32 * j) < 2 ^ (32 * M) := by
 obtain ⟨t, rfl⟩ : ∃ t, M = j + 1 + t := ⟨M - (j + 1), by omega⟩
 have hP := pp (32 * j)
 have hR := pp (32 * t)
 rw [Nat.mul_add, Int.pow_add, p32] at h ⊢
 have e1 : W = 2 ^ (32 * j) * (4294967296 * (W / 2 ^ (32 * j) / 4294967296) + dg W j) + W % 2 ^ (32 * j) := by
  rw [show 4294967296 * (W / 2 ^ (32 * j) / 4294967296) + dg W j = W / 2 ^ (32 * j) from by unfold dg; omega]
  exact (Int.mul_ediv_add_emod W (2 ^ (32 * j))).symm
 have e2 := Int.emod_nonneg W (show (2 : Int) ^ (32 * j) ≠ 0 by omega)
 have e3 := Int.emod_lt_of_pos W hP
 have e4 : 0 ≤ W / 2 ^ (32 * j) / 4294967296 := by
  have := Int.ediv_nonneg h0 (show (0 : Int) ≤ 2 ^ (32 * j) by omega)
  omega
 have e5 : W / 2 ^ (32 * j) / 4294967296 < 2 ^ (32 * t) := by
  rw [Int.ediv_ediv_of_nonneg (by omega)]
  apply Int.ediv_lt_of_lt_mul (by omega)
  rw [Int.mul_comm]
  exact h
 have e6 := dg_bd W j
 generalize dg W j = d at *
 generalize W / 2 ^ (32 * j) / 4294967296 = H at *
 generalize W % 2 ^ (32 * j) = L at *
 generalize (2 : Int) ^ (32 * j) = P at *
 generalize (2 : Int) ^ (32 * t) = R at *
 have e7 : W + (n - d) * P = P * (4294967296 * H + n) + L := by grind
 rw [e7]
 constructor
 ·have := Int.mul_nonneg (show 0 ≤ P by omega) (show 0 ≤ 4294967296 * H + n by omega)
  omega
 ·have a1 : P * (4294967296 * H + n) ≤ P * (4294967296 * R - 1) := Int.mul_le_mul_of_nonneg_left (by omega) (by omega)
  have a2 : P * (4294967296 * R - 1) = P * 4294967296 * R - P := by grind
  omega
theorem carry_bd {d x b c : Int} (hd : 0 ≤ d ∧ d < 4294967296) (hx : 0 ≤ x ∧ x < 4294967296) (hb : 0 ≤ b ∧ b < 4294967296) (hc : 0 ≤ c ∧ c < 4294967296) :
  0 ≤ x * b ∧ x * b ≤ 18446744065119617025 ∧ 0 ≤ d + x * b + c ∧ d + x * b + c < 18446744073709551616 := by
 have h1 := Int.mul_nonneg hx.1 hb.1
 have h2 : x * b ≤ 4294967295 * 4294967295 := Int.mul_le_mul (by omega) (by omega) hb.1 (by decide)
 omega

def vi (A B : Int) (i : Nat) : Int := A % 2 ^ (32 * i) * B
theorem vi_zero (A B : Int) : vi A B 0 = 0 := by
 have : A % 1 = 0 := by omega
 simp [vi, this]
theorem mod_succ (A : Int) (i : Nat) : A % 2 ^ (32 * (i + 1)) = A % 2 ^ (32 * i) + 2 ^ (32 * i) * dg A i := by
 have hP := pp (32 * i)
 rw [p32, dg, Int.emod_def A (2 ^ (32 * i) * 4294967296), Int.emod_def A (2 ^ (32 * i)), Int.emod_def _ 4294967296, ← Int.ediv_ediv_of_nonneg (by omega)]
 generalize (2 : Int) ^ (32 * i) = P
 generalize A / P = u
 rw [Int.mul_sub, Int.mul_assoc]
 omega
theorem vi_succ (A B : Int) (i : Nat) : vi A B (i + 1) = vi A B i + dg A i * 2 ^ (32 * i) * B := by
 unfold vi
 rw [mod_succ, Int.add_mul, Int.mul_comm (2 ^ (32 * i)) (dg A i)]
theorem vi_bd {A B : Int} (i : Nat) (hB0 : 0 ≤ B) (hB : B < 2 ^ (32 * 8)) : 0 ≤ vi A B i ∧ vi A B i < 2 ^ (32 * (i + 8)) := by
 have hP := pp (32 * i)
 have e2 := Int.emod_nonneg A (show (2 : Int) ^ (32 * i) ≠ 0 by omega)
 have e3 := Int.emod_lt_of_pos A hP
 unfold vi
 refine ⟨Int.mul_nonneg e2 hB0, ?_⟩
 rw [Nat.mul_add, Int.pow_add]
 refine Int.lt_of_le_of_lt (Int.mul_le_mul_of_nonneg_right (Int.le_of_lt e3) hB0) ?_
 exact Int.mul_lt_mul_of_pos_left hB hP
theorem vi_last {A B : Int} (h0 : 0 ≤ A) (h : A < 2 ^ (32 * 8)) : vi A B 8 = A * B := by
 unfold vi; rw [Int.emod_eq_of_lt h0 h]
theorem mod_last {B : Int} (h0 : 0 ≤ B) (h : B < 2 ^ (32 * 8)) : B % 2 ^ (32 * 8) = B := Int.emod_eq_of_lt h0 h
theorem outer {W c : Int} {i : Nat} (h0 : 0 ≤ W) (h : W < 2 ^ (32 * (i + 8))) :
  W + (c - dg W (i + 8)) * 2 ^ (32 * (i + 8)) = W + c * 2 ^ (32 * (i + 8)) := by
 rw [dg_high h0 h (Nat.le_refl _), Int.sub_zero]
theorem inner0 (W V x B : Int) (i : Nat) (h : W = V) : W + 0 * 2 ^ (32 * (i + 0)) = V + x * 2 ^ (32 * i) * (B % 2 ^ (32 * 0)) := by
 have : B % 1 = 0 := by omega
 simp [this, h]
end Go.Proofs.YthgknegocfhdbaaDoor

/-
 The document's half, a digit to the base 2^32, whatever the number: the walk.
-/
namespace Go.Proofs.YthgknegocfhdbaaDoor
open Go.RowKit
set_option maxHeartbeats 1000000 in
theorem half_any (n : Int) (i : Nat) (w : World) (hi : i < 8) :
  Calls Tryd.prog 74 #[nv n, .int .i64 (i : Int)] w fun e w' => e = .returned (.int .u64 (dg n i)) ∧ Mo w w' := by
 have fin : ∀ (r : Int) (w' : World), r = dg n i → Mo w w' → (Ending.returned (.int .u64 r) = .returned (.int .u64 (dg n i)) ∧ Mo w w') := fun r w' h m => ⟨by rw [h], m⟩
 have hq : i = 0 ∨ i = 1 ∨ i = 2 ∨ i = 3 ∨ i = 4 ∨ i = 5 ∨ i = 6 ∨ i = 7 := by omega
 rcases hq with rfl | rfl | rfl | rfl | rfl | rfl | rfl | rfl
 all_goals
  go_enter Tryd.func74, Tryd.ntmps74
  go_wp2
  go_ret
  refine fin _ _ ?_ ((Mo.refl _).alloc _ _)
  simp [dg, l0, l1, l2, l3]
  rw [Int.tmod_eq_emod_of_nonneg (by omega)]
  omega
end Go.Proofs.YthgknegocfhdbaaDoor

/-
 Plain arithmetic of bits: how many a number has, and which.
-/
namespace Go.Proofs.YthgknegocfhdbaaDoor
theorem div_pow_split (n : Int) (i j : Nat) : n / 2 ^ (i + j) = n / 2 ^ i / 2 ^ j := by
 rw [Int.pow_add, Int.ediv_ediv_of_nonneg (Int.le_of_lt (Int.pow_pos (by decide)))]
end Go.Proofs.YthgknegocfhdbaaDoor

/-
 limb.Div: the worlds of the call, and the arithmetic of its four steps.
-/
namespace Go.Proofs.YthgknegocfhdbaaDoor
open Go.RowKit
def AtN (w : World) (k : Nat) (n : Int) : Prop := At4 w k (l0 n) (l1 n) (l2 n) (l3 n) ∧ Fz w k ∧ k < w.heap.size
abbrev st4 (w : World) (k : Nat) (z : Int) : World := (((w.setCell ⟨k, 0, none⟩ (.int .u64 (l0 z))).setCell ⟨k, 1, none⟩ (.int .u64 (l1 z))).setCell ⟨k, 2, none⟩ (.int .u64 (l2 z))).setCell ⟨k, 3, none⟩ (.int .u64 (l3 z))
theorem AtN.mo {w w' : World} {k : Nat} {n : Int} (h : AtN w k n) (m : Mo w w') : AtN w' k n :=
 ⟨h.1.mo m h.2.2, h.2.1.mo m, Nat.lt_of_lt_of_le h.2.2 m.size⟩
theorem AtN.same {w : World} {k : Nat} {n : Int} (h : AtN w k n) (z : Int) : AtN (st4 w k z) k z := by
 obtain ⟨⟨b0, b1, b2, b3⟩, f, s⟩ := h
 refine ⟨by simp [At4, go_sem, *], fun o => by simp [World.frozen?_setCell, f o], by simpa [World.setCell] using s⟩
theorem AtN.other {w : World} {k j : Nat} {n : Int} (h : AtN w j n) (hk : j ≠ k) (z : Int) : AtN (st4 w k z) j n := by
 obtain ⟨⟨b0, b1, b2, b3⟩, f, s⟩ := h
 refine ⟨by simp [At4, go_sem, *], fun o => by simp [World.frozen?_setCell, f o], by simpa [World.setCell] using s⟩
theorem AtN.new (w : World) (n : Int) : AtN (w.alloc (.cells #[.int .u64 (l0 n), .int .u64 (l1 n), .int .u64 (l2 n), .int .u64 (l3 n)] 31)) w.heap.size n :=
 ⟨by simp [At4, go_sem], fun o => by simp [go_sem], by simp⟩
theorem Mo.st4 {a b : World} (h : Mo a b) {k : Nat} (hk : a.heap.size ≤ k) (z : Int) : Mo a (st4 b k z) :=
 (((h.setCell hk _).setCell hk _).setCell hk _).setCell hk _
end Go.Proofs.YthgknegocfhdbaaDoor

/-
 The document's Mul, whatever the numbers: the walk.
-/
namespace Go.Proofs.YthgknegocfhdbaaDoor
open Go.RowKit
def D16 (w : World) (k : Nat) (W : Int) : Prop := (∀ j, j < 16 → w.cell? ⟨k, j, none⟩ = some (.int .u64 (dg W j))) ∧ Fz w k ∧ k < w.heap.size
theorem D16.mo {w w' : World} {k : Nat} {W : Int} (h : D16 w k W) (m : Mo w w') : D16 w' k W :=
 ⟨fun j hj => (m.cell k j h.2.2).trans (h.1 j hj), h.2.1.mo m, by have := m.size; have := h.2.2; omega⟩
theorem D16.set {w : World} {k : Nat} {W n : Int} (h : D16 w k W) {j : Nat} (hj : j < 16) (hn0 : 0 ≤ n) (hn : n < 4294967296) :
  D16 (w.setCell ⟨k, j, none⟩ (.int .u64 n)) k (W + (n - dg W j) * 2 ^ (32 * j)) := by
 obtain ⟨h1, h2, h3⟩ := h
 refine ⟨fun m hm => ?_, fun o => by simp [World.frozen?_setCell, h2 o], by simpa [World.setCell] using h3⟩
 rw [dg_set hn0 hn]
 have e := h1 m hm
 by_cases hmj : m = j
 ·subst hmj
  simp [go_sem, e]
 ·simp [go_sem, e, hmj]
def RM (w wx : World) (a b W : Int) : Prop := Mo w wx ∧ AtN wx w.heap.size a ∧ AtN wx (w.heap.size + 1) b ∧ AtN wx (w.heap.size + 1 + 1) 0 ∧ AtN wx (w.heap.size + 1 + 1 + 1) 0 ∧ D16 wx (w.heap.size + 1 + 1 + 1 + 1) W
theorem RM.mo {w wx w1 : World} {a b W : Int} (v : RM w wx a b W) (m : Mo wx w1) : RM w w1 a b W := by
 obtain ⟨h1, h2, h3, h4, h5, h6⟩ := v
 exact ⟨h1.trans m, h2.mo m, h3.mo m, h4.mo m, h5.mo m, h6.mo m⟩
theorem AtN.set1 {w : World} {k j : Nat} {n : Int} (h : AtN w j n) (hk : j ≠ k) (o : Nat) (v : Value) : AtN (w.setCell ⟨k, o, none⟩ v) j n := by
 obtain ⟨⟨b0, b1, b2, b3⟩, f, s⟩ := h
 refine ⟨by simp [At4, go_sem, *], fun o => by simp [World.frozen?_setCell, f o], by simpa [World.setCell] using s⟩
theorem RM.put {w wx : World} {a b W n : Int} (v : RM w wx a b W) {j : Nat} (hj : j < 16) (hn0 : 0 ≤ n) (hn : n < 4294967296) :
  RM w (wx.setCell ⟨w.heap.size + 1 + 1 + 1 + 1, j, none⟩ (.int .u64 n)) a b (W + (n - dg W j) * 2 ^ (32 * j)) := by
 obtain ⟨h1, h2, h3, h4, h5, h6⟩ := v
 exact ⟨h1.setCell (by show w.heap.size ≤ w.heap.size + 1 + 1 + 1 + 1; omega) _, h2.set1 (by omega) _ _, h3.set1 (by omega) _ _, h4.set1 (by omega) _ _, h5.set1 (by omega) _ _, h6.set hj hn0 hn⟩
def Z16 : Array Value := #[.int .u64 0, .int .u64 0, .int .u64 0, .int .u64 0, .int .u64 0, .int .u64 0, .int .u64 0, .int .u64 0, .int .u64 0, .int .u64 0, .int .u64 0, .int .u64 0, .int .u64 0, .int .u64 0, .int .u64 0, .int .u64 0]
theorem z62 (w : World) : (zeroValue 93).run Tryd.prog w = .ok (.agg Z16) w := by kernel_rfl
theorem AtN.al {w : World} {k : Nat} {n : Int} (h : AtN w k n) {x : Array Value} {t : TypeId} : AtN (w.alloc (.cells x t)) k n := h.mo ((Mo.refl _).alloc _ _)
theorem AtN.at (w : World) (n : Int) {k : Nat} (h : k = w.heap.size) : AtN (w.alloc (.cells #[.int .u64 (l0 n), .int .u64 (l1 n), .int .u64 (l2 n), .int .u64 (l3 n)] 31)) k n := by subst h; exact AtN.new w n
theorem AtN.zero (w : World) : AtN (w.alloc (.cells #[.int .u64 0, .int .u64 0, .int .u64 0, .int .u64 0] 31)) w.heap.size 0 := AtN.new w 0
theorem RM.start (w : World) (a b : Int) : RM w (((((w.alloc (.cells #[.int .u64 (l0 a), .int .u64 (l1 a), .int .u64 (l2 a), .int .u64 (l3 a)] 31)).alloc (.cells #[.int .u64 (l0 b), .int .u64 (l1 b), .int .u64 (l2 b), .int .u64 (l3 b)] 31)).alloc (.cells #[.int .u64 0, .int .u64 0, .int .u64 0, .int .u64 0] 31)).alloc (.cells #[.int .u64 0, .int .u64 0, .int .u64 0, .int .u64 0] 31)).alloc (.cells Z16 93)) a b 0 := by
 refine ⟨by repeat (first | exact Mo.refl _ | with_reducible apply Mo.alloc), (AtN.at _ _ rfl).al.al.al.al, (AtN.at _ _ (by simp)).al.al.al, (AtN.at _ 0 (by simp)).al.al, (AtN.at _ 0 (by simp)).al, ?_, fun o => by simp [go_sem], by simp⟩
 intro j hj
 have h : Z16[j]? = some (.int .u64 (dg 0 j)) := by
  have e : dg 0 j = 0 := by simp [dg]
  rw [e]
  unfold Z16
  have hq : j = 0 ∨ j = 1 ∨ j = 2 ∨ j = 3 ∨ j = 4 ∨ j = 5 ∨ j = 6 ∨ j = 7 ∨ j = 8 ∨ j = 9 ∨ j = 10 ∨ j = 11 ∨ j = 12 ∨ j = 13 ∨ j = 14 ∨ j = 15 := by omega
  rcases hq with rfl | rfl | rfl | rfl | rfl | rfl | rfl | rfl | rfl | rfl | rfl | rfl | rfl | rfl | rfl | rfl <;> rfl
 simp [go_sem, h]

def H4 (w : World) (k : Nat) (n : Int) (i : Nat) : Prop := At4 w k (if 0 < i then l0 n else 0) (if 1 < i then l1 n else 0) (if 2 < i then l2 n else 0) (if 3 < i then l3 n else 0) ∧ Fz w k ∧ k < w.heap.size
def LH (w wx : World) (k : Nat) (a b P : Int) (i : Nat) : Prop := RM w wx a b P ∧ H4 wx k (P / MM) i ∧ H4 wx (k + 1) P i
theorem LH.start {w wr : World} {a b P : Int} (h : RM w wr a b P) : LH w ((wr.alloc (.cells #[.int .u64 0, .int .u64 0, .int .u64 0, .int .u64 0] 31)).alloc (.cells #[.int .u64 0, .int .u64 0, .int .u64 0, .int .u64 0] 31)) wr.heap.size a b P 0 := by
 refine ⟨h.mo (((Mo.refl _).alloc _ _).alloc _ _), ⟨by simp [At4, go_sem], fun o => by simp [go_sem], by simp <;> omega⟩, ⟨by simp [At4, go_sem], fun o => by simp [go_sem], by simp⟩⟩
theorem dg_up (P : Int) (j : Nat) : dg P (8 + j) = dg (P / MM) j := by
 unfold dg
 rw [Nat.mul_add, div_pow_split]
 rfl
theorem H4.put {w : World} {k : Nat} {n : Int} {i i' : Nat} {o : Nat} {v : Int} (h : H4 w k n i) (e : At4 (w.setCell ⟨k, o, none⟩ (.int .u64 v)) k (if 0 < i' then l0 n else 0) (if 1 < i' then l1 n else 0) (if 2 < i' then l2 n else 0) (if 3 < i' then l3 n else 0)) : H4 (w.setCell ⟨k, o, none⟩ (.int .u64 v)) k n i' :=
 ⟨e, fun o => by simp [World.frozen?_setCell, h.2.1 o], by simpa [World.setCell] using h.2.2⟩
theorem H4.set1 {w : World} {k j : Nat} {n : Int} {i : Nat} (h : H4 w k n i) (hk : k ≠ j) (o : Nat) (v : Value) : H4 (w.setCell ⟨j, o, none⟩ v) k n i := by
 obtain ⟨⟨b0, b1, b2, b3⟩, f, s⟩ := h
 refine ⟨by simp [At4, go_sem, *], fun o => by simp [World.frozen?_setCell, f o], by simpa [World.setCell] using s⟩
theorem RM.set1 {w wx : World} {a b W : Int} (h : RM w wx a b W) {k : Nat} (hk : w.heap.size + 1 + 1 + 1 + 1 < k) (o : Nat) (v : Value) : RM w (wx.setCell ⟨k, o, none⟩ v) a b W := by
 obtain ⟨h1, h2, h3, h4, h5, ⟨d, f, s⟩⟩ := h
 refine ⟨h1.setCell (by show w.heap.size ≤ k; omega) _, h2.set1 (by omega) _ _, h3.set1 (by omega) _ _, h4.set1 (by omega) _ _, h5.set1 (by omega) _ _, ⟨fun j hj => ?_, fun o => by simp [World.frozen?_setCell, f o], by simpa [World.setCell] using s⟩⟩
 have e := d j hj
 simp [go_sem, e]
theorem H4.mo {w w' : World} {k : Nat} {n : Int} {i : Nat} (h : H4 w k n i) (m : Mo w w') : H4 w' k n i :=
 ⟨h.1.mo m h.2.2, h.2.1.mo m, by have := m.size; have := h.2.2; omega⟩
theorem LH.put0 {w wr : World} {k : Nat} {a b P : Int} (hk : w.heap.size + 1 + 1 + 1 + 1 < k) (h : LH w wr k a b P 0) : LH w ((wr.setCell ⟨k + 1, 0, none⟩ (.int .u64 (l0 P))).drew.setCell ⟨k, 0, none⟩ (.int .u64 (l0 (P / MM)))).drew k a b P 1 := by
 obtain ⟨h1, h2, h3⟩ := h
 have D := fun (w : World) => (Mo.refl w).drew
 have g3 : H4 (wr.setCell ⟨k + 1, 0, none⟩ (.int .u64 (l0 P))) (k + 1) P 1 := h3.put (by obtain ⟨⟨c0, c1, c2, c3⟩, _, _⟩ := h3; simp at c0 c1 c2 c3; simp [At4, go_sem, *])
 have g2 := h2.set1 (show k ≠ k + 1 by omega) 0 (.int .u64 (l0 P))
 have g1 := h1.set1 (show _ < k + 1 by omega) 0 (.int .u64 (l0 P))
 generalize wr.setCell ⟨k + 1, 0, none⟩ (.int .u64 (l0 P)) = w2 at *
 have k2 : H4 (w2.drew.setCell ⟨k, 0, none⟩ (.int .u64 (l0 (P / MM)))) k (P / MM) 1 := (g2.mo (D _)).put (by obtain ⟨⟨c0, c1, c2, c3⟩, _, _⟩ := g2.mo (D _); simp at c0 c1 c2 c3; simp [At4, go_sem, *])
 exact ⟨((g1.mo (D _)).set1 hk _ _).mo (D _), k2.mo (D _), ((g3.mo (D _)).set1 (by omega) _ _).mo (D _)⟩
theorem LH.put1 {w wr : World} {k : Nat} {a b P : Int} (hk : w.heap.size + 1 + 1 + 1 + 1 < k) (h : LH w wr k a b P 1) : LH w ((wr.setCell ⟨k + 1, 1, none⟩ (.int .u64 (l1 P))).drew.setCell ⟨k, 1, none⟩ (.int .u64 (l1 (P / MM)))).drew k a b P 2 := by
 obtain ⟨h1, h2, h3⟩ := h
 have D := fun (w : World) => (Mo.refl w).drew
 have g3 : H4 (wr.setCell ⟨k + 1, 1, none⟩ (.int .u64 (l1 P))) (k + 1) P 2 := h3.put (by obtain ⟨⟨c0, c1, c2, c3⟩, _, _⟩ := h3; simp at c0 c1 c2 c3; simp [At4, go_sem, *])
 have g2 := h2.set1 (show k ≠ k + 1 by omega) 1 (.int .u64 (l1 P))
 have g1 := h1.set1 (show _ < k + 1 by omega) 1 (.int .u64 (l1 P))
 generalize wr.setCell ⟨k + 1, 1, none⟩ (.int .u64 (l1 P)) = w2 at *
 have k2 : H4 (w2.drew.setCell ⟨k, 1, none⟩ (.int .u64 (l1 (P / MM)))) k (P / MM) 2 := (g2.mo (D _)).put (by obtain ⟨⟨c0, c1, c2, c3⟩, _, _⟩ := g2.mo (D _); simp at c0 c1 c2 c3; simp [At4, go_sem, *])
 exact ⟨((g1.mo (D _)).set1 hk _ _).mo (D _), k2.mo (D _), ((g3.mo (D _)).set1 (by omega) _ _).mo (D _)⟩
theorem LH.put2 {w wr : World} {k : Nat} {a b P : Int} (hk : w.heap.size + 1 + 1 + 1 + 1 < k) (h : LH w wr k a b P 2) : LH w ((wr.setCell ⟨k + 1, 2, none⟩ (.int .u64 (l2 P))).drew.setCell ⟨k, 2, none⟩ (.int .u64 (l2 (P / MM)))).drew k a b P 3 := by
 obtain ⟨h1, h2, h3⟩ := h
 have D := fun (w : World) => (Mo.refl w).drew
 have g3 : H4 (wr.setCell ⟨k + 1, 2, none⟩ (.int .u64 (l2 P))) (k + 1) P 3 := h3.put (by obtain ⟨⟨c0, c1, c2, c3⟩, _, _⟩ := h3; simp at c0 c1 c2 c3; simp [At4, go_sem, *])
 have g2 := h2.set1 (show k ≠ k + 1 by omega) 2 (.int .u64 (l2 P))
 have g1 := h1.set1 (show _ < k + 1 by omega) 2 (.int .u64 (l2 P))
 generalize wr.setCell ⟨k + 1, 2, none⟩ (.int .u64 (l2 P)) = w2 at *
 have k2 : H4 (w2.drew.setCell ⟨k, 2, none⟩ (.int .u64 (l2 (P / MM)))) k (P / MM) 3 := (g2.mo (D _)).put (by obtain ⟨⟨c0, c1, c2, c3⟩, _, _⟩ := g2.mo (D _); simp at c0 c1 c2 c3; simp [At4, go_sem, *])
 exact ⟨((g1.mo (D _)).set1 hk _ _).mo (D _), k2.mo (D _), ((g3.mo (D _)).set1 (by omega) _ _).mo (D _)⟩
theorem LH.put3 {w wr : World} {k : Nat} {a b P : Int} (hk : w.heap.size + 1 + 1 + 1 + 1 < k) (h : LH w wr k a b P 3) : LH w ((wr.setCell ⟨k + 1, 3, none⟩ (.int .u64 (l3 P))).drew.setCell ⟨k, 3, none⟩ (.int .u64 (l3 (P / MM)))).drew k a b P 4 := by
 obtain ⟨h1, h2, h3⟩ := h
 have D := fun (w : World) => (Mo.refl w).drew
 have g3 : H4 (wr.setCell ⟨k + 1, 3, none⟩ (.int .u64 (l3 P))) (k + 1) P 4 := h3.put (by obtain ⟨⟨c0, c1, c2, c3⟩, _, _⟩ := h3; simp at c0 c1 c2 c3; simp [At4, go_sem, *])
 have g2 := h2.set1 (show k ≠ k + 1 by omega) 3 (.int .u64 (l3 P))
 have g1 := h1.set1 (show _ < k + 1 by omega) 3 (.int .u64 (l3 P))
 generalize wr.setCell ⟨k + 1, 3, none⟩ (.int .u64 (l3 P)) = w2 at *
 have k2 : H4 (w2.drew.setCell ⟨k, 3, none⟩ (.int .u64 (l3 (P / MM)))) k (P / MM) 4 := (g2.mo (D _)).put (by obtain ⟨⟨c0, c1, c2, c3⟩, _, _⟩ := g2.mo (D _); simp at c0 c1 c2 c3; simp [At4, go_sem, *])
 exact ⟨((g1.mo (D _)).set1 hk _ _).mo (D _), k2.mo (D _), ((g3.mo (D _)).set1 (by omega) _ _).mo (D _)⟩
set_option maxRecDepth 100000 in
set_option maxHeartbeats 4000000 in
theorem rmul_n (A B : Int) (w : World) (hA0 : 0 ≤ A) (hAM : A < MM) (hB0 : 0 ≤ B) (hBM : B < MM) :
  Calls Tryd.prog 63 #[nv A, nv B] w fun e w' => e = .returned (.tuple #[nv (A * B / MM), nv (A * B)]) ∧ Mo w w' := by
 have hz := z62
 have HS : Hid _ := RM.start w A B
 have HB : Hid (B < 2 ^ (32 * 8)) := hBM
 have HA : Hid (A < 2 ^ (32 * 8)) := hAM
 go_enter Tryd.func63, Tryd.ntmps63
 go_wp2
 go_loopw [7] (fun s7 wr => ∃ i : Nat, i ≤ 8 ∧ s7 = .int .i64 i ∧ RM w wr A B (vi A B i)) (fun s _ => 8 - (intOf s).toNat)
 case atStart => exact ⟨0, by decide, rfl, by rw [vi_zero]; exact HS.out⟩
 case round =>
  obtain ⟨i, hi, rfl, ht⟩ := hrel
  clear HS
  by_cases hlt : i < 8
  ·have di : decide ((i : Int) < 8) = true := decide_eq_true (by omega)
   go_wp2_with fail
   go_loopw [8, 9] (fun s8 s9 wr => ∃ (k : Nat) (c W : Int), k ≤ 8 ∧ s9 = .int .i64 k ∧ s8 = .int .u64 c ∧ 0 ≤ c ∧ c < 4294967296 ∧ 0 ≤ W ∧ W < 2 ^ (32 * (i + 8)) ∧ W + c * 2 ^ (32 * (i + k)) = vi A B i + dg A i * 2 ^ (32 * i) * (B % 2 ^ (32 * k)) ∧ RM w wr A B W) (fun _ s9 _ => 8 - (intOf s9).toNat)
   case atStart => exact ⟨0, 0, vi A B i, by decide, rfl, rfl, by decide, by decide, (vi_bd i hB0 HB.out).1, (vi_bd i hB0 HB.out).2, inner0 _ _ _ _ _ rfl, ht⟩
   case round =>
    obtain ⟨k, c, W, hk, rfl, rfl, c0, c1, W0, W1, hI, hv⟩ := hrel
    clear ht
    have HI : Hid _ := hI
    have HW : Hid _ := W1
    clear hI W1
    by_cases hk8 : k < 8
    ·have dk : decide ((k : Int) < 8) = true := decide_eq_true (by omega)
     obtain ⟨j, hj⟩ : ∃ j : Nat, j = i + k := ⟨_, rfl⟩
     have j16 : j < 16 := by omega
     have hik : (i : Int) + (k : Int) = (j : Int) := by omega
     have wik : IntKind.i64.wrap (j : Int) = (j : Int) := by rw [IntKind.wrap_i64]; omega
     have q1 : (0 : Int) ≤ (j : Int) := by omega
     have q2 : (j : Int) < 16 := by omega
     have HJ : Hid _ := hj
     have bd := carry_bd (dg_bd W j) (dg_bd A i) (dg_bd B k) ⟨c0, c1⟩
     have bw := dg_bd W j
     have u1 : IntKind.u64.wrap (dg A i * dg B k) = dg A i * dg B k := by rw [IntKind.wrap_u64]; omega
     have u2 : IntKind.u64.wrap (dg W j + dg A i * dg B k) = dg W j + dg A i * dg B k := by rw [IntKind.wrap_u64]; omega
     have u3 : IntKind.u64.wrap (dg W j + dg A i * dg B k + c) = dg W j + dg A i * dg B k + c := by rw [IntKind.wrap_u64]; omega
     have BD : Hid _ := bd
     clear hj bd bw
     go_upto_region 9 with fail
     go_cut [10] from 22 to 36 (fun s10 wx => s10 = .int .u64 (dg W j + dg A i * dg B k + c) ∧ RM w wx A B W)
     case first =>
      have hv0 := hv
      obtain ⟨_, ⟨⟨a0, a1, a2, a3⟩, _, y1⟩, ⟨⟨b0, b1, b2, b3⟩, _, y2⟩, _, _, ⟨d, _, y3⟩⟩ := hv0
      have d0 := d j j16
      clear d
      go_region_held3 (fun w' => w'.cell? ⟨w.heap.size, 0, none⟩ = some (.int .u64 (l0 A)) ∧ w'.cell? ⟨w.heap.size, 1, none⟩ = some (.int .u64 (l1 A)) ∧ w'.cell? ⟨w.heap.size, 2, none⟩ = some (.int .u64 (l2 A)) ∧ w'.cell? ⟨w.heap.size, 3, none⟩ = some (.int .u64 (l3 A)) ∧ w'.cell? ⟨w.heap.size + 1, 0, none⟩ = some (.int .u64 (l0 B)) ∧ w'.cell? ⟨w.heap.size + 1, 1, none⟩ = some (.int .u64 (l1 B)) ∧ w'.cell? ⟨w.heap.size + 1, 2, none⟩ = some (.int .u64 (l2 B)) ∧ w'.cell? ⟨w.heap.size + 1, 3, none⟩ = some (.int .u64 (l3 B)) ∧ w'.cell? ⟨w.heap.size + 1 + 1 + 1 + 1, j, none⟩ = some (.int .u64 (dg W j))) (simp [go_sem, *])
       (first | (go_at_call 74; have m40 := m4; refine (half_any _ _ _ (by assumption)).mono ?_; rintro e w5 ⟨rfl, hm5⟩; have m5 : Mo w4 w5 := Mo.trans (by repeat (first | with_reducible exact Mo.refl _ | with_reducible apply Mo.drew | with_reducible apply Mo.alloc)) hm5; have v5 := v4.mo m5; have v5z := v5; obtain ⟨_, ⟨⟨g0, g1, g2, g3⟩, _, z4⟩, ⟨⟨h0, h1, h2, h3⟩, _, z5⟩, _, _, ⟨ee, _, z6⟩⟩ := v5z; have ee := ee j j16) | (go_at_call 74; refine (half_any _ _ _ (by assumption)).mono ?_; rintro e w4 ⟨rfl, hm4⟩; have m4 : Mo wr w4 := Mo.trans (by repeat (first | with_reducible exact Mo.refl _ | with_reducible apply Mo.drew | with_reducible apply Mo.alloc)) hm4; have v4 := hv.mo m4; have v4z := v4; obtain ⟨_, ⟨⟨e0, e1, e2, e3⟩, _, z1⟩, ⟨⟨f0, f1, f2, f3⟩, _, z2⟩, _, _, ⟨dd, _, z3⟩⟩ := v4z; have dd := dd j j16))
      all_goals
       go_wp2
       go_meet
       case rel => exact ⟨rfl, v5⟩
     case rest =>
      clear hv
      obtain ⟨rfl, hv⟩ := hcut
      have bd := BD.out
      obtain ⟨_, _, s0, s1⟩ := bd
      generalize hs : dg W j + dg A i * dg B k + c = s at *
      have hv0 := hv
      obtain ⟨_, _, _, _, _, ⟨d, df, y3⟩⟩ := hv0
      have d0 := d j j16
      have df := fun o => df o
      clear d BD u1 u2 u3
      have v2 := hv.put (j := j) (n := s % 4294967296) j16 (by omega) (by omega)
      have HS2 : Hid _ := hs
      clear hs hv
      go_wp2
      go_roundw
      case rel =>
       have hj := HJ.out
       have hI := inner HI.out
       rw [← hj, HS2.out] at hI
       have b2 := dg_set_bd (n := s % 4294967296) W0 HW.out (show j < i + 8 by omega) (by omega) (by omega)
       refine ⟨k + 1, s / 4294967296, _, by omega, by go_num, by go_num, by omega, by omega, b2.1, b2.2, hI, v2⟩
      case measure => simp [intOf]; omega
    ·have k8 : k = 8 := by omega
     subst k8
     obtain ⟨j, hj⟩ : ∃ j : Nat, j = i + 8 := ⟨_, rfl⟩
     have j16 : j < 16 := by omega
     have hik : (i : Int) + 8 = (j : Int) := by omega
     have wik : IntKind.i64.wrap (j : Int) = (j : Int) := by rw [IntKind.wrap_i64]; omega
     have q1 : (0 : Int) ≤ (j : Int) := by omega
     have q2 : (j : Int) < 16 := by omega
     have HJ : Hid _ := hj
     clear hj
     have hv0 := hv
     obtain ⟨_, _, _, _, _, ⟨d, df, y3⟩⟩ := hv0
     have d0 := d j j16
     have df := fun o => df o
     clear d
     have v2 := hv.put (j := j) (n := c) j16 c0 c1
     go_wp2
     go_roundw
     case rel =>
      have hj := HJ.out
      have hI := HI.out
      rw [mod_last hB0 HB.out, ← vi_succ] at hI
      refine ⟨i + 1, by omega, by go_num, ?_⟩
      rw [← hI, ← outer W0 HW.out, ← hj]
      exact v2
     case measure => simp [intOf]; omega
  ·have i8 : i = 8 := by omega
   subst i8
   rw [vi_last hA0 HA.out] at ht
   obtain ⟨P, hP⟩ : ∃ P, P = A * B := ⟨_, rfl⟩
   rw [← hP] at ht
   have HP : Hid _ := hP
   clear hP
   have ht2 : LH w ((wr.alloc (.cells #[.int .u64 0, .int .u64 0, .int .u64 0, .int .u64 0] 31)).alloc (.cells #[.int .u64 0, .int .u64 0, .int .u64 0, .int .u64 0] 31)) wr.heap.size A B P 0 := LH.start ht
   have HT : Hid _ := ht2
   have hws : w.heap.size + 1 + 1 + 1 + 1 < wr.heap.size := ht.2.2.2.2.2.2.2
   clear ht ht2
   go_wp2_with fail
   go_loopw [13] (fun s13 wx => ∃ i : Nat, i ≤ 4 ∧ s13 = .int .i64 i ∧ LH w wx wr.heap.size A B P i) (fun s _ => 4 - (intOf s).toNat)
   case atStart => exact ⟨0, by decide, rfl, HT.out⟩
   case round =>
    obtain ⟨i, hi, rfl, ht⟩ := hrel
    clear HT
    have hq : i = 0 ∨ i = 1 ∨ i = 2 ∨ i = 3 ∨ i = 4 := by omega
    rcases hq with rfl | rfl | rfl | rfl | rfl
    ·have htz := ht
     obtain ⟨⟨m1, n1, n2, n3, n4, ⟨d, _, y3⟩⟩, ⟨⟨h0, h1, h2, h3⟩, fh, z1⟩, ⟨⟨g0, g1, g2, g3⟩, fg, z2⟩⟩ := ht
     have d0 := d 0 (by decide)
     have d1 := d 1 (by decide)
     have d8 := d 8 (by decide)
     have d9 := d 9 (by decide)
     have fh := fun o => fh o
     have fg := fun o => fg o
     have e0 : dg P 0 + dg P 1 * 4294967296 = l0 P := by simp [dg, l0]; omega
     rw [show dg P 8 = dg (P / MM) 0 from dg_up P 0] at d8
     rw [show dg P 9 = dg (P / MM) 1 from dg_up P 1] at d9
     have e1 : dg (P / MM) 0 + dg (P / MM) 1 * 4294967296 = l0 (P / MM) := by simp [dg, l0]; omega
     simp at h0 h1 h2 h3 g0 g1 g2 g3
     clear d
     have b0 := dg_bd P 0
     have b1 := dg_bd P 1
     have b8 := dg_bd (P / MM) 0
     have b9 := dg_bd (P / MM) 1
     have ht2 := LH.put0 hws htz
     have HT : Hid _ := ht2
     clear htz ht2
     go_wp2
     go_region
     all_goals
      go_wp2
      go_region
      all_goals
       go_wp2
       go_roundw
       case rel => exact ⟨1, by decide, rfl, HT.out⟩
       case measure => decide
    ·have htz := ht
     obtain ⟨⟨m1, n1, n2, n3, n4, ⟨d, _, y3⟩⟩, ⟨⟨h0, h1, h2, h3⟩, fh, z1⟩, ⟨⟨g0, g1, g2, g3⟩, fg, z2⟩⟩ := ht
     have d0 := d 2 (by decide)
     have d1 := d 3 (by decide)
     have d8 := d 10 (by decide)
     have d9 := d 11 (by decide)
     have fh := fun o => fh o
     have fg := fun o => fg o
     have e0 : dg P 2 + dg P 3 * 4294967296 = l1 P := by simp [dg, l1]; omega
     rw [show dg P 10 = dg (P / MM) 2 from dg_up P 2] at d8
     rw [show dg P 11 = dg (P / MM) 3 from dg_up P 3] at d9
     have e1 : dg (P / MM) 2 + dg (P / MM) 3 * 4294967296 = l1 (P / MM) := by simp [dg, l1]; omega
     simp at h0 h1 h2 h3 g0 g1 g2 g3
     clear d
     have b0 := dg_bd P 2
     have b1 := dg_bd P 3
     have b8 := dg_bd (P / MM) 2
     have b9 := dg_bd (P / MM) 3
     have ht2 := LH.put1 hws htz
     have HT : Hid _ := ht2
     clear htz ht2
     go_wp2
     go_region
     all_goals
      go_wp2
      go_region
      all_goals
       go_wp2
       go_roundw
       case rel => exact ⟨2, by decide, rfl, HT.out⟩
       case measure => decide
    ·have htz := ht
     obtain ⟨⟨m1, n1, n2, n3, n4, ⟨d, _, y3⟩⟩, ⟨⟨h0, h1, h2, h3⟩, fh, z1⟩, ⟨⟨g0, g1, g2, g3⟩, fg, z2⟩⟩ := ht
     have d0 := d 4 (by decide)
     have d1 := d 5 (by decide)
     have d8 := d 12 (by decide)
     have d9 := d 13 (by decide)
     have fh := fun o => fh o
     have fg := fun o => fg o
     have e0 : dg P 4 + dg P 5 * 4294967296 = l2 P := by simp [dg, l2]; omega
     rw [show dg P 12 = dg (P / MM) 4 from dg_up P 4] at d8
     rw [show dg P 13 = dg (P / MM) 5 from dg_up P 5] at d9
     have e1 : dg (P / MM) 4 + dg (P / MM) 5 * 4294967296 = l2 (P / MM) := by simp [dg, l2]; omega
     simp at h0 h1 h2 h3 g0 g1 g2 g3
     clear d
     have b0 := dg_bd P 4
     have b1 := dg_bd P 5
     have b8 := dg_bd (P / MM) 4
     have b9 := dg_bd (P / MM) 5
     have ht2 := LH.put2 hws htz
     have HT : Hid _ := ht2
     clear htz ht2
     go_wp2
     go_region
     all_goals
      go_wp2
      go_region
      all_goals
       go_wp2
       go_roundw
       case rel => exact ⟨3, by decide, rfl, HT.out⟩
       case measure => decide
    ·have htz := ht
     obtain ⟨⟨m1, n1, n2, n3, n4, ⟨d, _, y3⟩⟩, ⟨⟨h0, h1, h2, h3⟩, fh, z1⟩, ⟨⟨g0, g1, g2, g3⟩, fg, z2⟩⟩ := ht
     have d0 := d 6 (by decide)
     have d1 := d 7 (by decide)
     have d8 := d 14 (by decide)
     have d9 := d 15 (by decide)
     have fh := fun o => fh o
     have fg := fun o => fg o
     have e0 : dg P 6 + dg P 7 * 4294967296 = l3 P := by simp [dg, l3]; omega
     rw [show dg P 14 = dg (P / MM) 6 from dg_up P 6] at d8
     rw [show dg P 15 = dg (P / MM) 7 from dg_up P 7] at d9
     have e1 : dg (P / MM) 6 + dg (P / MM) 7 * 4294967296 = l3 (P / MM) := by simp [dg, l3]; omega
     simp at h0 h1 h2 h3 g0 g1 g2 g3
     clear d
     have b0 := dg_bd P 6
     have b1 := dg_bd P 7
     have b8 := dg_bd (P / MM) 6
     have b9 := dg_bd (P / MM) 7
     have ht2 := LH.put3 hws htz
     have HT : Hid _ := ht2
     clear htz ht2
     go_wp2
     go_region
     all_goals
      go_wp2
      go_region
      all_goals
       go_wp2
       go_roundw
       case rel => exact ⟨4, by decide, rfl, HT.out⟩
       case measure => decide
    ·obtain ⟨⟨m1, n1, n2, ⟨⟨x0, x1, x2, x3⟩, fx, z4⟩, ⟨⟨y0, y1, y2, y3⟩, fy, z5⟩, _⟩, ⟨⟨h0, h1, h2, h3⟩, _, z1⟩, ⟨⟨g0, g1, g2, g3⟩, _, z2⟩⟩ := ht
     simp at h0 h1 h2 h3 g0 g1 g2 g3
     have fx := fun o => fx o
     have fy := fun o => fy o
     clear n1 n2
     go_wp2
     go_region
     all_goals
      go_wp2
      refine bodyPost_ret (v := .tuple #[nv (P / MM), nv P]) (by simp [results, Tryd.results63, go_sem, *]) rfl ?_
      refine ⟨by rw [← HP.out], ?_⟩
      repeat (first | with_reducible exact m1 | with_reducible apply Mo.drew | with_reducible apply Mo.drewN | with_reducible refine Mo.setCell ?_ (by simp <;> omega) _)
end Go.Proofs.YthgknegocfhdbaaDoor

/-
 limb.addCarry, limb.subBorrow, Add, Sub, From, Odd, whatever the limbs: the walks.
-/
namespace Go.Proofs.YthgknegocfhdbaaDoor
open Go.RowKit

theorem addc_eq {a0 a1 a2 a3 b0 b1 b2 b3 n : Int} (_ha : U4 a0 a1 a2 a3) (_hb : U4 b0 b1 b2 b3) (hn : n = vl a0 a1 a2 a3 + vl b0 b1 b2 b3) :
   (a0 + b0) % 18446744073709551616 = l0 n ∧ (a1 + b1 + (a0 + b0) / 18446744073709551616) % 18446744073709551616 = l1 n ∧
   (a2 + b2 + (a1 + b1 + (a0 + b0) / 18446744073709551616) / 18446744073709551616) % 18446744073709551616 = l2 n ∧
   (a3 + b3 + (a2 + b2 + (a1 + b1 + (a0 + b0) / 18446744073709551616) / 18446744073709551616) / 18446744073709551616) % 18446744073709551616 = l3 n ∧
   (a3 + b3 + (a2 + b2 + (a1 + b1 + (a0 + b0) / 18446744073709551616) / 18446744073709551616) / 18446744073709551616) / 18446744073709551616 = n / MM := by
  subst hn
  unfold U4 U1 at _ha _hb; unfold vl l0 l1 l2 l3 MM
  omega

set_option maxHeartbeats 2000000 in
theorem addCarry_any (a0 a1 a2 a3 b0 b1 b2 b3 : Int) (w : World) (ha : U4 a0 a1 a2 a3) (hb : U4 b0 b1 b2 b3) :
  Calls Tryd.prog 89 #[.agg #[.int .u64 a0, .int .u64 a1, .int .u64 a2, .int .u64 a3], .agg #[.int .u64 b0, .int .u64 b1, .int .u64 b2, .int .u64 b3]] w fun e w' => 
   e = .returned (.tuple #[nv (vl a0 a1 a2 a3 + vl b0 b1 b2 b3), .int .u64 ((vl a0 a1 a2 a3 + vl b0 b1 b2 b3) / MM)]) ∧ Mo w w' := by
 have ha' := ha
 have hb' := hb
 obtain ⟨⟨p0, q0⟩, ⟨p1, q1⟩, ⟨p2, q2⟩, ⟨p3, q3⟩⟩ := ha'
 obtain ⟨⟨r0, s0⟩, ⟨r1, s1⟩, ⟨r2, s2⟩, ⟨r3, s3⟩⟩ := hb'
 have k1 : 0 ≤ (a0 + b0) / 18446744073709551616 := by omega
 have k1' : (a0 + b0) / 18446744073709551616 ≤ 1 := by omega
 have k2 : 0 ≤ (a1 + b1 + (a0 + b0) / 18446744073709551616) / 18446744073709551616 := by omega
 have k2' : (a1 + b1 + (a0 + b0) / 18446744073709551616) / 18446744073709551616 ≤ 1 := by omega
 have k3 : 0 ≤ (a2 + b2 + (a1 + b1 + (a0 + b0) / 18446744073709551616) / 18446744073709551616) / 18446744073709551616 := by omega
 have k3' : (a2 + b2 + (a1 + b1 + (a0 + b0) / 18446744073709551616) / 18446744073709551616) / 18446744073709551616 ≤ 1 := by omega
 go_enter Tryd.func89, Tryd.ntmps89
 go_wp2
 refine wp_loop_rounds 5 ?_
 rw [rounds_succ]
 go_wp2
 go_region_held3 (fun w' => w'.cell? ⟨w.heap.size, 0, none⟩ = some (.int .u64 a0) ∧ w'.cell? ⟨w.heap.size + 1, 0, none⟩ = some (.int .u64 b0)) (simp [go_sem, World.cell?_alloc_past])
  (first | simp only [add64_0 a0 b0 p0 r0])
 go_wp2
 rw [rounds_succ]
 go_wp2
 go_region_held3 (fun w' => w'.cell? ⟨w.heap.size, 1, none⟩ = some (.int .u64 a1) ∧ w'.cell? ⟨w.heap.size + 1, 1, none⟩ = some (.int .u64 b1)) (simp [go_sem, World.cell?_alloc_past])
  (first | simp only [add64 a1 b1 _ p1 r1 k1 k1'])
 go_wp2
 rw [rounds_succ]
 go_wp2
 go_region_held3 (fun w' => w'.cell? ⟨w.heap.size, 2, none⟩ = some (.int .u64 a2) ∧ w'.cell? ⟨w.heap.size + 1, 2, none⟩ = some (.int .u64 b2)) (simp [go_sem, World.cell?_alloc_past])
  (first | simp only [add64 a2 b2 _ p2 r2 k2 k2'])
 go_wp2
 rw [rounds_succ]
 go_wp2
 go_region_held3 (fun w' => w'.cell? ⟨w.heap.size, 3, none⟩ = some (.int .u64 a3) ∧ w'.cell? ⟨w.heap.size + 1, 3, none⟩ = some (.int .u64 b3)) (simp [go_sem, World.cell?_alloc_past])
  (first | simp only [add64 a3 b3 _ p3 r3 k3 k3'])
 go_wp2
 rw [rounds_succ]
 go_wp2
 refine bodyPost_ret (by simp [results, Tryd.results89, go_sem]; rfl) rfl ?_
 obtain ⟨e0, e1, e2, e3, e4⟩ := addc_eq ha hb rfl
 rw [nv_of e0 e1 e2 e3, e4]
 refine ⟨rfl, ?_⟩
 repeat (first | exact Mo.refl _ | apply Mo.drew | apply Mo.alloc)

end Go.Proofs.YthgknegocfhdbaaDoor

/-
 limb.Add and limb.Sub, From, Odd, the document's From and not, whatever the limbs: the walks.
-/
namespace Go.Proofs.YthgknegocfhdbaaDoor
open Go.RowKit

set_option maxHeartbeats 1000000 in
theorem add_any (a0 a1 a2 a3 b0 b1 b2 b3 : Int) (w : World) (ha : U4 a0 a1 a2 a3) (hb : U4 b0 b1 b2 b3) :
  Calls Tryd.prog 78 #[.agg #[.int .u64 a0, .int .u64 a1, .int .u64 a2, .int .u64 a3], .agg #[.int .u64 b0, .int .u64 b1, .int .u64 b2, .int .u64 b3]] w fun e w' =>
   e = .returned (.tuple #[nv (vl a0 a1 a2 a3 + vl b0 b1 b2 b3), .bool (ov (vl a0 a1 a2 a3 + vl b0 b1 b2 b3))]) ∧ Mo w w' := by
 rw [← ov_ne ha hb]
 go_enter Tryd.func78, Tryd.ntmps78
 go_wp2_with fail
 refine (addCarry_any a0 a1 a2 a3 b0 b1 b2 b3 _ ha hb).mono ?_
 rintro e w1 ⟨rfl, hm⟩
 have hc := hm.cell
 have hf := hm.2
 have hz := hm.size
 simp only [World.size_alloc] at hz hc
 have hz2 : w.heap.size + 1 + 1 < w1.heap.size := by omega
 go_wp2
 refine bodyPost_ret (by simp [results, Tryd.results78, go_sem, hc, hz2]; rfl) rfl ?_
 refine ⟨rfl, ?_⟩
 repeat (first | exact Mo.refl _ | with_reducible apply Mo.drew | with_reducible apply Mo.drewN | with_reducible apply Mo.alloc | with_reducible refine Mo.setCell ?_ (by simp <;> omega) _ | with_reducible refine Mo.trans ?_ (by assumption))

set_option maxHeartbeats 400000 in
theorem from20_any (u : Int) (w : World) (h : U1 u) :
  Calls Tryd.prog 79 #[.int .u64 u] w fun e w' => e = .returned (nv u) ∧ Mo w w' := by
 have e0 : l0 u = u := by unfold U1 at h; unfold l0; omega
 have e1 : l1 u = 0 := by unfold U1 at h; unfold l1; omega
 have e2 : l2 u = 0 := by unfold U1 at h; unfold l2; omega
 have e3 : l3 u = 0 := by unfold U1 at h; unfold l3; omega
 rw [nv, e0, e1, e2, e3]
 clear e0 e1 e2 e3
 go_enter Tryd.func79, Tryd.ntmps79
 go_wp2
 refine bodyPost_ret (by simp [results, Tryd.results79, go_sem]; rfl) rfl ?_
 refine ⟨rfl, ?_⟩
 repeat (first | exact Mo.refl _ | with_reducible apply Mo.drew | with_reducible apply Mo.drewN | with_reducible apply Mo.alloc | with_reducible refine Mo.setCell ?_ (by simp <;> omega) _ | with_reducible refine Mo.trans ?_ (by assumption))

set_option maxHeartbeats 400000 in
theorem from34_any (u : Int) (w : World) (h : U1 u) :
  Calls Tryd.prog 64 #[.int .u64 u] w fun e w' => e = .returned (nv u) ∧ Mo w w' := by
 have e0 : l0 u = u := by unfold U1 at h; unfold l0; omega
 have e1 : l1 u = 0 := by unfold U1 at h; unfold l1; omega
 have e2 : l2 u = 0 := by unfold U1 at h; unfold l2; omega
 have e3 : l3 u = 0 := by unfold U1 at h; unfold l3; omega
 rw [nv, e0, e1, e2, e3]
 clear e0 e1 e2 e3
 go_enter Tryd.func64, Tryd.ntmps64
 go_wp2
 refine bodyPost_ret (by simp [results, Tryd.results64, go_sem]; rfl) rfl ?_
 refine ⟨rfl, ?_⟩
 repeat (first | exact Mo.refl _ | with_reducible apply Mo.drew | with_reducible apply Mo.drewN | with_reducible apply Mo.alloc | with_reducible refine Mo.setCell ?_ (by simp <;> omega) _ | with_reducible refine Mo.trans ?_ (by assumption))

end Go.Proofs.YthgknegocfhdbaaDoor

/-
 limb.mulLimb, whatever the limbs: the walk.
-/
namespace Go.Proofs.YthgknegocfhdbaaDoor
open Go.RowKit
def mh (x y : Int) : Int := x * y / 18446744073709551616
def ml (x y : Int) : Int := x * y % 18446744073709551616
theorem mul64 (x y : Int) (hx : U1 x) (hy : U1 y) (w : World) :
  Calls Tryd.prog 87 #[.int .u64 x, .int .u64 y] w fun e w' => e = .returned (.tuple #[.int .u64 (mh x y), .int .u64 (ml x y)]) ∧ w' = w := by
 obtain ⟨x0, x1⟩ := hx
 obtain ⟨y0, y1⟩ := hy
 obtain ⟨x, rfl⟩ := Int.eq_ofNat_of_zero_le x0
 obtain ⟨y, rfl⟩ := Int.eq_ofNat_of_zero_le y0
 have e1 : mh (x : Int) y = ((x * y / 18446744073709551616 : Nat) : Int) := by unfold mh; omega
 have e2 : ml (x : Int) y = ((x * y % 18446744073709551616 : Nat) : Int) := by unfold ml; omega
 rw [e1, e2]
 exact Tryd.bits_Mul64 x y (by omega) (by omega) w

theorem mul_bd {x y : Int} (hx : U1 x) (hy : U1 y) : 0 ≤ x * y ∧ x * y ≤ 340282366920938463426481119284349108225 := by
 obtain ⟨x0, x1⟩ := hx
 obtain ⟨y0, y1⟩ := hy
 refine ⟨Int.mul_nonneg x0 y0, ?_⟩
 exact Int.mul_le_mul (by omega : x ≤ 18446744073709551615) (by omega : y ≤ 18446744073709551615) y0 (by decide)
theorem mh_bd {x y : Int} (hx : U1 x) (hy : U1 y) : 0 ≤ mh x y ∧ mh x y ≤ 18446744073709551614 := by
 have h := mul_bd hx hy; unfold mh; omega
theorem ml_bd {x y : Int} (_hx : U1 x) (_hy : U1 y) : 0 ≤ ml x y ∧ ml x y < 18446744073709551616 := by
 unfold ml; omega

theorem mull_eq {a0 a1 a2 a3 c t1 t2 t3 t4 : Int} (ha : U4 a0 a1 a2 a3) (hc : U1 c) (h1 : t1 = mh a0 c) (h2 : t2 = mh a1 c + (ml a1 c + t1) / 18446744073709551616) (h3 : t3 = mh a2 c + (ml a2 c + t2) / 18446744073709551616) (h4 : t4 = mh a3 c + (ml a3 c + t3) / 18446744073709551616) :
  ml a0 c = l0 (vl a0 a1 a2 a3 * c) ∧ (ml a1 c + t1) % 18446744073709551616 = l1 (vl a0 a1 a2 a3 * c) ∧ (ml a2 c + t2) % 18446744073709551616 = l2 (vl a0 a1 a2 a3 * c) ∧ (ml a3 c + t3) % 18446744073709551616 = l3 (vl a0 a1 a2 a3 * c) ∧ t4 = vl a0 a1 a2 a3 * c / MM := by
 obtain ⟨g0, g1, g2, g3⟩ := ha
 have b0 := mul_bd g0 hc
 have b1 := mul_bd g1 hc
 have b2 := mul_bd g2 hc
 have b3 := mul_bd g3 hc
 have e : vl a0 a1 a2 a3 * c = a0 * c + 18446744073709551616 * (a1 * c) + 340282366920938463463374607431768211456 * (a2 * c) + 6277101735386680763835789423207666416102355444464034512896 * (a3 * c) := by
  unfold vl; rw [Int.add_mul, Int.add_mul, Int.add_mul, Int.mul_assoc, Int.mul_assoc, Int.mul_assoc]
 rw [e]
 unfold mh ml at *
 generalize a0 * c = p0 at *
 generalize a1 * c = p1 at *
 generalize a2 * c = p2 at *
 generalize a3 * c = p3 at *
 unfold l0 l1 l2 l3 MM
 omega

set_option maxHeartbeats 2000000 in
theorem mulLimb_raw (a0 a1 a2 a3 c t1 t2 t3 t4 : Int) (w : World) (ha : U4 a0 a1 a2 a3) (hc : U1 c) (h1 : Hid (t1 = mh a0 c)) (h2 : Hid (t2 = mh a1 c + (ml a1 c + t1) / 18446744073709551616)) (h3 : Hid (t3 = mh a2 c + (ml a2 c + t2) / 18446744073709551616)) (h4 : Hid (t4 = mh a3 c + (ml a3 c + t3) / 18446744073709551616)) :
  Calls Tryd.prog 77 #[.agg #[.int .u64 a0, .int .u64 a1, .int .u64 a2, .int .u64 a3], .int .u64 c] w fun e w' =>
   e = .returned (.tuple #[.agg #[.int .u64 (ml a0 c), .int .u64 ((ml a1 c + t1) % 18446744073709551616), .int .u64 ((ml a2 c + t2) % 18446744073709551616), .int .u64 ((ml a3 c + t3) % 18446744073709551616)], .int .u64 t4]) ∧ Mo w w' := by
 have g := ha
 obtain ⟨g0, g1, g2, g3⟩ := g
 obtain ⟨p0, q0⟩ := mh_bd g0 hc
 obtain ⟨r0, s0⟩ := ml_bd g0 hc
 obtain ⟨p1, q1⟩ := mh_bd g1 hc
 obtain ⟨r1, s1⟩ := ml_bd g1 hc
 obtain ⟨p2, q2⟩ := mh_bd g2 hc
 obtain ⟨r2, s2⟩ := ml_bd g2 hc
 obtain ⟨p3, q3⟩ := mh_bd g3 hc
 obtain ⟨r3, s3⟩ := ml_bd g3 hc
 have j1 : 0 ≤ t1 ∧ t1 < 18446744073709551616 := by have := h1.out; omega
 have j2 : 0 ≤ t2 ∧ t2 < 18446744073709551616 := by have := h2.out; omega
 have j3 : 0 ≤ t3 ∧ t3 < 18446744073709551616 := by have := h3.out; omega
 obtain ⟨u1, v1⟩ := j1
 obtain ⟨u2, v2⟩ := j2
 obtain ⟨u3, v3⟩ := j3
 have x1 : mh a0 c + ml a0 c / 18446744073709551616 = t1 := by have := h1.out; omega
 have x2 : mh a1 c + (ml a1 c + t1) / 18446744073709551616 = t2 := h2.out.symm
 have x3 : mh a2 c + (ml a2 c + t2) / 18446744073709551616 = t3 := h3.out.symm
 have x4 : mh a3 c + (ml a3 c + t3) / 18446744073709551616 = t4 := h4.out.symm
 have y1 : ml a0 c % 18446744073709551616 = ml a0 c := by omega
 have i0 : ∀ w : World, (Instr.index 31 (.agg #[.int .u64 a0, .int .u64 a1, .int .u64 a2, .int .u64 a3]) (.int .i64 0)).run Tryd.prog w = .ok (.int .u64 a0) w := fun _ => by kernel_rfl
 have i1 : ∀ w : World, (Instr.index 31 (.agg #[.int .u64 a0, .int .u64 a1, .int .u64 a2, .int .u64 a3]) (.int .i64 1)).run Tryd.prog w = .ok (.int .u64 a1) w := fun _ => by kernel_rfl
 have i2 : ∀ w : World, (Instr.index 31 (.agg #[.int .u64 a0, .int .u64 a1, .int .u64 a2, .int .u64 a3]) (.int .i64 2)).run Tryd.prog w = .ok (.int .u64 a2) w := fun _ => by kernel_rfl
 have i3 : ∀ w : World, (Instr.index 31 (.agg #[.int .u64 a0, .int .u64 a1, .int .u64 a2, .int .u64 a3]) (.int .i64 3)).run Tryd.prog w = .ok (.int .u64 a3) w := fun _ => by kernel_rfl
 go_enter Tryd.func77, Tryd.ntmps77
 go_wp2
 refine wp_loop_rounds 5 ?_
 rw [rounds_succ]
 go_wp2_with (first | (go_at_call 87; refine (mul64 a0 c g0 hc _).mono ?_; rintro e w' ⟨rfl, rfl⟩) | simp only [add64_0 (ml a0 c) 0 r0 (Int.le_refl 0)])
 rw [rounds_succ]
 go_wp2_with (first | (go_at_call 87; refine (mul64 a1 c g1 hc _).mono ?_; rintro e w' ⟨rfl, rfl⟩) | simp only [add64_0 (ml a1 c) t1 r1 u1])
 rw [rounds_succ]
 go_wp2_with (first | (go_at_call 87; refine (mul64 a2 c g2 hc _).mono ?_; rintro e w' ⟨rfl, rfl⟩) | simp only [add64_0 (ml a2 c) t2 r2 u2])
 rw [rounds_succ]
 go_wp2_with (first | (go_at_call 87; refine (mul64 a3 c g3 hc _).mono ?_; rintro e w' ⟨rfl, rfl⟩) | simp only [add64_0 (ml a3 c) t3 r3 u3])
 rw [rounds_succ]
 go_wp2
 refine bodyPost_ret (by simp [results, Tryd.results77, go_sem]; rfl) rfl ?_
 refine ⟨rfl, ?_⟩
 repeat (first | exact Mo.refl _ | with_reducible apply Mo.drew | with_reducible apply Mo.drewN | with_reducible apply Mo.alloc | with_reducible refine Mo.setCell ?_ (by simp <;> omega) _ | with_reducible refine Mo.trans ?_ (by assumption))

theorem mulLimb_any (a0 a1 a2 a3 c : Int) (w : World) (ha : U4 a0 a1 a2 a3) (hc : U1 c) :
  Calls Tryd.prog 77 #[.agg #[.int .u64 a0, .int .u64 a1, .int .u64 a2, .int .u64 a3], .int .u64 c] w fun e w' =>
   e = .returned (.tuple #[nv (vl a0 a1 a2 a3 * c), .int .u64 (vl a0 a1 a2 a3 * c / MM)]) ∧ Mo w w' := by
 refine (mulLimb_raw a0 a1 a2 a3 c _ _ _ _ w ha hc rfl rfl rfl rfl).mono ?_
 rintro e w' ⟨rfl, hm⟩
 obtain ⟨e0, e1, e2, e3, e4⟩ := mull_eq ha hc rfl rfl rfl rfl
 refine ⟨?_, hm⟩
 rw [nv_of e0 e1 e2 e3, e4]
end Go.Proofs.YthgknegocfhdbaaDoor

/-
 Plain arithmetic of limb.Mul: one row more.
-/
namespace Go.Proofs.YthgknegocfhdbaaDoor
theorem row {p X R : Int} (_hp : 0 ≤ p) (_hp2 : p ≤ 2135987035920910082395021706169552114602704522356652769947041607822219725780640550022962086936576 - 115792089237316195423570985008687907853269984665640564039457584007913129639936) (_hX0 : 0 ≤ X) (_hX : X < MM) (_hR : R = p % MM) :
  l0 (X + R) = l0 (X + p) ∧ l1 (X + R) = l1 (X + p) ∧ l2 (X + R) = l2 (X + p) ∧ l3 (X + R) = l3 (X + p) ∧ p / MM + (X + R) / MM = l0 ((X + p) / MM) ∧ p / MM + (X + R) / MM < 18446744073709551616 ∧ 0 ≤ p / MM + (X + R) / MM ∧ l1 ((X + p) / MM) = 0 ∧ l2 ((X + p) / MM) = 0 ∧ l3 ((X + p) / MM) = 0 := by
 have e : p / MM + (X + R) / MM = (X + p) / MM := by unfold MM at *; omega
 have b1 : (X + p) / MM < 18446744073709551616 := by unfold MM at *; omega
 have b0 : 0 ≤ (X + p) / MM := by unfold MM at *; omega
 rw [e]
 refine ⟨?_, ?_, ?_, ?_, ?_, b1, b0, ?_, ?_, ?_⟩
 ·unfold l0; unfold MM at *; omega
 ·unfold l1; unfold MM at *; omega
 ·unfold l2; unfold MM at *; omega
 ·unfold l3; unfold MM at *; omega
 ·unfold l0; omega
 ·unfold l1; omega
 ·unfold l2; omega
 ·unfold l3; omega
theorem up {Y : Int} (h0 : 0 ≤ Y) (h1 : Y < 2135987035920910082395021706169552114602704522356652769947041607822219725780640550022962086936576) : vl (l1 Y) (l2 Y) (l3 Y) (l0 (Y / MM)) = Y / 18446744073709551616 := by
 have e : (Y / MM) = Y / 18446744073709551616 / 6277101735386680763835789423207666416102355444464034512896 := by unfold MM; omega
 have b : Y / 18446744073709551616 < MM := by unfold MM; omega
 have b0 : 0 ≤ Y / 18446744073709551616 := by omega
 have e1 : l1 Y = l0 (Y / 18446744073709551616) := by unfold l1 l0; rfl
 have e2 : l2 Y = l1 (Y / 18446744073709551616) := by unfold l2 l1; omega
 have e3 : l3 Y = l2 (Y / 18446744073709551616) := by unfold l3 l2; omega
 have e4 : l0 (Y / MM) = l3 (Y / 18446744073709551616) := by rw [e]; unfold l0 l3; rfl
 rw [e1, e2, e3, e4, vl_lb _ b0 b]
end Go.Proofs.YthgknegocfhdbaaDoor

/-
 limb.Div, whatever the numbers: the walk.
-/
namespace Go.Proofs.YthgknegocfhdbaaDoor
open Go.RowKit
def At0 (w : World) (k : Nat) : Prop := At4 w k 0 0 0 0 ∧ Fz w k ∧ k < w.heap.size
theorem At0.mo {w w' : World} {k : Nat} (h : At0 w k) (m : Mo w w') : At0 w' k := ⟨h.1.mo m h.2.2, h.2.1.mo m, Nat.lt_of_lt_of_le h.2.2 m.size⟩
theorem At0.new (w : World) : At0 (w.alloc (.cells #[.int .u64 0, .int .u64 0, .int .u64 0, .int .u64 0] 31)) w.heap.size :=
 ⟨by simp [At4, go_sem], fun o => by simp [go_sem], by simp⟩
theorem At0.mk1 {w w' : World} (m : Mo ((w.alloc (.cells #[.int .u64 0, .int .u64 0, .int .u64 0, .int .u64 0] 31)).drew) w') : At0 w' w.heap.size :=
 (At0.new w).mo (((Mo.refl _).drew).trans m)
theorem At0.mk2 {w w' : World} (m : Mo (w.alloc (.cells #[.int .u64 0, .int .u64 0, .int .u64 0, .int .u64 0] 31)) w') : At0 w' w.heap.size := (At0.new w).mo m
theorem At0.same {w : World} {k : Nat} (h : At0 w k) (z : Int) : AtN (st4 w k z) k z := by
 obtain ⟨⟨b0, b1, b2, b3⟩, f, s⟩ := h
 refine ⟨by simp [At4, go_sem, *], fun o => by simp [World.frozen?_setCell, f o], by simpa [World.setCell] using s⟩

theorem AtN.cell {w : World} {k j o : Nat} {n : Int} (h : AtN w j n) (hk : j ≠ k) (v : Value) : AtN (w.setCell ⟨k, o, none⟩ v) j n := by
 obtain ⟨⟨b0, b1, b2, b3⟩, f, s⟩ := h
 refine ⟨by simp [At4, go_sem, *], fun o => by simp [World.frozen?_setCell, f o], by simpa [World.setCell] using s⟩
end Go.Proofs.YthgknegocfhdbaaDoor

/-
 The document's Add and Sub, whatever the limbs: the walks.
-/
namespace Go.Proofs.YthgknegocfhdbaaDoor
open Go.RowKit
theorem vint {k : IntKind} {a b : Int} (h : a = b) : Value.int k a = .int k b := by rw [h]
theorem setl0 (X : World) (m N : Nat) (x0 x1 x2 x3 v u : Value) (hN : N = X.heap.size) (h : v = u) :
  ((X.alloc (.cells #[x0, x1, x2, x3] 31)).drewN m).setCell ⟨N, 0, none⟩ v = (X.alloc (.cells #[u, x1, x2, x3] 31)).drewN m := by
 subst hN; subst h
 show (((X.alloc (.cells #[x0, x1, x2, x3] 31)).setCell ⟨X.heap.size, 0, none⟩ v).drewN m) = _
 rw [World.setCell_alloc_at _ _ _ _ _ rfl]
 rfl
theorem setl1 (X : World) (m N : Nat) (x0 x1 x2 x3 v u : Value) (hN : N = X.heap.size) (h : v = u) :
  ((X.alloc (.cells #[x0, x1, x2, x3] 31)).drewN m).setCell ⟨N, 1, none⟩ v = (X.alloc (.cells #[x0, u, x2, x3] 31)).drewN m := by
 subst hN; subst h
 show (((X.alloc (.cells #[x0, x1, x2, x3] 31)).setCell ⟨X.heap.size, 1, none⟩ v).drewN m) = _
 rw [World.setCell_alloc_at _ _ _ _ _ rfl]
 rfl
theorem setl2 (X : World) (m N : Nat) (x0 x1 x2 x3 v u : Value) (hN : N = X.heap.size) (h : v = u) :
  ((X.alloc (.cells #[x0, x1, x2, x3] 31)).drewN m).setCell ⟨N, 2, none⟩ v = (X.alloc (.cells #[x0, x1, u, x3] 31)).drewN m := by
 subst hN; subst h
 show (((X.alloc (.cells #[x0, x1, x2, x3] 31)).setCell ⟨X.heap.size, 2, none⟩ v).drewN m) = _
 rw [World.setCell_alloc_at _ _ _ _ _ rfl]
 rfl
theorem setl3 (X : World) (m N : Nat) (x0 x1 x2 x3 v u : Value) (hN : N = X.heap.size) (h : v = u) :
  ((X.alloc (.cells #[x0, x1, x2, x3] 31)).drewN m).setCell ⟨N, 3, none⟩ v = (X.alloc (.cells #[x0, x1, x2, u] 31)).drewN m := by
 subst hN; subst h
 show (((X.alloc (.cells #[x0, x1, x2, x3] 31)).setCell ⟨X.heap.size, 3, none⟩ v).drewN m) = _
 rw [World.setCell_alloc_at _ _ _ _ _ rfl]
 rfl

set_option maxHeartbeats 4000000 in
theorem radd_raw (a0 a1 a2 a3 b0 b1 b2 b3 n1 n2 n3 n4 : Int) (w : World) (ha : U4 a0 a1 a2 a3) (hb : U4 b0 b1 b2 b3) (h1 : Hid (n1 = a0 + b0)) (h2 : Hid (n2 = a1 + b1 + n1 / 18446744073709551616)) (h3 : Hid (n3 = a2 + b2 + n2 / 18446744073709551616)) (h4 : Hid (n4 = a3 + b3 + n3 / 18446744073709551616)) :
  Calls Tryd.prog 65 #[.agg #[.int .u64 a0, .int .u64 a1, .int .u64 a2, .int .u64 a3], .agg #[.int .u64 b0, .int .u64 b1, .int .u64 b2, .int .u64 b3]] w fun e w' =>
   e = .returned (.tuple #[.agg #[.int .u64 (n1 % 18446744073709551616), .int .u64 (n2 % 18446744073709551616), .int .u64 (n3 % 18446744073709551616), .int .u64 (n4 % 18446744073709551616)], .bool (n4 / 18446744073709551616 == 1)]) ∧ Mo w w' := by
 obtain ⟨⟨p0, q0⟩, ⟨p1, q1⟩, ⟨p2, q2⟩, ⟨p3, q3⟩⟩ := ha
 obtain ⟨⟨r0, s0⟩, ⟨r1, s1⟩, ⟨r2, s2⟩, ⟨r3, s3⟩⟩ := hb
 have j1 : 0 ≤ n1 / 18446744073709551616 := by have := h1.out; omega
 have j1' : n1 / 18446744073709551616 ≤ 1 := by have := h1.out; omega
 have j2 : 0 ≤ n2 / 18446744073709551616 := by have := h2.out; omega
 have j2' : n2 / 18446744073709551616 ≤ 1 := by have := h2.out; omega
 have j3 : 0 ≤ n3 / 18446744073709551616 := by have := h3.out; omega
 have j3' : n3 / 18446744073709551616 ≤ 1 := by have := h3.out; omega
 go_enter Tryd.func65, Tryd.ntmps65
 go_wp2
 go_loopw [7, 8] (fun c i wr => ∃ m : Nat,
   (i = .int .i64 0 ∧ c = .int .u64 0 ∧ wr = ((((w.alloc (.cells #[.int .u64 a0, .int .u64 a1, .int .u64 a2, .int .u64 a3] 31)).alloc (.cells #[.int .u64 b0, .int .u64 b1, .int .u64 b2, .int .u64 b3] 31)).alloc (.cells #[.int .u64 0, .int .u64 0, .int .u64 0, .int .u64 0] 31)).alloc (.cells #[.int .u64 0, .int .u64 0, .int .u64 0, .int .u64 0] 31)).drewN m) ∨
   (i = .int .i64 1 ∧ c = .int .u64 (n1 / 18446744073709551616) ∧ wr = ((((w.alloc (.cells #[.int .u64 a0, .int .u64 a1, .int .u64 a2, .int .u64 a3] 31)).alloc (.cells #[.int .u64 b0, .int .u64 b1, .int .u64 b2, .int .u64 b3] 31)).alloc (.cells #[.int .u64 0, .int .u64 0, .int .u64 0, .int .u64 0] 31)).alloc (.cells #[.int .u64 (n1 % 18446744073709551616), .int .u64 0, .int .u64 0, .int .u64 0] 31)).drewN m) ∨
   (i = .int .i64 2 ∧ c = .int .u64 (n2 / 18446744073709551616) ∧ wr = ((((w.alloc (.cells #[.int .u64 a0, .int .u64 a1, .int .u64 a2, .int .u64 a3] 31)).alloc (.cells #[.int .u64 b0, .int .u64 b1, .int .u64 b2, .int .u64 b3] 31)).alloc (.cells #[.int .u64 0, .int .u64 0, .int .u64 0, .int .u64 0] 31)).alloc (.cells #[.int .u64 (n1 % 18446744073709551616), .int .u64 (n2 % 18446744073709551616), .int .u64 0, .int .u64 0] 31)).drewN m) ∨
   (i = .int .i64 3 ∧ c = .int .u64 (n3 / 18446744073709551616) ∧ wr = ((((w.alloc (.cells #[.int .u64 a0, .int .u64 a1, .int .u64 a2, .int .u64 a3] 31)).alloc (.cells #[.int .u64 b0, .int .u64 b1, .int .u64 b2, .int .u64 b3] 31)).alloc (.cells #[.int .u64 0, .int .u64 0, .int .u64 0, .int .u64 0] 31)).alloc (.cells #[.int .u64 (n1 % 18446744073709551616), .int .u64 (n2 % 18446744073709551616), .int .u64 (n3 % 18446744073709551616), .int .u64 0] 31)).drewN m) ∨
   (i = .int .i64 4 ∧ c = .int .u64 (n4 / 18446744073709551616) ∧ wr = ((((w.alloc (.cells #[.int .u64 a0, .int .u64 a1, .int .u64 a2, .int .u64 a3] 31)).alloc (.cells #[.int .u64 b0, .int .u64 b1, .int .u64 b2, .int .u64 b3] 31)).alloc (.cells #[.int .u64 0, .int .u64 0, .int .u64 0, .int .u64 0] 31)).alloc (.cells #[.int .u64 (n1 % 18446744073709551616), .int .u64 (n2 % 18446744073709551616), .int .u64 (n3 % 18446744073709551616), .int .u64 (n4 % 18446744073709551616)] 31)).drewN m)) (fun _ i _ => 4 - (intOf i).toNat)
 case atStart => exact ⟨0, Or.inl ⟨rfl, rfl, rfl⟩⟩
 case round =>
  obtain ⟨m, ⟨rfl, rfl, rfl⟩ | ⟨rfl, rfl, rfl⟩ | ⟨rfl, rfl, rfl⟩ | ⟨rfl, rfl, rfl⟩ | ⟨rfl, rfl, rfl⟩⟩ := hrel
  ·go_wp2
   go_quiet (fail)
   go_wp2
   all_goals
    go_roundw
    case rel =>
     have hn := h1.out
     simp only [IntKind.wrap_u64] at *
     refine ⟨m + nq, Or.inr (Or.inl ⟨by trivial, vint (by omega), ?_⟩)⟩
     exact setl0 _ _ _ _ _ _ _ _ _ (by simp) (vint (by omega))
    case measure => simp [intOf]
  ·go_wp2
   go_quiet (fail)
   go_wp2
   all_goals
    go_roundw
    case rel =>
     have hn := h2.out
     simp only [IntKind.wrap_u64] at *
     refine ⟨m + nq, Or.inr (Or.inr (Or.inl ⟨by trivial, vint (by omega), ?_⟩))⟩
     exact setl1 _ _ _ _ _ _ _ _ _ (by simp) (vint (by omega))
    case measure => simp [intOf]
  ·go_wp2
   go_quiet (fail)
   go_wp2
   all_goals
    go_roundw
    case rel =>
     have hn := h3.out
     simp only [IntKind.wrap_u64] at *
     refine ⟨m + nq, Or.inr (Or.inr (Or.inr (Or.inl ⟨by trivial, vint (by omega), ?_⟩)))⟩
     exact setl2 _ _ _ _ _ _ _ _ _ (by simp) (vint (by omega))
    case measure => simp [intOf]
  ·go_wp2
   go_quiet (fail)
   go_wp2
   all_goals
    go_roundw
    case rel =>
     have hn := h4.out
     simp only [IntKind.wrap_u64] at *
     refine ⟨m + nq, Or.inr (Or.inr (Or.inr (Or.inr ⟨by trivial, vint (by omega), ?_⟩)))⟩
     exact setl3 _ _ _ _ _ _ _ _ _ (by simp) (vint (by omega))
    case measure => simp [intOf]
  ·go_wp2
   refine bodyPost_ret (by simp [results, Tryd.results65, go_sem]; rfl) rfl ?_
   refine ⟨rfl, ?_⟩
   repeat (first | exact Mo.refl _ | with_reducible apply Mo.drew | with_reducible apply Mo.drewN | with_reducible apply Mo.alloc | with_reducible refine Mo.setCell ?_ (by simp <;> omega) _ | with_reducible refine Mo.trans ?_ (by assumption))

theorem ov_eq {a b c d e f g h : Int} (h1 : U4 a b c d) (h2 : U4 e f g h) : ((vl a b c d + vl e f g h) / MM == 1) = ov (vl a b c d + vl e f g h) := by
 obtain ⟨p, q⟩ := vl_bd h1; obtain ⟨r, s⟩ := vl_bd h2
 unfold ov; unfold MM at *
 rw [Bool.eq_iff_iff]; simp; omega

theorem radd_any (a0 a1 a2 a3 b0 b1 b2 b3 : Int) (w : World) (ha : U4 a0 a1 a2 a3) (hb : U4 b0 b1 b2 b3) :
  Calls Tryd.prog 65 #[.agg #[.int .u64 a0, .int .u64 a1, .int .u64 a2, .int .u64 a3], .agg #[.int .u64 b0, .int .u64 b1, .int .u64 b2, .int .u64 b3]] w fun e w' =>
   e = .returned (.tuple #[nv (vl a0 a1 a2 a3 + vl b0 b1 b2 b3), .bool (ov (vl a0 a1 a2 a3 + vl b0 b1 b2 b3))]) ∧ Mo w w' := by
 refine (radd_raw a0 a1 a2 a3 b0 b1 b2 b3 _ _ _ _ w ha hb rfl rfl rfl rfl).mono ?_
 rintro e w' ⟨rfl, hm⟩
 obtain ⟨e0, e1, e2, e3, e4⟩ := addc_eq ha hb rfl
 refine ⟨?_, hm⟩
 rw [nv_of e0 e1 e2 e3, e4, ov_eq ha hb]
end Go.Proofs.YthgknegocfhdbaaDoor

