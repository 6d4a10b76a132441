/-
  A part of the proof.
-/
import Derived.Test.YthgknegocfhdbaaDoorC1
import Derived.ChangeKeysEq
import Derived.Test.YthgknegocfhdbaaDoorC2
import Derived.Deep.CutRange
import Derived.Deep.CutBlock
import Derived.ScopeJumps
import Derived.WalkMore
import Derived.Laws.StructEq
import Derived.Deep.MidRow
/-
 Two arrays of four limbs held against each other: what the program's == says.
-/
namespace Go.Proofs.YthgknegocfhdbaaDoor
open Go.RowKit
theorem part0 (x0 x1 x2 x3 : Value) (w : World) : (part 29 #[x0, x1, x2, x3] 0).run Tryd.prog w = .ok x0 w := by kernel_rfl
theorem part1 (x0 x1 x2 x3 : Value) (w : World) : (part 29 #[x0, x1, x2, x3] 1).run Tryd.prog w = .ok x1 w := by kernel_rfl
theorem part2 (x0 x1 x2 x3 : Value) (w : World) : (part 29 #[x0, x1, x2, x3] 2).run Tryd.prog w = .ok x2 w := by kernel_rfl
theorem part3 (x0 x1 x2 x3 : Value) (w : World) : (part 29 #[x0, x1, x2, x3] 3).run Tryd.prog w = .ok x3 w := by kernel_rfl
theorem cells22 : Tryd.prog.cellsOf 29 = 1 := by kernel_rfl
theorem info22 : ∃ i, Tryd.prog.info? 29 = some i := Option.isSome_iff_exists.1 (by kernel_rfl)
theorem eq4 (a b c d e f g h : Int) (w : World) : (Op.equalIn 10000 31 (.agg #[.int .u64 a, .int .u64 b, .int .u64 c, .int .u64 d]) (.agg #[.int .u64 e, .int .u64 f, .int .u64 g, .int .u64 h])).run Tryd.prog w = .ok (a == e && (b == f && (c == g && d == h))) w := by
 obtain ⟨i, hi⟩ := info22
 rw [show (10000 : Nat) = 9998 + 1 + 1 from rfl, run_equalIn_array w (9998 + 1) _ _ Tryd.underlying31 hi, cells22]
 have q : ∀ (x y : Int), (Op.equalIn 9999 29 (.int .u64 x) (.int .u64 y)).run Tryd.prog w = .ok (x == y) w := fun x y => run_equalIn_int w 9998 29 .u64 .u64 x y Tryd.underlying29
 rw [show List.range 4 = [0, 1, 2, 3] from rfl]
 cases ha : a == e <;> cases hb : b == f <;> cases hc : c == g <;> cases hd : d == h <;> simp [Op.eqItems, Sem.run_bind, part0, part1, part2, part3, Result.andThen_ok, q, ha, hb, hc, hd, Sem.run_pure]
end Go.Proofs.YthgknegocfhdbaaDoor

/-
 limb.Mul, whatever the limbs: the walk.
-/
namespace Go.Proofs.YthgknegocfhdbaaDoor
open Go.RowKit
theorem At4.set {w : World} {k k' : Nat} {a b c d : Int} (h : At4 w k a b c d) (hk : k ≠ k') (o : Nat) (v : Value) : At4 (w.setCell ⟨k', o, none⟩ v) k a b c d := by
 obtain ⟨h0, h1, h2, h3⟩ := h
 have e : ∀ j, (w.setCell ⟨k', o, none⟩ v).cell? ⟨k, j, none⟩ = w.cell? ⟨k, j, none⟩ := fun j => World.cell?_of_block (Below.heap_setCell _ _ _ _ hk)
 exact ⟨(e 0).trans h0, (e 1).trans h1, (e 2).trans h2, (e 3).trans h3⟩
theorem Fz.set {w : World} {k : Nat} (h : Fz w k) (a : Addr) (v : Value) : Fz (w.setCell a v) k := fun o => (World.frozen?_setCell _ _ _ _).trans (h o)
end Go.Proofs.YthgknegocfhdbaaDoor

/-
 More small facts on worlds.
-/
namespace Go.Proofs.YthgknegocfhdbaaDoor
open Go.RowKit
theorem nv_add_mod (n m : Int) : nv (n % MM + m % MM) = nv (n + m) := by
 rw [← nv_mod (n % MM + m % MM), ← nv_mod (n + m), ← Int.add_emod]

theorem At4.st {w : World} {k j : Nat} {a b c d : Int} (h : At4 w j a b c d) (hk : j ≠ k) {z : Int} : At4 (st4 w k z) j a b c d :=
 (((h.set hk _ _).set hk _ _).set hk _ _).set hk _ _
end Go.Proofs.YthgknegocfhdbaaDoor

/-
 limb.Text, whatever the limbs: the walk. Decimal digits as plain lists.
-/
namespace Go.Proofs.YthgknegocfhdbaaDoor
open Go.RowKit
def strOf (ns : List Int) : ByteArray := ns.foldl (fun r n => r.push (UInt8.ofNat n.toNat)) ByteArray.empty
def Dg (w : World) (k p : Nat) (acc : List Int) : Prop := ∀ j, j < 78 → w.cell? ⟨k, j, none⟩ = some (.int .u8 (if j < p then 0 else acc.getD (j - p) 0))
theorem zero4 {q : Int} (h0 : 0 ≤ q) (h : q < MM) : (l0 q == 0 && (l1 q == 0 && (l2 q == 0 && l3 q == 0))) = decide (q = 0) := by
 have e := vl_lb q h0 h
 rw [Bool.eq_iff_iff]
 simp
 constructor
 ·rintro ⟨a, b, c, d⟩; rw [a, b, c, d] at e; rw [← e]; rfl
 ·rintro rfl; decide
theorem conv (W : World) (k p l c : Nat) (acc : List Int) (h : Dg W k p acc) (hp : p + acc.length = 78) (hl : l = acc.length) :
  (convert 62 9 (.slice (some ⟨k, p, none⟩) l c)).run Tryd.prog W = .ok (.string (strOf acc)) W := by
 subst hl
 rw [run_convert_bytes_string W 62 9 5 _ _ _ Tryd.underlying62 Tryd.underlying5 Tryd.underlying9, run_bytesToString W _ _ _ acc]
 ·rfl
 ·rw [show acc.length = (acc.map (Value.int .u8)).length by simp]
  refine run_loadCells_list W _ _ ?_
  intro j v hv
  rw [List.getElem?_map, Option.map_eq_some_iff] at hv
  obtain ⟨x, hx, rfl⟩ := hv
  have hj : j < acc.length := by
   rcases Nat.lt_or_ge j acc.length with h' | h'
   ·exact h'
   ·rw [List.getElem?_eq_none h'] at hx; cases hx
  rw [Addr.add_mid]
  have := h (p + j) (by omega)
  rw [if_neg (by omega), show p + j - p = j from by omega, List.getD, hx] at this
  exact this
end Go.Proofs.YthgknegocfhdbaaDoor

/-
 The contracts of limb's functions and of the document's, in plain numbers.
-/
namespace Go.Proofs.YthgknegocfhdbaaDoor
open Go.RowKit
theorem radd_n (A B : Int) (w : World) (hA0 : 0 ≤ A) (hAM : A < MM) (hB0 : 0 ≤ B) (hBM : B < MM) :
  Calls Tryd.prog 65 #[nv A, nv B] w fun e w' => e = .returned (.tuple #[nv (A + B), .bool (ov (A + B))]) ∧ Mo w w' := by
 have h := radd_any (l0 A) (l1 A) (l2 A) (l3 A) (l0 B) (l1 B) (l2 B) (l3 B) w (u4_lb A) (u4_lb B)
 rw [vl_lb A hA0 hAM, vl_lb B hB0 hBM] at h
 exact h
end Go.Proofs.YthgknegocfhdbaaDoor

/-
 Decimals as the program holds them, and the smallest functions of package decimal: the walks.
-/
namespace Go.Proofs.YthgknegocfhdbaaDoor
open Go.RowKit
abbrev dc (b : Bool) (n s : Int) : Value := .agg #[.bool b, .int .u64 (l0 n), .int .u64 (l1 n), .int .u64 (l2 n), .int .u64 (l3 n), .int .i64 s]
def sc (s : Int) : Bool := decide (0 ≤ s) && decide (s ≤ 18)
theorem zb {n : Int} (h0 : 0 ≤ n) (h : n < MM) : (l0 n == 0 && (l1 n == 0 && (l2 n == 0 && l3 n == 0))) = decide (n = 0) := zero4 h0 h
def ck (b : Bool) (n s : Int) : Int := if sc s && !(b && decide (n = 0)) then 0 else 20
end Go.Proofs.YthgknegocfhdbaaDoor

/-
 decimal.fit and cmpDouble: the walks.
-/
namespace Go.Proofs.YthgknegocfhdbaaDoor
open Go.RowKit
abbrev er (c : Int) : Value := .tuple #[.agg #[.bool false, .int .u64 0, .int .u64 0, .int .u64 0, .int .u64 0, .int .i64 0], .int .i64 c]
end Go.Proofs.YthgknegocfhdbaaDoor

/-
 Decimals as whole numbers with a scale; decimal.fit by them.
-/
namespace Go.Proofs.YthgknegocfhdbaaDoor
open Go.RowKit
def ab (v : Int) : Int := if v < 0 then -v else v
abbrev dz (v s : Int) : Value := dc (decide (v < 0)) (ab v) s
def fz (v s : Int) : Value := if ab v < MM then .tuple #[dz v s, .int .i64 0] else er 7
end Go.Proofs.YthgknegocfhdbaaDoor

/-
 Numbers of twice as many bits as one row of cells: laid and read whole.
-/
namespace Go.Proofs.YthgknegocfhdbaaDoor
open Go.RowKit
theorem Mo.there {w w' : World} {k n : Nat} (m : Mo w w') (h : w.there k 0 n) (hk : k < w.heap.size) : w'.there k 0 n := fun j hj => by
 rw [m.cell k _ hk, m.2]; exact h j hj
theorem Mo.setCells {a : World} {k : Nat} (hk : a.heap.size ≤ k) : ∀ (l : List Value) (o : Nat) (b : World), Mo a b → Mo a (b.setCells k o l)
 | [], _, _, h => h
 | v :: r, o, b, h => by rw [World.setCells]; exact Mo.setCells hk r (o + 1) _ (h.setCell hk v)
theorem there_new (w : World) : (w.alloc (.cells #[.int .u64 0, .int .u64 0, .int .u64 0, .int .u64 0, .int .u64 0, .int .u64 0, .int .u64 0, .int .u64 0] 64)).there w.heap.size 0 8 := fun j hj => by
 have hq : j = 0 ∨ j = 1 ∨ j = 2 ∨ j = 3 ∨ j = 4 ∨ j = 5 ∨ j = 6 ∨ j = 7 := by omega
 rcases hq with rfl | rfl | rfl | rfl | rfl | rfl | rfl | rfl <;> simp [go_sem]
end Go.Proofs.YthgknegocfhdbaaDoor

/-
 This program's types: how many cells they have; a builtin.
-/
namespace Go.Proofs.YthgknegocfhdbaaDoor
theorem sz3 : (Tryd.prog.info? 3).map (·.size) = some 1 := by kernel_rfl
theorem sz24 : (Tryd.prog.info? 31).map (·.size) = some 4 := by kernel_rfl
end Go.Proofs.YthgknegocfhdbaaDoor

/-
 decimal.MulTo: the walk.
-/
namespace Go.Proofs.YthgknegocfhdbaaDoor
open Go.RowKit
theorem T81.mk2 {w w' : World} (m : Mo (w.alloc (.cells #[.int .u64 0, .int .u64 0, .int .u64 0, .int .u64 0, .int .u64 0, .int .u64 0, .int .u64 0, .int .u64 0] 64)) w') : w'.there w.heap.size 0 8 ∧ w.heap.size < w'.heap.size :=
 ⟨m.there (there_new w) (by simp), by have := m.size; simp at this; omega⟩
theorem T81.mk1 {w w' : World} (m : Mo ((w.alloc (.cells #[.int .u64 0, .int .u64 0, .int .u64 0, .int .u64 0, .int .u64 0, .int .u64 0, .int .u64 0, .int .u64 0] 64)).drew) w') : w'.there w.heap.size 0 8 ∧ w.heap.size < w'.heap.size := T81.mk2 ((Mo.refl _).drew.trans m)
end Go.Proofs.YthgknegocfhdbaaDoor

/-
 exciselaw02.begun answers true.
-/
namespace Go.Proofs.YthgknegocfhdbaaDoor
open Go.RowKit
theorem guard_run {op : BinOp} {ty : TypeId} {a b : Array Value} {w : World} (x y : Operand) (hg : Tryd.prog.eqGuardType Tryd.prog.depth ty = false) : (eqGuard op ty x y (.agg a) (.agg b)).run Tryd.prog w = .ok () w := by
 unfold eqGuard
 cases op <;> simp [hg]
theorem nea_run {ty : TypeId} {a b : Array Value} {r : Bool} {w : World} (hg : Tryd.prog.eqGuardType Tryd.prog.depth ty = false) (q : (Op.equalIn 10000 ty (.agg a) (.agg b)).run Tryd.prog w = .ok r w) (x y : Operand) :
  (do eqGuard .neq ty x y (.agg a) (.agg b); binOp .neq ty (.agg a) (.agg b)).run Tryd.prog w = .ok (.bool (!r)) w := by
 have e : binOp .neq ty (.agg a) (.agg b) = (do pure (.bool (!(← Op.equalIn 10000 ty (.agg a) (.agg b))))) := rfl
 rw [Sem.run_bind, guard_run x y hg, e, Result.andThen_ok, Sem.run_bind, q]; rfl
theorem gt24 : Tryd.prog.eqGuardType Tryd.prog.depth 31 = false := by kernel_rfl
theorem nen_run {n0 n1 n2 n3 m0 m1 m2 m3 : Int} {r : Bool} (h : (n0 == m0 && (n1 == m1 && (n2 == m2 && n3 == m3))) = r) (x y : Operand) (w : World) :
  (do eqGuard .neq 31 x y (.agg #[.int .u64 n0, .int .u64 n1, .int .u64 n2, .int .u64 n3]) (.agg #[.int .u64 m0, .int .u64 m1, .int .u64 m2, .int .u64 m3]); binOp .neq 31 (.agg #[.int .u64 n0, .int .u64 n1, .int .u64 n2, .int .u64 n3]) (.agg #[.int .u64 m0, .int .u64 m1, .int .u64 m2, .int .u64 m3])).run Tryd.prog w = .ok (.bool (!r)) w :=
 nea_run gt24 (by rw [← h]; exact eq4 n0 n1 n2 n3 m0 m1 m2 m3 w) x y
end Go.Proofs.YthgknegocfhdbaaDoor

/-
 Trim, the program's and the document's.
-/
namespace Go.Proofs.YthgknegocfhdbaaDoor
open Go.RowKit
abbrev nvli (n : Int) : List Value := [.int .u64 (l0 n), .int .u64 (l1 n), .int .u64 (l2 n), .int .u64 (l3 n)]
abbrev nvar (n : Int) : Array Value := #[.int .u64 (l0 n), .int .u64 (l1 n), .int .u64 (l2 n), .int .u64 (l3 n)]
abbrev z40l : List Value := [.bool false, .int .u64 0, .int .u64 0, .int .u64 0, .int .u64 0, .int .i64 0]
theorem from69_n (w : World) : Calls Tryd.prog 64 #[.int .u64 10] w fun e w' => e = .returned (nv 10) ∧ Mo w w' := from34_any 10 w ⟨by decide, by decide⟩
theorem Ds.two {sp : List Sp} {f : Nat → Value} {w : World} (i j : Nat) (h : ∀ q, spNew (spAt sp q) = true → q = i ∨ q = j) (h1 : ∀ k, f i = pt k 0 → k < w.heap.size) (h2 : ∀ k, f j = pt k 0 → k < w.heap.size) (h3 : ∀ k, f i = pt k 0 → f j ≠ pt k 0) : Ds sp f w := by
 refine ⟨fun q hq k hk => ?_, fun q r hq hr hne k hk hk2 => ?_⟩
 ·rcases h q hq with rfl | rfl
  ·exact h1 k hk
  ·exact h2 k hk
 ·rcases h q hq with rfl | rfl <;> rcases h r hr with rfl | rfl
  ·exact hne rfl
  ·exact h3 k hk hk2
  ·exact h3 k hk2 hk
  ·exact hne rfl
end Go.Proofs.YthgknegocfhdbaaDoor

/-
 Plain facts on decimal digits: what Text writes is digits, and says its number.
-/
namespace Go.Proofs.YthgknegocfhdbaaDoor
theorem strOf_list (ns : List Int) : (strOf ns).data.toList = ns.map (fun n => UInt8.ofNat n.toNat) := by
 have g : ∀ (l : List Int) (b : ByteArray), (l.foldl (fun r n => r.push (UInt8.ofNat n.toNat)) b).data.toList = b.data.toList ++ l.map (fun n => UInt8.ofNat n.toNat) := by
  intro l
  induction l with
  | nil => intro b; simp
  | cons x l ih => intro b; rw [List.foldl_cons, ih]; simp [ByteArray.push]
 unfold strOf
 rw [g]
 simp
end Go.Proofs.YthgknegocfhdbaaDoor

/-
 dectext.Text and Short, whatever the number.
-/
namespace Go.Proofs.YthgknegocfhdbaaDoor.V
open Go.RowKit Go.Lib
theorem sz26 : (Tryd.prog.info? 33).map (·.size) = some 6 := by kernel_rfl
theorem neE {a b : Int} {r : Bool} (h : (a == b) = r) (x y : Operand) (w : World) : (do eqGuard .neq 23 x y (.int .i64 a) (.int .i64 b); binOp .neq 23 (.int .i64 a) (.int .i64 b)).run Tryd.prog w = .ok (.bool (!r)) w := by
 subst h; kernel_rfl
theorem cat_run (a b : ByteArray) (h : a.size + b.size ≤ 9223372036854775807) (x y : Operand) (w : World) : (do eqGuard .add 9 x y (.string a) (.string b); binOp .add 9 (.string a) (.string b)).run Tryd.prog w = .ok (.string (a ++ b)) w := by
 have h2 : ¬ 9223372036854775807 < a.size + b.size := by omega
 simp [go_sem, h2]
theorem hcat (l : List UInt8) (h : l.length ≤ 1000) : (⟨#[45]⟩ : ByteArray).size + (⟨l.toArray⟩ : ByteArray).size ≤ 9223372036854775807 := by
 have : (⟨l.toArray⟩ : ByteArray).size = l.length := by rw [← by8_len]
 rw [this]; show 1 + _ ≤ _; omega
end Go.Proofs.YthgknegocfhdbaaDoor.V

/-
 limb.appendDigit, whatever the number and the digit: the walk.
-/
namespace Go.Proofs.YthgknegocfhdbaaDoor
open Go.RowKit
def fits (A d : Int) : Bool := decide (A * 10 + d < MM)
theorem At0.st {w : World} {k j : Nat} (h : At0 w j) (hk : j ≠ k) (z : Int) : At0 (st4 w k z) j := by
 obtain ⟨⟨b0, b1, b2, b3⟩, f, s⟩ := h
 refine ⟨by simp [At4, go_sem, *], fun o => by simp [World.frozen?_setCell, f o], by simpa [World.setCell] using s⟩
set_option maxHeartbeats 1000000 in
theorem apd_any (A c : Int) (w : World) (hA0 : 0 ≤ A) (hAM : A < MM) (hc0 : 48 ≤ c) (hc1 : c ≤ 57) :
  Calls Tryd.prog 72 #[nv A, .int .u8 c] w fun e w' =>
   e = .returned (.tuple #[nv (A * 10 + (c - 48)), .bool (fits A (c - 48))]) ∧ Mo w w' := by
 have hT : (A * 10 / MM = 0 ∧ (!ov (A * 10 % MM + (c - 48))) = fits A (c - 48)) ∨ (A * 10 / MM ≠ 0 ∧ fits A (c - 48) = false) := by
  by_cases h : A * 10 / MM = 0
  ·refine Or.inl ⟨h, ?_⟩
   unfold ov fits
   rw [Bool.eq_iff_iff]
   simp
   unfold MM at *
   omega
  ·refine Or.inr ⟨h, decide_eq_false ?_⟩
   unfold MM at *
   omega
 have H1 : Hid (nv (A * 10 % MM + (c - 48) % MM) = nv (A * 10 + (c - 48))) := nv_add_mod _ _
 have H2 : Hid ((c - 48) % MM = c - 48) := by show _ = _; unfold MM; omega
 have hu : U1 (c - 48) := ⟨by omega, by omega⟩
 have w8 : IntKind.u8.wrap (c - 48) = c - 48 := by rw [IntKind.wrap_u8]; omega
 have w64 : IntKind.u64.wrap (c - 48) = c - 48 := by rw [IntKind.wrap_u64]; omega
 go_enter Tryd.func72, Tryd.ntmps72
 go_wp2_with fail
 refine (mulLimb_any (l0 A) (l1 A) (l2 A) (l3 A) 10 _ (u4_lb A) ⟨by decide, by decide⟩).mono ?_
 rintro e w1 ⟨rfl, hm1⟩
 rw [vl_lb A hA0 hAM]
 have Z1 : At0 w1 (w.heap.size + 1) := At0.mo ⟨by simp [At4, go_sem], fun o => by simp [go_sem], by simp⟩ hm1
 have M1 : Mo w w1 := (((Mo.refl _).alloc _ _).alloc _ _).trans hm1
 have a : Mo w1 (w1.alloc (.cells #[.int .u64 (l0 (A * 10)), .int .u64 (l1 (A * 10)), .int .u64 (l2 (A * 10)), .int .u64 (l3 (A * 10))] 31)) := (Mo.refl _).alloc _ _
 have Z2 := Z1.mo a
 have M2 := M1.trans a
 have n2 := AtN.new w1 (A * 10)
 have hz : w.heap.size + 1 < w1.heap.size := Z1.2.2
 clear hm1 a M1 Z1
 go_upto_region 2 with fail
 revert Z2 M2 n2
 generalize w1.alloc (.cells #[.int .u64 (l0 (A * 10)), .int .u64 (l1 (A * 10)), .int .u64 (l2 (A * 10)), .int .u64 (l3 (A * 10))] 31) = W0
 intro Z2 M2 n2
 go_cut [8, 9] from 15 to 23 (fun s8 s9 wx => ∃ k, s8 = .pointer (some ⟨k, 0, none⟩) ∧ s9 = .bool (ov (A * 10 % MM + (c - 48))) ∧ w.heap.size + 1 < k ∧ Mo w wx ∧ At0 wx (w.heap.size + 1) ∧ AtN wx k (A * 10 + (c - 48)))
 case first =>
  have nz := n2
  obtain ⟨⟨i0, i1, i2, i3⟩, _, x0⟩ := nz
  go_region_held3 (fun w' => w'.cell? ⟨w1.heap.size, 0, none⟩ = some (.int .u64 (l0 (A * 10))) ∧ w'.cell? ⟨w1.heap.size, 1, none⟩ = some (.int .u64 (l1 (A * 10))) ∧ w'.cell? ⟨w1.heap.size, 2, none⟩ = some (.int .u64 (l2 (A * 10))) ∧ w'.cell? ⟨w1.heap.size, 3, none⟩ = some (.int .u64 (l3 (A * 10)))) (simp [go_sem, World.cell?_alloc_past, *])
   (first | (go_at_call 79; refine (from20_any (c - 48) _ hu).mono ?_; rintro e w2 ⟨rfl, hm2⟩; have m2 : Mo W0 w2 := Mo.trans (by repeat (first | with_reducible exact Mo.refl _ | with_reducible apply Mo.drew | with_reducible apply Mo.alloc)) hm2; (try (with_reducible have k2 := At0.mk1 hm2)); obtain ⟨⟨e0, e1, e2, e3⟩, _, y1⟩ := n2.mo m2) | (go_at_call 78; refine (add_any (l0 (A * 10)) (l1 (A * 10)) (l2 (A * 10)) (l3 (A * 10)) (l0 (c - 48)) (l1 (c - 48)) (l2 (c - 48)) (l3 (c - 48)) _ (u4_lb _) (u4_lb _)).mono ?_; rintro e w3 ⟨rfl, hm3⟩; rw [vl_nv (A * 10), vl_nv (c - 48), H1.out, H2.out]; have m3 : Mo w2 w3 := Mo.trans (by repeat (first | with_reducible exact Mo.refl _ | with_reducible apply Mo.drew | with_reducible apply Mo.alloc)) hm3; (try (with_reducible have k3 := At0.mk2 hm3)); (try (with_reducible have k3 := k2.mo m3)); (try have k4 := k3); (try obtain ⟨⟨g0, g1, g2, g3⟩, ff, y9⟩ := k3); (try have ff := fun o => ff o); obtain ⟨⟨f0, f1, f2, f3⟩, _, y2⟩ := n2.mo (m2.trans m3)))
  all_goals
   go_wp2
   go_meet
   case rel =>
    have m := m2.trans m3
    have z1 := m2.size
    have z2 := m3.size
    refine ⟨_, rfl, rfl, by omega, ?_, ?_, ?_⟩
    ·first | with_reducible exact (M2.trans m).alloc _ _ | exact (M2.trans m).st4 (by omega) _
    ·first | with_reducible exact (Z2.mo m).mo ((Mo.refl _).alloc _ _) | exact (Z2.mo m).st (by omega) _
    ·first | with_reducible exact AtN.new _ _ | exact k4.same _
 case rest =>
  obtain ⟨k, rfl, rfl, hk, M, Z, n⟩ := hcut
  obtain ⟨⟨i0, i1, i2, i3⟩, _, x0⟩ := n
  have Zz := Z
  obtain ⟨⟨c0, c1, c2, c3⟩, fc, zc⟩ := Zz
  have fc := fun o => fc o
  clear Z2 M2 n2
  rcases hT with ⟨hT, hf⟩ | ⟨hT, hf⟩
  ·have tb : (A * 10 / MM == 0) = true := by rw [hT]; rfl
   have HF : Hid _ := hf
   clear hT hf
   go_wp2
   refine bodyPost_ret (v := .tuple #[nv (A * 10 + (c - 48)), .bool (!ov (A * 10 % MM + (c - 48)))]) (by simp [results, Tryd.results72, go_sem, c0, c1, c2, c3]) rfl ?_
   exact ⟨by rw [HF.out], M.st4 (by omega) _⟩
  ·have tb : (A * 10 / MM == 0) = false := by simp [hT]
   have HF : Hid _ := hf
   clear hT hf
   go_wp2
   refine bodyPost_ret (v := .tuple #[nv (A * 10 + (c - 48)), .bool false]) (by simp [results, Tryd.results72, go_sem, c0, c1, c2, c3]) rfl ?_
   exact ⟨by rw [HF.out], M.st4 (by omega) _⟩
end Go.Proofs.YthgknegocfhdbaaDoor

/-
 limb.Parse of a text of digits whose number has room: the walk.
-/
namespace Go.Proofs.YthgknegocfhdbaaDoor
open Go.RowKit
def pv (l : List UInt8) : Int := l.foldl (fun v c => v * 10 + ((c.toNat : Int) - 48)) 0
theorem pv_snoc (l : List UInt8) (c : UInt8) : pv (l ++ [c]) = pv l * 10 + ((c.toNat : Int) - 48) := by unfold pv; rw [List.foldl_append]; rfl
end Go.Proofs.YthgknegocfhdbaaDoor

/-
 Texts: isDigits, Parse, and the document's Parse, at every text.
-/
namespace Go.Proofs.YthgknegocfhdbaaDoor
open Go.RowKit
theorem eqe_run {s : ByteArray} {r : Bool} (h : s.toList.isEmpty = r) (x y : Operand) (w : World) : (do eqGuard .eql 9 x y (.string s) (.string ⟨#[]⟩); binOp .eql 9 (.string s) (.string ⟨#[]⟩)).run Tryd.prog w = .ok (.bool r) w := by
 subst h; simp [go_sem]
theorem idx_s (s : ByteArray) (k : Nat) (h : k < s.size) (w : World) : (Instr.index 9 (.string s) (.int .i64 (k : Int))).run Tryd.prog w = .ok (.int .u8 (s[k].toNat : Int)) w := by
 simp [go_sem, h]
theorem len_run (ρ : Operand → Value) (x : Operand) (s : ByteArray) (hx : ρ x = .string s) (dst : Option Tmp) (type : TypeId) (pos : String) (after : Array Edge) (guard : Option (Nat × Bool)) (w : World) : (execOp ρ { dst, op := .call { callee := .builtin .len, args := #[x], argTypes := #[9] }, type, pos, after, guard }).run Tryd.prog w = .ok (.value (.int .i64 (s.size : Int))) w := by
 simp [go_sem, hx]
theorem ls5 {a b : Int} {r : Bool} (h : decide (a < b) = r) (x y : Operand) (w : World) : (do eqGuard .lss 5 x y (.int .u8 a) (.int .u8 b); binOp .lss 5 (.int .u8 a) (.int .u8 b)).run Tryd.prog w = .ok (.bool r) w := by
 subst h; kernel_rfl
theorem add1_run {k : Nat} (hk : k ≤ 9223372036854775806) (x y : Operand) (w : World) : (do eqGuard .add 3 x y (.int .i64 (k : Int)) (.int .i64 1); binOp .add 3 (.int .i64 (k : Int)) (.int .i64 1)).run Tryd.prog w = .ok (.int .i64 ((k + 1 : Nat) : Int)) w := by
 have e : (do eqGuard .add 3 x y (.int .i64 (k : Int)) (.int .i64 1); binOp .add 3 (.int .i64 (k : Int)) (.int .i64 1)).run Tryd.prog w = .ok (.int .i64 (IntKind.i64.wrap ((k : Int) + 1))) w := by kernel_rfl
 have h : IntKind.i64.wrap ((k : Int) + 1) = ((k + 1 : Nat) : Int) := by rw [IntKind.wrap_i64]; omega
 rw [e, h]
theorem gt5_run {a b : Int} {r : Bool} (h : decide (a > b) = r) (x y : Operand) (w : World) : (do eqGuard .gtr 5 x y (.int .u8 a) (.int .u8 b); binOp .gtr 5 (.int .u8 a) (.int .u8 b)).run Tryd.prog w = .ok (.bool r) w := by
 subst h; kernel_rfl
theorem eq5_run {a b : Int} {r : Bool} (h : (a == b) = r) (x y : Operand) (w : World) : (do eqGuard .eql 5 x y (.int .u8 a) (.int .u8 b); binOp .eql 5 (.int .u8 a) (.int .u8 b)).run Tryd.prog w = .ok (.bool r) w := by
 subst h; kernel_rfl
theorem lt3_run {a b : Int} {r : Bool} (h : decide (a < b) = r) (x y : Operand) (w : World) : (do eqGuard .lss 3 x y (.int .i64 a) (.int .i64 b); binOp .lss 3 (.int .i64 a) (.int .i64 b)).run Tryd.prog w = .ok (.bool r) w := by
 subst h; kernel_rfl
theorem gt3_run {a b : Int} {r : Bool} (h : decide (a > b) = r) (x y : Operand) (w : World) : (do eqGuard .gtr 3 x y (.int .i64 a) (.int .i64 b); binOp .gtr 3 (.int .i64 a) (.int .i64 b)).run Tryd.prog w = .ok (.bool r) w := by
 subst h; kernel_rfl
theorem idx_0 (s : ByteArray) (h : 0 < s.size) (w : World) : (Instr.index 9 (.string s) (.int .i64 0)).run Tryd.prog w = .ok (.int .u8 (s[0].toNat : Int)) w := idx_s s 0 h w
def dgs (s : ByteArray) (k : Nat) : Prop := ∀ (j : Nat) (h : j < s.size), j < k → 48 ≤ (s[j].toNat : Int) ∧ (s[j].toNat : Int) ≤ 57
def isT (s : ByteArray) : Prop := ∃ h : 0 < s.size, ¬ (s.size > 1 ∧ (s[0].toNat : Int) = 48) ∧ dgs s s.size
theorem isT_mk {s : ByteArray} {k : Nat} (hp : 0 < s.size) (hl : ¬ (s.size > 1 ∧ (s[0].toNat : Int) = 48)) (hk : k = s.size) (hd : dgs s k) : isT s := ⟨hp, hl, by rw [← hk]; exact hd⟩
theorem emp_iff (s : ByteArray) : s.toList.isEmpty = decide (s.size = 0) := by
 rw [ByteArray.toList_eq]
 have e : s.size = s.data.toList.length := by rw [Array.length_toList]; rfl
 rw [e]
 cases s.data.toList <;> rfl
theorem dgs_succ {s : ByteArray} {k : Nat} (h : k < s.size) (hd : dgs s k) (a : 48 ≤ (s[k].toNat : Int)) (b : (s[k].toNat : Int) ≤ 57) : dgs s (k + 1) := fun j hj hjk => by
 by_cases e : j = k
 ·subst e; exact ⟨a, b⟩
 ·exact hd j hj (by omega)
theorem isd_emp (s : ByteArray) (w : World) (h0 : s.toList.isEmpty = true) : Calls Tryd.prog 71 #[.string s] w fun e w' => e = .returned (.bool false) ∧ Mo w w' := by
 refine w_enter 32 Tryd.func71 Tryd.ntmps71 rfl rfl ?_
 have M : Mo w w := Mo.refl _
 refine w_seq (w_reg ?_)
 refine wl_m (.const (.bool false)) (.bool false) ?_
 refine w_nil (xn_then (w_seq (w_seq (w_reg ?_))))
 refine wl_m (.tmp 0) (.string s) ?_
 refine wl_b .eql 9 (.tmp 4) (.const (.string ⟨#[]⟩)) (.string s) (.string ⟨#[]⟩) (.bool true) (eqe_run h0 _ _ _) ?_
 refine wl_m (.tmp 5) (.bool true) ?_
 refine wl_skip rfl (wl_skip rfl (wl_skip rfl (wl_skip rfl (wl_skip rfl (wl_skip rfl (wl_skip rfl (wl_skip rfl ?_)))))))
 refine wl_pick (.tmp 6) (.const (.bool true)) (.tmp 14) true (.bool true) (fun _ => rfl) rfl rfl rfl ?_
 refine w_nil (xn_then (w_condT rfl (w_seq (w_reg ?_))))
 refine wl_m (.const (.bool false)) (.bool false) ?_
 refine w_nil (xn_then (w_ret (xr_then ?_)))
 exact w_ret1 _ _ rfl rfl ⟨rfl, M⟩
theorem isd_lead (s : ByteArray) (w : World) (h0 : s.toList.isEmpty = false) (hp : 0 < s.size) (h1 : decide ((s.size : Int) > 1) = true) (hz : ((s[0].toNat : Int) == 48) = true) : Calls Tryd.prog 71 #[.string s] w fun e w' => e = .returned (.bool false) ∧ Mo w w' := by
 refine w_enter 32 Tryd.func71 Tryd.ntmps71 rfl rfl ?_
 have M : Mo w w := Mo.refl _
 refine w_seq (w_reg ?_)
 refine wl_m (.const (.bool false)) (.bool false) ?_
 refine w_nil (xn_then (w_seq (w_seq (w_reg ?_))))
 refine wl_m (.tmp 0) (.string s) ?_
 refine wl_b .eql 9 (.tmp 4) (.const (.string ⟨#[]⟩)) (.string s) (.string ⟨#[]⟩) (.bool false) (eqe_run h0 _ _ _) ?_
 refine wl_m (.tmp 5) (.bool false) ?_
 refine wl_m (.tmp 0) (.string s) ?_
 refine wl_val (.int .i64 ((s.size : Int))) (len_run _ _ s rfl _ _ _ _ _ _) rfl ?_
 refine wl_b .gtr 3 (.tmp 8) (.const (.int .i64 (1))) (.int .i64 ((s.size : Int))) (.int .i64 (1)) (.bool true) (gt3_run h1 _ _ _) ?_
 refine wl_m (.tmp 9) (.bool true) ?_
 refine wl_m (.tmp 0) (.string s) ?_
 refine wl_bin (fun x y => Instr.index 9 x y) (.tmp 11) (.const (.int .i64 (0))) (.string s) (.int .i64 (0)) (.int .u8 (s[0].toNat : Int)) (fun _ => rfl) rfl rfl (idx_0 s hp _) rfl ?_
 refine wl_b .eql 5 (.tmp 12) (.const (.int .u8 (48))) (.int .u8 (s[0].toNat : Int)) (.int .u8 (48)) (.bool true) (eq5_run hz _ _ _) ?_
 refine wl_pick (.tmp 10) (.tmp 13) (.const (.bool false)) true (.bool true) (fun _ => rfl) rfl rfl rfl ?_
 refine wl_pick (.tmp 6) (.const (.bool true)) (.tmp 14) false (.bool true) (fun _ => rfl) rfl rfl rfl ?_
 refine w_nil (xn_then (w_condT rfl (w_seq (w_reg ?_))))
 refine wl_m (.const (.bool false)) (.bool false) ?_
 refine w_nil (xn_then (w_ret (xr_then ?_)))
 exact w_ret1 _ _ rfl rfl ⟨rfl, M⟩
theorem isd_l1 (s : ByteArray) (w : World) [Decidable (isT s)] (hs : s.size ≤ maxLen) (h0 : s.toList.isEmpty = false) (hp : 0 < s.size) (hlead : ¬ (s.size > 1 ∧ (s[0].toNat : Int) = 48)) (h1 : decide ((s.size : Int) > 1) = false) : Calls Tryd.prog 71 #[.string s] w fun e w' => e = .returned (.bool (decide (isT s))) ∧ Mo w w' := by
 refine w_enter 32 Tryd.func71 Tryd.ntmps71 rfl rfl ?_
 have M : Mo w w := Mo.refl _
 refine w_seq (w_reg ?_)
 refine wl_m (.const (.bool false)) (.bool false) ?_
 refine w_nil (xn_then (w_seq (w_seq (w_reg ?_))))
 refine wl_m (.tmp 0) (.string s) ?_
 refine wl_b .eql 9 (.tmp 4) (.const (.string ⟨#[]⟩)) (.string s) (.string ⟨#[]⟩) (.bool false) (eqe_run h0 _ _ _) ?_
 refine wl_m (.tmp 5) (.bool false) ?_
 refine wl_m (.tmp 0) (.string s) ?_
 refine wl_val (.int .i64 ((s.size : Int))) (len_run _ _ s rfl _ _ _ _ _ _) rfl ?_
 refine wl_b .gtr 3 (.tmp 8) (.const (.int .i64 (1))) (.int .i64 ((s.size : Int))) (.int .i64 (1)) (.bool false) (gt3_run h1 _ _ _) ?_
 refine wl_m (.tmp 9) (.bool false) ?_
 refine wl_skip rfl (wl_skip rfl (wl_skip rfl ?_))
 refine wl_pick (.tmp 10) (.tmp 13) (.const (.bool false)) false (.bool false) (fun _ => rfl) rfl rfl rfl ?_
 refine wl_pick (.tmp 6) (.const (.bool true)) (.tmp 14) false (.bool false) (fun _ => rfl) rfl rfl rfl ?_
 refine w_nil (xn_then (w_condF rfl (w_skip (xn_then (w_seq (w_seq (w_reg ?_)))))))
 refine wl_m (.tmp 0) (.string s) ?_
 refine wl_val (.int .i64 ((s.size : Int))) (len_run _ _ s rfl _ _ _ _ _ _) rfl ?_
 refine wl_m (.const (.int .i64 (0))) (.int .i64 (0)) ?_
 refine w_nil (xn_then (w_block ?_))
 refine w_loop (fun m l w1 => ∃ k : Nat, k + m = s.size ∧ look l 0 = .string s ∧ look l 17 = .int .i64 (s.size : Int) ∧ look l 18 = .int .i64 (k : Int) ∧ dgs s k ∧ Mo w w1) s.size ⟨0, by omega, rfl, rfl, rfl, fun j _ h => absurd h (Nat.not_lt_zero _), M⟩ ?_
 clear M
 rintro m l wl ⟨k, hk, e0, e17, e18, hd, M⟩
 by_cases hlt : k < s.size
 ·have hl : decide ((k : Int) < (s.size : Int)) = true := decide_eq_true (by omega)
  cases ha : decide ((s[k].toNat : Int) < 48) with
  | true =>
   refine w_seq (w_reg ?_)
   refine wl_bin (fun x y => do eqGuard .lss 3 (.tmp 18) (.tmp 17) x y; binOp .lss 3 x y) (.tmp 18) (.tmp 17) (.int .i64 ((k : Int))) (.int .i64 ((s.size : Int))) (.bool true) (fun _ => rfl) e18 e17 (lt3_run hl _ _ _) rfl ?_
   refine w_nil (xn_then (w_seq (w_condT rfl (w_skip (xn_then (w_seq (w_block (w_seq (w_reg ?_)))))))))
   refine wl_mv (.tmp 18) (.int .i64 ((k : Int))) (fun _ => rfl) e18 rfl ?_
   refine wl_m (.tmp 20) (.int .i64 ((k : Int))) ?_
   refine w_nil (xn_then (w_seq (w_reg ?_)))
   refine wl_mv (.tmp 0) (.string s) (fun _ => rfl) e0 rfl ?_
   refine wl_m (.tmp 3) (.int .i64 ((k : Int))) ?_
   refine wl_bin (fun x y => Instr.index 9 x y) (.tmp 21) (.tmp 22) (.string s) (.int .i64 ((k : Int))) (.int .u8 (s[k].toNat : Int)) (fun _ => rfl) rfl rfl (idx_s s k hlt _) rfl ?_
   refine wl_b .lss 5 (.tmp 23) (.const (.int .u8 (48))) (.int .u8 (s[k].toNat : Int)) (.int .u8 (48)) (.bool true) (ls5 ha _ _ _) ?_
   refine wl_m (.tmp 24) (.bool true) ?_
   refine wl_skip rfl (wl_skip rfl (wl_skip rfl (wl_skip rfl ?_)))
   refine wl_pick (.tmp 25) (.const (.bool true)) (.tmp 29) true (.bool true) (fun _ => rfl) rfl rfl rfl ?_
   refine w_nil (xn_then (w_condT rfl (w_seq (w_reg ?_))))
   refine wl_m (.const (.bool false)) (.bool false) ?_
   refine w_nil (xn_then (w_ret (xr_blk (xr_then (xr_then (xr_blk (xr_then ?_)))))))
   exact w_ret1 _ (.bool false) rfl rfl ⟨by rw [decide_eq_false (fun hT : isT s => by obtain ⟨_, _, h3⟩ := hT; have := h3 k hlt hlt; have := of_decide_eq_true ha; omega)], M⟩
  | false =>
   cases hb : decide ((s[k].toNat : Int) > 57) with
   | true =>
    refine w_seq (w_reg ?_)
    refine wl_bin (fun x y => do eqGuard .lss 3 (.tmp 18) (.tmp 17) x y; binOp .lss 3 x y) (.tmp 18) (.tmp 17) (.int .i64 ((k : Int))) (.int .i64 ((s.size : Int))) (.bool true) (fun _ => rfl) e18 e17 (lt3_run hl _ _ _) rfl ?_
    refine w_nil (xn_then (w_seq (w_condT rfl (w_skip (xn_then (w_seq (w_block (w_seq (w_reg ?_)))))))))
    refine wl_mv (.tmp 18) (.int .i64 ((k : Int))) (fun _ => rfl) e18 rfl ?_
    refine wl_m (.tmp 20) (.int .i64 ((k : Int))) ?_
    refine w_nil (xn_then (w_seq (w_reg ?_)))
    refine wl_mv (.tmp 0) (.string s) (fun _ => rfl) e0 rfl ?_
    refine wl_m (.tmp 3) (.int .i64 ((k : Int))) ?_
    refine wl_bin (fun x y => Instr.index 9 x y) (.tmp 21) (.tmp 22) (.string s) (.int .i64 ((k : Int))) (.int .u8 (s[k].toNat : Int)) (fun _ => rfl) rfl rfl (idx_s s k hlt _) rfl ?_
    refine wl_b .lss 5 (.tmp 23) (.const (.int .u8 (48))) (.int .u8 (s[k].toNat : Int)) (.int .u8 (48)) (.bool false) (ls5 ha _ _ _) ?_
    refine wl_m (.tmp 24) (.bool false) ?_
    refine wl_mv (.tmp 0) (.string s) (fun _ => rfl) e0 rfl ?_
    refine wl_m (.tmp 3) (.int .i64 ((k : Int))) ?_
    refine wl_bin (fun x y => Instr.index 9 x y) (.tmp 26) (.tmp 27) (.string s) (.int .i64 ((k : Int))) (.int .u8 (s[k].toNat : Int)) (fun _ => rfl) rfl rfl (idx_s s k hlt _) rfl ?_
    refine wl_b .gtr 5 (.tmp 28) (.const (.int .u8 (57))) (.int .u8 (s[k].toNat : Int)) (.int .u8 (57)) (.bool true) (gt5_run hb _ _ _) ?_
    refine wl_pick (.tmp 25) (.const (.bool true)) (.tmp 29) false (.bool true) (fun _ => rfl) rfl rfl rfl ?_
    refine w_nil (xn_then (w_condT rfl (w_seq (w_reg ?_))))
    refine wl_m (.const (.bool false)) (.bool false) ?_
    refine w_nil (xn_then (w_ret (xr_blk (xr_then (xr_then (xr_blk (xr_then ?_)))))))
    exact w_ret1 _ (.bool false) rfl rfl ⟨by rw [decide_eq_false (fun hT : isT s => by obtain ⟨_, _, h3⟩ := hT; have := h3 k hlt hlt; have := of_decide_eq_true hb; omega)], M⟩
   | false =>
    refine w_seq (w_reg ?_)
    refine wl_bin (fun x y => do eqGuard .lss 3 (.tmp 18) (.tmp 17) x y; binOp .lss 3 x y) (.tmp 18) (.tmp 17) (.int .i64 ((k : Int))) (.int .i64 ((s.size : Int))) (.bool true) (fun _ => rfl) e18 e17 (lt3_run hl _ _ _) rfl ?_
    refine w_nil (xn_then (w_seq (w_condT rfl (w_skip (xn_then (w_seq (w_block (w_seq (w_reg ?_)))))))))
    refine wl_mv (.tmp 18) (.int .i64 ((k : Int))) (fun _ => rfl) e18 rfl ?_
    refine wl_m (.tmp 20) (.int .i64 ((k : Int))) ?_
    refine w_nil (xn_then (w_seq (w_reg ?_)))
    refine wl_mv (.tmp 0) (.string s) (fun _ => rfl) e0 rfl ?_
    refine wl_m (.tmp 3) (.int .i64 ((k : Int))) ?_
    refine wl_bin (fun x y => Instr.index 9 x y) (.tmp 21) (.tmp 22) (.string s) (.int .i64 ((k : Int))) (.int .u8 (s[k].toNat : Int)) (fun _ => rfl) rfl rfl (idx_s s k hlt _) rfl ?_
    refine wl_b .lss 5 (.tmp 23) (.const (.int .u8 (48))) (.int .u8 (s[k].toNat : Int)) (.int .u8 (48)) (.bool false) (ls5 ha _ _ _) ?_
    refine wl_m (.tmp 24) (.bool false) ?_
    refine wl_mv (.tmp 0) (.string s) (fun _ => rfl) e0 rfl ?_
    refine wl_m (.tmp 3) (.int .i64 ((k : Int))) ?_
    refine wl_bin (fun x y => Instr.index 9 x y) (.tmp 26) (.tmp 27) (.string s) (.int .i64 ((k : Int))) (.int .u8 (s[k].toNat : Int)) (fun _ => rfl) rfl rfl (idx_s s k hlt _) rfl ?_
    refine wl_b .gtr 5 (.tmp 28) (.const (.int .u8 (57))) (.int .u8 (s[k].toNat : Int)) (.int .u8 (57)) (.bool false) (gt5_run hb _ _ _) ?_
    refine wl_pick (.tmp 25) (.const (.bool true)) (.tmp 29) false (.bool false) (fun _ => rfl) rfl rfl rfl ?_
    refine w_nil (xn_then (w_condF rfl (w_skip (xn_blk (xn_then (w_reg ?_))))))
    refine wl_bin (fun x y => do eqGuard .add 3 (.tmp 18) (.const (.int .i64 (1))) x y; binOp .add 3 x y) (.tmp 18) (.const (.int .i64 (1))) (.int .i64 ((k : Int))) (.int .i64 (1)) (.int .i64 (((k + 1 : Nat) : Int))) (fun _ => rfl) e18 rfl (add1_run (by unfold maxLen at hs; omega) _ _ _) rfl ?_
    refine wl_m (.tmp 31) (.int .i64 (((k + 1 : Nat) : Int))) ?_
    refine w_nil ?_
    exact xn_loop (s.size - (k + 1)) (by omega) ⟨k + 1, by omega, e0, e17, rfl, dgs_succ hlt hd (by have := of_decide_eq_false ha; omega) (by have := of_decide_eq_false hb; omega), M⟩
 ·have hl : decide ((k : Int) < (s.size : Int)) = false := decide_eq_false (by omega)
  refine w_seq (w_reg ?_)
  refine wl_bin (fun x y => do eqGuard .lss 3 (.tmp 18) (.tmp 17) x y; binOp .lss 3 x y) (.tmp 18) (.tmp 17) (.int .i64 ((k : Int))) (.int .i64 ((s.size : Int))) (.bool false) (fun _ => rfl) e18 e17 (lt3_run hl _ _ _) rfl ?_
  refine w_nil (xn_then (w_seq (w_condF rfl (w_exit (xx_then (xx_then (xx_blk (xn_then (w_seq (w_reg ?_))))))))))
  refine wl_m (.const (.bool true)) (.bool true) ?_
  refine w_nil (xn_then (w_ret ?_))
  exact w_ret1 _ (.bool true) rfl rfl ⟨by rw [decide_eq_true (isT_mk hp hlead (by omega) hd)], M⟩
theorem isd_l2 (s : ByteArray) (w : World) [Decidable (isT s)] (hs : s.size ≤ maxLen) (h0 : s.toList.isEmpty = false) (hp : 0 < s.size) (hlead : ¬ (s.size > 1 ∧ (s[0].toNat : Int) = 48)) (h1 : decide ((s.size : Int) > 1) = true) (hz : ((s[0].toNat : Int) == 48) = false) : Calls Tryd.prog 71 #[.string s] w fun e w' => e = .returned (.bool (decide (isT s))) ∧ Mo w w' := by
 refine w_enter 32 Tryd.func71 Tryd.ntmps71 rfl rfl ?_
 have M : Mo w w := Mo.refl _
 refine w_seq (w_reg ?_)
 refine wl_m (.const (.bool false)) (.bool false) ?_
 refine w_nil (xn_then (w_seq (w_seq (w_reg ?_))))
 refine wl_m (.tmp 0) (.string s) ?_
 refine wl_b .eql 9 (.tmp 4) (.const (.string ⟨#[]⟩)) (.string s) (.string ⟨#[]⟩) (.bool false) (eqe_run h0 _ _ _) ?_
 refine wl_m (.tmp 5) (.bool false) ?_
 refine wl_m (.tmp 0) (.string s) ?_
 refine wl_val (.int .i64 ((s.size : Int))) (len_run _ _ s rfl _ _ _ _ _ _) rfl ?_
 refine wl_b .gtr 3 (.tmp 8) (.const (.int .i64 (1))) (.int .i64 ((s.size : Int))) (.int .i64 (1)) (.bool true) (gt3_run h1 _ _ _) ?_
 refine wl_m (.tmp 9) (.bool true) ?_
 refine wl_m (.tmp 0) (.string s) ?_
 refine wl_bin (fun x y => Instr.index 9 x y) (.tmp 11) (.const (.int .i64 (0))) (.string s) (.int .i64 (0)) (.int .u8 (s[0].toNat : Int)) (fun _ => rfl) rfl rfl (idx_0 s hp _) rfl ?_
 refine wl_b .eql 5 (.tmp 12) (.const (.int .u8 (48))) (.int .u8 (s[0].toNat : Int)) (.int .u8 (48)) (.bool false) (eq5_run hz _ _ _) ?_
 refine wl_pick (.tmp 10) (.tmp 13) (.const (.bool false)) true (.bool false) (fun _ => rfl) rfl rfl rfl ?_
 refine wl_pick (.tmp 6) (.const (.bool true)) (.tmp 14) false (.bool false) (fun _ => rfl) rfl rfl rfl ?_
 refine w_nil (xn_then (w_condF rfl (w_skip (xn_then (w_seq (w_seq (w_reg ?_)))))))
 refine wl_m (.tmp 0) (.string s) ?_
 refine wl_val (.int .i64 ((s.size : Int))) (len_run _ _ s rfl _ _ _ _ _ _) rfl ?_
 refine wl_m (.const (.int .i64 (0))) (.int .i64 (0)) ?_
 refine w_nil (xn_then (w_block ?_))
 refine w_loop (fun m l w1 => ∃ k : Nat, k + m = s.size ∧ look l 0 = .string s ∧ look l 17 = .int .i64 (s.size : Int) ∧ look l 18 = .int .i64 (k : Int) ∧ dgs s k ∧ Mo w w1) s.size ⟨0, by omega, rfl, rfl, rfl, fun j _ h => absurd h (Nat.not_lt_zero _), M⟩ ?_
 clear M
 rintro m l wl ⟨k, hk, e0, e17, e18, hd, M⟩
 by_cases hlt : k < s.size
 ·have hl : decide ((k : Int) < (s.size : Int)) = true := decide_eq_true (by omega)
  cases ha : decide ((s[k].toNat : Int) < 48) with
  | true =>
   refine w_seq (w_reg ?_)
   refine wl_bin (fun x y => do eqGuard .lss 3 (.tmp 18) (.tmp 17) x y; binOp .lss 3 x y) (.tmp 18) (.tmp 17) (.int .i64 ((k : Int))) (.int .i64 ((s.size : Int))) (.bool true) (fun _ => rfl) e18 e17 (lt3_run hl _ _ _) rfl ?_
   refine w_nil (xn_then (w_seq (w_condT rfl (w_skip (xn_then (w_seq (w_block (w_seq (w_reg ?_)))))))))
   refine wl_mv (.tmp 18) (.int .i64 ((k : Int))) (fun _ => rfl) e18 rfl ?_
   refine wl_m (.tmp 20) (.int .i64 ((k : Int))) ?_
   refine w_nil (xn_then (w_seq (w_reg ?_)))
   refine wl_mv (.tmp 0) (.string s) (fun _ => rfl) e0 rfl ?_
   refine wl_m (.tmp 3) (.int .i64 ((k : Int))) ?_
   refine wl_bin (fun x y => Instr.index 9 x y) (.tmp 21) (.tmp 22) (.string s) (.int .i64 ((k : Int))) (.int .u8 (s[k].toNat : Int)) (fun _ => rfl) rfl rfl (idx_s s k hlt _) rfl ?_
   refine wl_b .lss 5 (.tmp 23) (.const (.int .u8 (48))) (.int .u8 (s[k].toNat : Int)) (.int .u8 (48)) (.bool true) (ls5 ha _ _ _) ?_
   refine wl_m (.tmp 24) (.bool true) ?_
   refine wl_skip rfl (wl_skip rfl (wl_skip rfl (wl_skip rfl ?_)))
   refine wl_pick (.tmp 25) (.const (.bool true)) (.tmp 29) true (.bool true) (fun _ => rfl) rfl rfl rfl ?_
   refine w_nil (xn_then (w_condT rfl (w_seq (w_reg ?_))))
   refine wl_m (.const (.bool false)) (.bool false) ?_
   refine w_nil (xn_then (w_ret (xr_blk (xr_then (xr_then (xr_blk (xr_then ?_)))))))
   exact w_ret1 _ (.bool false) rfl rfl ⟨by rw [decide_eq_false (fun hT : isT s => by obtain ⟨_, _, h3⟩ := hT; have := h3 k hlt hlt; have := of_decide_eq_true ha; omega)], M⟩
  | false =>
   cases hb : decide ((s[k].toNat : Int) > 57) with
   | true =>
    refine w_seq (w_reg ?_)
    refine wl_bin (fun x y => do eqGuard .lss 3 (.tmp 18) (.tmp 17) x y; binOp .lss 3 x y) (.tmp 18) (.tmp 17) (.int .i64 ((k : Int))) (.int .i64 ((s.size : Int))) (.bool true) (fun _ => rfl) e18 e17 (lt3_run hl _ _ _) rfl ?_
    refine w_nil (xn_then (w_seq (w_condT rfl (w_skip (xn_then (w_seq (w_block (w_seq (w_reg ?_)))))))))
    refine wl_mv (.tmp 18) (.int .i64 ((k : Int))) (fun _ => rfl) e18 rfl ?_
    refine wl_m (.tmp 20) (.int .i64 ((k : Int))) ?_
    refine w_nil (xn_then (w_seq (w_reg ?_)))
    refine wl_mv (.tmp 0) (.string s) (fun _ => rfl) e0 rfl ?_
    refine wl_m (.tmp 3) (.int .i64 ((k : Int))) ?_
    refine wl_bin (fun x y => Instr.index 9 x y) (.tmp 21) (.tmp 22) (.string s) (.int .i64 ((k : Int))) (.int .u8 (s[k].toNat : Int)) (fun _ => rfl) rfl rfl (idx_s s k hlt _) rfl ?_
    refine wl_b .lss 5 (.tmp 23) (.const (.int .u8 (48))) (.int .u8 (s[k].toNat : Int)) (.int .u8 (48)) (.bool false) (ls5 ha _ _ _) ?_
    refine wl_m (.tmp 24) (.bool false) ?_
    refine wl_mv (.tmp 0) (.string s) (fun _ => rfl) e0 rfl ?_
    refine wl_m (.tmp 3) (.int .i64 ((k : Int))) ?_
    refine wl_bin (fun x y => Instr.index 9 x y) (.tmp 26) (.tmp 27) (.string s) (.int .i64 ((k : Int))) (.int .u8 (s[k].toNat : Int)) (fun _ => rfl) rfl rfl (idx_s s k hlt _) rfl ?_
    refine wl_b .gtr 5 (.tmp 28) (.const (.int .u8 (57))) (.int .u8 (s[k].toNat : Int)) (.int .u8 (57)) (.bool true) (gt5_run hb _ _ _) ?_
    refine wl_pick (.tmp 25) (.const (.bool true)) (.tmp 29) false (.bool true) (fun _ => rfl) rfl rfl rfl ?_
    refine w_nil (xn_then (w_condT rfl (w_seq (w_reg ?_))))
    refine wl_m (.const (.bool false)) (.bool false) ?_
    refine w_nil (xn_then (w_ret (xr_blk (xr_then (xr_then (xr_blk (xr_then ?_)))))))
    exact w_ret1 _ (.bool false) rfl rfl ⟨by rw [decide_eq_false (fun hT : isT s => by obtain ⟨_, _, h3⟩ := hT; have := h3 k hlt hlt; have := of_decide_eq_true hb; omega)], M⟩
   | false =>
    refine w_seq (w_reg ?_)
    refine wl_bin (fun x y => do eqGuard .lss 3 (.tmp 18) (.tmp 17) x y; binOp .lss 3 x y) (.tmp 18) (.tmp 17) (.int .i64 ((k : Int))) (.int .i64 ((s.size : Int))) (.bool true) (fun _ => rfl) e18 e17 (lt3_run hl _ _ _) rfl ?_
    refine w_nil (xn_then (w_seq (w_condT rfl (w_skip (xn_then (w_seq (w_block (w_seq (w_reg ?_)))))))))
    refine wl_mv (.tmp 18) (.int .i64 ((k : Int))) (fun _ => rfl) e18 rfl ?_
    refine wl_m (.tmp 20) (.int .i64 ((k : Int))) ?_
    refine w_nil (xn_then (w_seq (w_reg ?_)))
    refine wl_mv (.tmp 0) (.string s) (fun _ => rfl) e0 rfl ?_
    refine wl_m (.tmp 3) (.int .i64 ((k : Int))) ?_
    refine wl_bin (fun x y => Instr.index 9 x y) (.tmp 21) (.tmp 22) (.string s) (.int .i64 ((k : Int))) (.int .u8 (s[k].toNat : Int)) (fun _ => rfl) rfl rfl (idx_s s k hlt _) rfl ?_
    refine wl_b .lss 5 (.tmp 23) (.const (.int .u8 (48))) (.int .u8 (s[k].toNat : Int)) (.int .u8 (48)) (.bool false) (ls5 ha _ _ _) ?_
    refine wl_m (.tmp 24) (.bool false) ?_
    refine wl_mv (.tmp 0) (.string s) (fun _ => rfl) e0 rfl ?_
    refine wl_m (.tmp 3) (.int .i64 ((k : Int))) ?_
    refine wl_bin (fun x y => Instr.index 9 x y) (.tmp 26) (.tmp 27) (.string s) (.int .i64 ((k : Int))) (.int .u8 (s[k].toNat : Int)) (fun _ => rfl) rfl rfl (idx_s s k hlt _) rfl ?_
    refine wl_b .gtr 5 (.tmp 28) (.const (.int .u8 (57))) (.int .u8 (s[k].toNat : Int)) (.int .u8 (57)) (.bool false) (gt5_run hb _ _ _) ?_
    refine wl_pick (.tmp 25) (.const (.bool true)) (.tmp 29) false (.bool false) (fun _ => rfl) rfl rfl rfl ?_
    refine w_nil (xn_then (w_condF rfl (w_skip (xn_blk (xn_then (w_reg ?_))))))
    refine wl_bin (fun x y => do eqGuard .add 3 (.tmp 18) (.const (.int .i64 (1))) x y; binOp .add 3 x y) (.tmp 18) (.const (.int .i64 (1))) (.int .i64 ((k : Int))) (.int .i64 (1)) (.int .i64 (((k + 1 : Nat) : Int))) (fun _ => rfl) e18 rfl (add1_run (by unfold maxLen at hs; omega) _ _ _) rfl ?_
    refine wl_m (.tmp 31) (.int .i64 (((k + 1 : Nat) : Int))) ?_
    refine w_nil ?_
    exact xn_loop (s.size - (k + 1)) (by omega) ⟨k + 1, by omega, e0, e17, rfl, dgs_succ hlt hd (by have := of_decide_eq_false ha; omega) (by have := of_decide_eq_false hb; omega), M⟩
 ·have hl : decide ((k : Int) < (s.size : Int)) = false := decide_eq_false (by omega)
  refine w_seq (w_reg ?_)
  refine wl_bin (fun x y => do eqGuard .lss 3 (.tmp 18) (.tmp 17) x y; binOp .lss 3 x y) (.tmp 18) (.tmp 17) (.int .i64 ((k : Int))) (.int .i64 ((s.size : Int))) (.bool false) (fun _ => rfl) e18 e17 (lt3_run hl _ _ _) rfl ?_
  refine w_nil (xn_then (w_seq (w_condF rfl (w_exit (xx_then (xx_then (xx_blk (xn_then (w_seq (w_reg ?_))))))))))
  refine wl_m (.const (.bool true)) (.bool true) ?_
  refine w_nil (xn_then (w_ret ?_))
  exact w_ret1 _ (.bool true) rfl rfl ⟨by rw [decide_eq_true (isT_mk hp hlead (by omega) hd)], M⟩
theorem isd_n (s : ByteArray) (w : World) [Decidable (isT s)] (hs : s.size ≤ maxLen) : Calls Tryd.prog 71 #[.string s] w fun e w' => e = .returned (.bool (decide (isT s))) ∧ Mo w w' := by
 by_cases hp : 0 < s.size
 ·have h0 : s.toList.isEmpty = false := by rw [emp_iff]; exact decide_eq_false (by omega)
  cases h1 : decide ((s.size : Int) > 1) with
  | false => exact isd_l1 s w hs h0 hp (fun h => by have := of_decide_eq_false h1; omega) h1
  | true =>
   cases hz : ((s[0].toNat : Int) == 48) with
   | false => exact isd_l2 s w hs h0 hp (fun h => by rw [h.2] at hz; simp at hz) h1 hz
   | true =>
    rw [decide_eq_false (fun hT : isT s => by obtain ⟨_, h, _⟩ := hT; exact h ⟨by have := of_decide_eq_true h1; omega, by simpa using hz⟩)]
    exact isd_lead s w h0 hp h1 hz
 ·rw [decide_eq_false (fun hT : isT s => by obtain ⟨h, _⟩ := hT; exact hp h)]
  exact isd_emp s w (by rw [emp_iff]; exact decide_eq_true (by omega))
end Go.Proofs.YthgknegocfhdbaaDoor

/-
 The document's plus and minus of two wide numbers: the walks.
-/
namespace Go.Proofs.YthgknegocfhdbaaDoor
open Go.RowKit
theorem radd_m (A B : Int) (w : World) : Calls Tryd.prog 65 #[nv A, nv B] w fun e w' => e = .returned (.tuple #[nv (A % MM + B % MM), .bool (ov (A % MM + B % MM))]) ∧ Mo w w' := by
 have h := radd_any (l0 A) (l1 A) (l2 A) (l3 A) (l0 B) (l1 B) (l2 B) (l3 B) w (u4_lb A) (u4_lb B)
 rw [vl_nv, vl_nv] at h
 exact h
end Go.Proofs.YthgknegocfhdbaaDoor

