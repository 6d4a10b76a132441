/-
  A part of the proof.
-/
import Derived.Test.YthfemlhmnjfjiaaProg
import Derived.WalkKit
import Derived.WalkSpells
import Derived.Handy
import Derived.BigQuiet
import Derived.Deep.RegionHeld3
import Derived.Shelf.Small.Bits
import Derived.Shelf.Strconv.Itoa0
import Derived.Shelf.Bits.Mul64
import Derived.Deep.CutBlock
import Derived.Deep.CutRange
import Derived.ChangeKeysEq
import Derived.ScopeJumps
import Derived.WalkMore
import Derived.RegionTactic
import Derived.Deep.MidRow
import Derived.BigCall
/-
 Plain arithmetic of numbers in four limbs of 64 bits: no program in sight.
-/
namespace Go.Proofs.Ythfemlhmnjfjiaa
open Go.RowKit

def vl (a b c d : Int) : Int := a + 18446744073709551616 * b + 340282366920938463463374607431768211456 * c + 6277101735386680763835789423207666416102355444464034512896 * d
def l0 (n : Int) : Int := n % 18446744073709551616
def l1 (n : Int) : Int := n / 18446744073709551616 % 18446744073709551616
def l2 (n : Int) : Int := n / 340282366920938463463374607431768211456 % 18446744073709551616
def l3 (n : Int) : Int := n / 6277101735386680763835789423207666416102355444464034512896 % 18446744073709551616
def MM : Int := 115792089237316195423570985008687907853269984665640564039457584007913129639936
def U1 (a : Int) : Prop := 0 ≤ a ∧ a < 18446744073709551616
def U4 (a b c d : Int) : Prop := U1 a ∧ U1 b ∧ U1 c ∧ U1 d

abbrev nv (n : Int) : Value := .agg #[.int .u64 (l0 n), .int .u64 (l1 n), .int .u64 (l2 n), .int .u64 (l3 n)]

theorem u4_lb (n : Int) : U4 (l0 n) (l1 n) (l2 n) (l3 n) := by unfold U4 U1 l0 l1 l2 l3; omega
theorem vl_lb (n : Int) (h0 : 0 ≤ n) (h : n < MM) : vl (l0 n) (l1 n) (l2 n) (l3 n) = n := by unfold vl l0 l1 l2 l3; unfold MM at h; omega
theorem vl_bd {a b c d : Int} (h : U4 a b c d) : 0 ≤ vl a b c d ∧ vl a b c d < MM := by unfold vl MM; unfold U4 U1 at h; omega
theorem nv_of {a b c d n : Int} (h0 : a = l0 n) (h1 : b = l1 n) (h2 : c = l2 n) (h3 : d = l3 n) : (Value.agg #[.int .u64 a, .int .u64 b, .int .u64 c, .int .u64 d]) = nv n := by
 rw [h0, h1, h2, h3]
theorem nv_inj {n m : Int} (hn0 : 0 ≤ n) (hn : n < MM) (hm0 : 0 ≤ m) (hm : m < MM) (h : l0 n = l0 m ∧ l1 n = l1 m ∧ l2 n = l2 m ∧ l3 n = l3 m) : n = m := by
 rw [← vl_lb n hn0 hn, ← vl_lb m hm0 hm, h.1, h.2.1, h.2.2.1, h.2.2.2]

def cm (a b : Int) : Int := if a < b then -1 else if b < a then 1 else 0
theorem ret_int {k : IntKind} {a b : Int} (h : a = b) : Ending.returned (.int k a) = .returned (.int k b) := by rw [h]

def Mo (w w' : World) : Prop := Below w.heap.size w w' ∧ ∀ a, w'.frozen? a = w.frozen? a
theorem Mo.refl (w : World) : Mo w w := ⟨Below.refl _ _, fun _ => rfl⟩
theorem Mo.trans {a b c : World} (h : Mo a b) (k : Mo b c) : Mo a c :=
 ⟨h.1.trans (k.1.mono h.1.size), fun x => (k.2 x).trans (h.2 x)⟩
theorem Mo.drew {a b : World} (h : Mo a b) : Mo a b.drew := ⟨h.1.drew, h.2⟩
theorem Mo.drewN {a b : World} (h : Mo a b) (n : Nat) : Mo a (b.drewN n) := ⟨h.1.trans ⟨rfl, rfl, rfl, Nat.le_refl _, fun _ _ => rfl⟩, h.2⟩
theorem Mo.alloc {a b : World} (h : Mo a b) (c : Array Value) (t : TypeId) : Mo a (b.alloc (.cells c t)) :=
 ⟨h.1.alloc h.1.size _, fun x => (frozen?_alloc_cells _ _ _ x).trans (h.2 x)⟩
theorem Mo.setCell {a b : World} (h : Mo a b) {p : Addr} (hp : a.heap.size ≤ p.block) (v : Value) : Mo a (b.setCell p v) :=
 ⟨h.1.setCell hp v, fun x => (World.frozen?_setCell _ _ _ _).trans (h.2 x)⟩
theorem Mo.size {a b : World} (h : Mo a b) : a.heap.size ≤ b.heap.size := h.1.size
theorem Mo.cell {a b : World} (h : Mo a b) : ∀ k o, k < a.heap.size → b.cell? ⟨k, o, none⟩ = a.cell? ⟨k, o, none⟩ := fun k o hk => h.1.cell (p := ⟨k, o, none⟩) hk

theorem add64 (x y c : Int) (hx : 0 ≤ x) (hy : 0 ≤ y) (hc0 : 0 ≤ c) (hc : c ≤ 1) (w : World) : (callFunc 74 #[.int .u64 x, .int .u64 y, .int .u64 c]).run Try.prog w =
  .ok (.value (.tuple #[.int .u64 ((x + y + c) % 18446744073709551616), .int .u64 ((x + y + c) / 18446744073709551616)])) w := by
 rw [run_callFunc_extern Try.func74 (by kernel_rfl) (by kernel_rfl) (by kernel_rfl) (e := add64Entry) (by kernel_rfl), run_add64 x y c hx hy hc0 hc]
 rfl
theorem add64_0 (x y : Int) (hx : 0 ≤ x) (hy : 0 ≤ y) (w : World) : (callFunc 74 #[.int .u64 x, .int .u64 y, .int .u64 0]).run Try.prog w =
  .ok (.value (.tuple #[.int .u64 ((x + y) % 18446744073709551616), .int .u64 ((x + y) / 18446744073709551616)])) w := by
 simpa using add64 x y 0 hx hy (Int.le_refl 0) (by decide) w
theorem vl_nv (n : Int) : vl (l0 n) (l1 n) (l2 n) (l3 n) = n % MM := by unfold vl l0 l1 l2 l3 MM; omega
theorem nv_mod (n : Int) : nv (n % MM) = nv n := by
 have h0 : l0 (n % MM) = l0 n := by unfold l0 MM; omega
 have h1 : l1 (n % MM) = l1 n := by unfold l1 MM; omega
 have h2 : l2 (n % MM) = l2 n := by unfold l2 MM; omega
 have h3 : l3 (n % MM) = l3 n := by unfold l3 MM; omega
 rw [nv, h0, h1, h2, h3]
theorem nat_not (a : Nat) (h : a < 18446744073709551616) : 18446744073709551615 ^^^ a = 18446744073709551615 - a := by
 apply Nat.eq_of_testBit_eq
 intro i
 have e := Nat.testBit_two_pow_sub_succ (n := 64) (x := a) h i
 have e2 : (18446744073709551615 - a : Nat) = 2 ^ 64 - (a + 1) := by omega
 rw [e2, e, Nat.testBit_xor, show (18446744073709551615 : Nat) = 2 ^ 64 - 1 from rfl, Nat.testBit_two_pow_sub_one]
 by_cases hi : i < 64
 ·simp [hi]
 ·have : a.testBit i = false := Nat.testBit_lt_two_pow (Nat.lt_of_lt_of_le h (Nat.pow_le_pow_right (n := 2) (by decide) (by omega : 64 ≤ i)))
  simp [hi, this]
theorem bnot (a : Int) (h0 : 0 ≤ a) (h1 : a < 18446744073709551616) : bits .xor .u64 IntKind.u64.max a = 18446744073709551615 - a := by
 obtain ⟨x, rfl⟩ := Int.eq_ofNat_of_zero_le h0
 have e := bits_xor_u64_nat 18446744073709551615 x (by omega) (by omega)
 rw [nat_not x (by omega)] at e
 have e2 : IntKind.u64.max = ((18446744073709551615 : Nat) : Int) := by decide
 rw [e2, e]; omega
def bw (x y b : Int) : Int := -((x - y - b) / 18446744073709551616)
end Go.Proofs.Ythfemlhmnjfjiaa

/-
 Numbers by their digits to the base 2^32: plain arithmetic, no program in sight.
-/
namespace Go.Proofs.Ythfemlhmnjfjiaa

theorem pp (n : Nat) : (0 : Int) < 2 ^ n := Int.pow_pos (by decide)
def vi (A B : Int) (i : Nat) : Int := A % 2 ^ (32 * i) * B
end Go.Proofs.Ythfemlhmnjfjiaa

/-
 Small facts on worlds: where a number of four limbs lies, and that it stays where it lies.
-/
namespace Go.Proofs.Ythfemlhmnjfjiaa
open Go.RowKit
def At4 (w : World) (k : Nat) (a b c d : Int) : Prop := w.cell? ⟨k, 0, none⟩ = some (.int .u64 a) ∧ w.cell? ⟨k, 1, none⟩ = some (.int .u64 b) ∧ w.cell? ⟨k, 2, none⟩ = some (.int .u64 c) ∧ w.cell? ⟨k, 3, none⟩ = some (.int .u64 d)
def At8 (w : World) (k : Nat) (a b c d e f g h : Int) : Prop := w.cell? ⟨k, 0, none⟩ = some (.int .u64 a) ∧ w.cell? ⟨k, 1, none⟩ = some (.int .u64 b) ∧ w.cell? ⟨k, 2, none⟩ = some (.int .u64 c) ∧ w.cell? ⟨k, 3, none⟩ = some (.int .u64 d) ∧ w.cell? ⟨k, 4, none⟩ = some (.int .u64 e) ∧ w.cell? ⟨k, 5, none⟩ = some (.int .u64 f) ∧ w.cell? ⟨k, 6, none⟩ = some (.int .u64 g) ∧ w.cell? ⟨k, 7, none⟩ = some (.int .u64 h)
def Fz (w : World) (k : Nat) : Prop := ∀ o, w.frozen? ⟨k, o, none⟩ = false
theorem At4.mo {w w' : World} {k : Nat} {a b c d : Int} (h : At4 w k a b c d) (m : Mo w w') (hk : k < w.heap.size) : At4 w' k a b c d := by
 unfold At4 at *; simp only [m.cell k _ hk]; exact h
theorem At8.mo {w w' : World} {k : Nat} {a b c d e f g i : Int} (h : At8 w k a b c d e f g i) (m : Mo w w') (hk : k < w.heap.size) : At8 w' k a b c d e f g i := by
 unfold At8 at *; simp only [m.cell k _ hk]; exact h
theorem Fz.mo {w w' : World} {k : Nat} (h : Fz w k) (m : Mo w w') : Fz w' k := fun o => (m.2 _).trans (h o)

theorem idx0 (x0 x1 x2 x3 : Value) (w : World) : (Instr.index 38 (.agg #[x0, x1, x2, x3]) (.int .i64 0)).run Try.prog w = .ok x0 w := by kernel_rfl
theorem idx1 (x0 x1 x2 x3 : Value) (w : World) : (Instr.index 38 (.agg #[x0, x1, x2, x3]) (.int .i64 1)).run Try.prog w = .ok x1 w := by kernel_rfl
theorem idx2 (x0 x1 x2 x3 : Value) (w : World) : (Instr.index 38 (.agg #[x0, x1, x2, x3]) (.int .i64 2)).run Try.prog w = .ok x2 w := by kernel_rfl
theorem idx3 (x0 x1 x2 x3 : Value) (w : World) : (Instr.index 38 (.agg #[x0, x1, x2, x3]) (.int .i64 3)).run Try.prog w = .ok x3 w := by kernel_rfl
end Go.Proofs.Ythfemlhmnjfjiaa

/-
 math/bits.Len64, LeadingZeros64 and Mul64 at this program: the contracts of the library, laid.
-/
namespace Go.Proofs
open Go.Shelf
def Try.lays264_ren : Go.Shelf.Ren := ⟨fun | 264 => 99 | n => n, fun | 53 => 34 | 46 => 141 | n => n, fun | n => n⟩
theorem Try.lays264 : Go.Proofs.Lays.n264 Try.prog Try.lays264_ren := {
 mixed := by kernel_rfl
 f264 := Try.func99.trans (congrArg some (by kernel_rfl))
 t46 := Try.underlying141
 a46 := Try.isAgg141
 z46 := Try.sizeOf141
 v46 := Try.zeroValue141
 t53 := Try.underlying34
 a53 := Try.isAgg34
 z53 := Try.sizeOf34
 v53 := Try.zeroValue34 }
open Go.RowKit Go.Lib in
theorem Try.bits_Mul64 (x y : Nat) (hx : x < 18446744073709551616) (hy : y < 18446744073709551616) (w : World) :
  Calls Try.prog 99 #[.int .u64 x, .int .u64 y] w fun e w' => e = .returned (.tuple #[.int .u64 ((x * y / 18446744073709551616 : Nat) : Int), .int .u64 ((x * y % 18446744073709551616 : Nat) : Int)]) ∧ w' = w := Any.bits_Mul64 Try.lays264 x y hx hy w
end Go.Proofs

/-
 math/bits.Div64, whatever the words: the walk.
-/
namespace Go.Proofs.Ythfemlhmnjfjiaa
open Go.RowKit
theorem mod_sub (u h : Int) : u % h = u - u / h * h := by rw [Int.emod_def, Int.mul_comm]

end Go.Proofs.Ythfemlhmnjfjiaa

/-
 limb.Div: the worlds of the call, and the arithmetic of its four steps.
-/
namespace Go.Proofs.Ythfemlhmnjfjiaa
open Go.RowKit
def AtN (w : World) (k : Nat) (n : Int) : Prop := At4 w k (l0 n) (l1 n) (l2 n) (l3 n) ∧ Fz w k ∧ k < w.heap.size
abbrev st4 (w : World) (k : Nat) (z : Int) : World := (((w.setCell ⟨k, 0, none⟩ (.int .u64 (l0 z))).setCell ⟨k, 1, none⟩ (.int .u64 (l1 z))).setCell ⟨k, 2, none⟩ (.int .u64 (l2 z))).setCell ⟨k, 3, none⟩ (.int .u64 (l3 z))
theorem AtN.mo {w w' : World} {k : Nat} {n : Int} (h : AtN w k n) (m : Mo w w') : AtN w' k n :=
 ⟨h.1.mo m h.2.2, h.2.1.mo m, Nat.lt_of_lt_of_le h.2.2 m.size⟩
theorem AtN.same {w : World} {k : Nat} {n : Int} (h : AtN w k n) (z : Int) : AtN (st4 w k z) k z := by
 obtain ⟨⟨b0, b1, b2, b3⟩, f, s⟩ := h
 refine ⟨by simp [At4, go_sem, *], fun o => by simp [World.frozen?_setCell, f o], by simpa [World.setCell] using s⟩
theorem AtN.other {w : World} {k j : Nat} {n : Int} (h : AtN w j n) (hk : j ≠ k) (z : Int) : AtN (st4 w k z) j n := by
 obtain ⟨⟨b0, b1, b2, b3⟩, f, s⟩ := h
 refine ⟨by simp [At4, go_sem, *], fun o => by simp [World.frozen?_setCell, f o], by simpa [World.setCell] using s⟩
theorem AtN.new (w : World) (n : Int) : AtN (w.alloc (.cells #[.int .u64 (l0 n), .int .u64 (l1 n), .int .u64 (l2 n), .int .u64 (l3 n)] 38)) w.heap.size n :=
 ⟨by simp [At4, go_sem], fun o => by simp [go_sem], by simp⟩
theorem Mo.st4 {a b : World} (h : Mo a b) {k : Nat} (hk : a.heap.size ≤ k) (z : Int) : Mo a (st4 b k z) :=
 (((h.setCell hk _).setCell hk _).setCell hk _).setCell hk _
theorem shifted {H L D : Int} {s : Nat} (hs : s ≤ 255) (hH : 0 ≤ H) (hHD : H < D) (hL0 : 0 ≤ L) (hL : L < MM) :
  0 ≤ H * 2 ^ s + L / 2 ^ (256 - s) ∧ H * 2 ^ s + L / 2 ^ (256 - s) < D * 2 ^ s ∧
  ((H * 2 ^ s + L / 2 ^ (256 - s)) * MM + L * 2 ^ s % MM) / (D * 2 ^ s) = (H * MM + L) / D ∧ ((H * 2 ^ s + L / 2 ^ (256 - s)) * MM + L * 2 ^ s % MM) % (D * 2 ^ s) / 2 ^ s = (H * MM + L) % D := by
 have hP : (0 : Int) < 2 ^ s := Int.pow_pos (by decide)
 have hQ : (0 : Int) < 2 ^ (256 - s) := Int.pow_pos (by decide)
 have hPQ : (2 : Int) ^ (256 - s) * 2 ^ s = MM := by rw [← Int.pow_add, show 256 - s + s = 256 from by omega]; decide
 have lq0 : 0 ≤ L / 2 ^ (256 - s) := Int.ediv_nonneg hL0 (by omega)
 have lq : L / 2 ^ (256 - s) < 2 ^ s := Int.ediv_lt_of_lt_mul hQ (by rw [Int.mul_comm, hPQ]; exact hL)
 have hy1 : (H + 1) * 2 ^ s ≤ D * 2 ^ s := Int.mul_le_mul_of_nonneg_right (by omega) (by omega)
 rw [Int.add_mul, Int.one_mul] at hy1
 have hiP : 0 ≤ H * 2 ^ s := Int.mul_nonneg hH (by omega)
 have lop : L * 2 ^ s / MM = L / 2 ^ (256 - s) := by rw [← hPQ]; exact Int.mul_ediv_mul_of_pos_left _ _ hP
 have whole : (H * 2 ^ s + L / 2 ^ (256 - s)) * MM + L * 2 ^ s % MM = (H * MM + L) * 2 ^ s := by
  rw [Int.add_mul (H * MM), Int.mul_right_comm H MM, ← lop, Int.add_mul]
  have := Int.mul_ediv_add_emod (L * 2 ^ s) MM
  rw [Int.mul_comm MM] at this
  omega
 have div1 : (H * MM + L) * 2 ^ s / (D * 2 ^ s) = (H * MM + L) / D := Int.mul_ediv_mul_of_pos_left _ _ hP
 refine ⟨by omega, by omega, ?_, ?_⟩
 ·rw [whole, div1]
 ·rw [whole, mod_sub, div1, mod_sub, ← Int.mul_assoc, ← Int.sub_mul, Int.mul_ediv_cancel _ (by omega)]
end Go.Proofs.Ythfemlhmnjfjiaa

/-
 The document's Mul, whatever the numbers: the walk.
-/
namespace Go.Proofs.Ythfemlhmnjfjiaa
open Go.RowKit
theorem AtN.set1 {w : World} {k j : Nat} {n : Int} (h : AtN w j n) (hk : j ≠ k) (o : Nat) (v : Value) : AtN (w.setCell ⟨k, o, none⟩ v) j n := by
 obtain ⟨⟨b0, b1, b2, b3⟩, f, s⟩ := h
 refine ⟨by simp [At4, go_sem, *], fun o => by simp [World.frozen?_setCell, f o], by simpa [World.setCell] using s⟩
theorem AtN.al {w : World} {k : Nat} {n : Int} (h : AtN w k n) {x : Array Value} {t : TypeId} : AtN (w.alloc (.cells x t)) k n := h.mo ((Mo.refl _).alloc _ _)
theorem AtN.at (w : World) (n : Int) {k : Nat} (h : k = w.heap.size) : AtN (w.alloc (.cells #[.int .u64 (l0 n), .int .u64 (l1 n), .int .u64 (l2 n), .int .u64 (l3 n)] 38)) k n := by subst h; exact AtN.new w n
theorem AtN.zero (w : World) : AtN (w.alloc (.cells #[.int .u64 0, .int .u64 0, .int .u64 0, .int .u64 0] 38)) w.heap.size 0 := AtN.new w 0
end Go.Proofs.Ythfemlhmnjfjiaa

/-
 limb.addCarry, limb.subBorrow, Add, Sub, From, Odd, whatever the limbs: the walks.
-/
namespace Go.Proofs.Ythfemlhmnjfjiaa
open Go.RowKit

theorem addc_eq {a0 a1 a2 a3 b0 b1 b2 b3 n : Int} (_ha : U4 a0 a1 a2 a3) (_hb : U4 b0 b1 b2 b3) (hn : n = vl a0 a1 a2 a3 + vl b0 b1 b2 b3) :
   (a0 + b0) % 18446744073709551616 = l0 n ∧ (a1 + b1 + (a0 + b0) / 18446744073709551616) % 18446744073709551616 = l1 n ∧
   (a2 + b2 + (a1 + b1 + (a0 + b0) / 18446744073709551616) / 18446744073709551616) % 18446744073709551616 = l2 n ∧
   (a3 + b3 + (a2 + b2 + (a1 + b1 + (a0 + b0) / 18446744073709551616) / 18446744073709551616) / 18446744073709551616) % 18446744073709551616 = l3 n ∧
   (a3 + b3 + (a2 + b2 + (a1 + b1 + (a0 + b0) / 18446744073709551616) / 18446744073709551616) / 18446744073709551616) / 18446744073709551616 = n / MM := by
  subst hn
  unfold U4 U1 at _ha _hb; unfold vl l0 l1 l2 l3 MM
  omega

end Go.Proofs.Ythfemlhmnjfjiaa

/-
 limb.Add and limb.Sub, From, Odd, the document's From and not, whatever the limbs: the walks.
-/
namespace Go.Proofs.Ythfemlhmnjfjiaa
open Go.RowKit

set_option maxHeartbeats 400000 in
theorem from20_any (u : Int) (w : World) (h : U1 u) :
  Calls Try.prog 98 #[.int .u64 u] w fun e w' => e = .returned (nv u) ∧ Mo w w' := by
 have e0 : l0 u = u := by unfold U1 at h; unfold l0; omega
 have e1 : l1 u = 0 := by unfold U1 at h; unfold l1; omega
 have e2 : l2 u = 0 := by unfold U1 at h; unfold l2; omega
 have e3 : l3 u = 0 := by unfold U1 at h; unfold l3; omega
 rw [nv, e0, e1, e2, e3]
 clear e0 e1 e2 e3
 go_enter Try.func98, Try.ntmps98
 go_wp2
 refine bodyPost_ret (by simp [results, Try.results98, go_sem]; rfl) rfl ?_
 refine ⟨rfl, ?_⟩
 repeat (first | exact Mo.refl _ | with_reducible apply Mo.drew | with_reducible apply Mo.drewN | with_reducible apply Mo.alloc | with_reducible refine Mo.setCell ?_ (by simp <;> omega) _ | with_reducible refine Mo.trans ?_ (by assumption))

set_option maxHeartbeats 400000 in
theorem from34_any (u : Int) (w : World) (h : U1 u) :
  Calls Try.prog 58 #[.int .u64 u] w fun e w' => e = .returned (nv u) ∧ Mo w w' := by
 have e0 : l0 u = u := by unfold U1 at h; unfold l0; omega
 have e1 : l1 u = 0 := by unfold U1 at h; unfold l1; omega
 have e2 : l2 u = 0 := by unfold U1 at h; unfold l2; omega
 have e3 : l3 u = 0 := by unfold U1 at h; unfold l3; omega
 rw [nv, e0, e1, e2, e3]
 clear e0 e1 e2 e3
 go_enter Try.func58, Try.ntmps58
 go_wp2
 refine bodyPost_ret (by simp [results, Try.results58, go_sem]; rfl) rfl ?_
 refine ⟨rfl, ?_⟩
 repeat (first | exact Mo.refl _ | with_reducible apply Mo.drew | with_reducible apply Mo.drewN | with_reducible apply Mo.alloc | with_reducible refine Mo.setCell ?_ (by simp <;> omega) _ | with_reducible refine Mo.trans ?_ (by assumption))

end Go.Proofs.Ythfemlhmnjfjiaa

/-
 limb.mulLimb, whatever the limbs: the walk.
-/
namespace Go.Proofs.Ythfemlhmnjfjiaa
open Go.RowKit
def mh (x y : Int) : Int := x * y / 18446744073709551616
def ml (x y : Int) : Int := x * y % 18446744073709551616
theorem mul64 (x y : Int) (hx : U1 x) (hy : U1 y) (w : World) :
  Calls Try.prog 99 #[.int .u64 x, .int .u64 y] w fun e w' => e = .returned (.tuple #[.int .u64 (mh x y), .int .u64 (ml x y)]) ∧ w' = w := by
 obtain ⟨x0, x1⟩ := hx
 obtain ⟨y0, y1⟩ := hy
 obtain ⟨x, rfl⟩ := Int.eq_ofNat_of_zero_le x0
 obtain ⟨y, rfl⟩ := Int.eq_ofNat_of_zero_le y0
 have e1 : mh (x : Int) y = ((x * y / 18446744073709551616 : Nat) : Int) := by unfold mh; omega
 have e2 : ml (x : Int) y = ((x * y % 18446744073709551616 : Nat) : Int) := by unfold ml; omega
 rw [e1, e2]
 exact Try.bits_Mul64 x y (by omega) (by omega) w

theorem mul_bd {x y : Int} (hx : U1 x) (hy : U1 y) : 0 ≤ x * y ∧ x * y ≤ 340282366920938463426481119284349108225 := by
 obtain ⟨x0, x1⟩ := hx
 obtain ⟨y0, y1⟩ := hy
 refine ⟨Int.mul_nonneg x0 y0, ?_⟩
 exact Int.mul_le_mul (by omega : x ≤ 18446744073709551615) (by omega : y ≤ 18446744073709551615) y0 (by decide)
theorem mh_bd {x y : Int} (hx : U1 x) (hy : U1 y) : 0 ≤ mh x y ∧ mh x y ≤ 18446744073709551614 := by
 have h := mul_bd hx hy; unfold mh; omega
theorem ml_bd {x y : Int} (_hx : U1 x) (_hy : U1 y) : 0 ≤ ml x y ∧ ml x y < 18446744073709551616 := by
 unfold ml; omega

theorem mull_eq {a0 a1 a2 a3 c t1 t2 t3 t4 : Int} (ha : U4 a0 a1 a2 a3) (hc : U1 c) (h1 : t1 = mh a0 c) (h2 : t2 = mh a1 c + (ml a1 c + t1) / 18446744073709551616) (h3 : t3 = mh a2 c + (ml a2 c + t2) / 18446744073709551616) (h4 : t4 = mh a3 c + (ml a3 c + t3) / 18446744073709551616) :
  ml a0 c = l0 (vl a0 a1 a2 a3 * c) ∧ (ml a1 c + t1) % 18446744073709551616 = l1 (vl a0 a1 a2 a3 * c) ∧ (ml a2 c + t2) % 18446744073709551616 = l2 (vl a0 a1 a2 a3 * c) ∧ (ml a3 c + t3) % 18446744073709551616 = l3 (vl a0 a1 a2 a3 * c) ∧ t4 = vl a0 a1 a2 a3 * c / MM := by
 obtain ⟨g0, g1, g2, g3⟩ := ha
 have b0 := mul_bd g0 hc
 have b1 := mul_bd g1 hc
 have b2 := mul_bd g2 hc
 have b3 := mul_bd g3 hc
 have e : vl a0 a1 a2 a3 * c = a0 * c + 18446744073709551616 * (a1 * c) + 340282366920938463463374607431768211456 * (a2 * c) + 6277101735386680763835789423207666416102355444464034512896 * (a3 * c) := by
  unfold vl; rw [Int.add_mul, Int.add_mul, Int.add_mul, Int.mul_assoc, Int.mul_assoc, Int.mul_assoc]
 rw [e]
 unfold mh ml at *
 generalize a0 * c = p0 at *
 generalize a1 * c = p1 at *
 generalize a2 * c = p2 at *
 generalize a3 * c = p3 at *
 unfold l0 l1 l2 l3 MM
 omega

set_option maxHeartbeats 2000000 in
theorem mulLimb_raw (a0 a1 a2 a3 c t1 t2 t3 t4 : Int) (w : World) (ha : U4 a0 a1 a2 a3) (hc : U1 c) (h1 : Hid (t1 = mh a0 c)) (h2 : Hid (t2 = mh a1 c + (ml a1 c + t1) / 18446744073709551616)) (h3 : Hid (t3 = mh a2 c + (ml a2 c + t2) / 18446744073709551616)) (h4 : Hid (t4 = mh a3 c + (ml a3 c + t3) / 18446744073709551616)) :
  Calls Try.prog 97 #[.agg #[.int .u64 a0, .int .u64 a1, .int .u64 a2, .int .u64 a3], .int .u64 c] w fun e w' =>
   e = .returned (.tuple #[.agg #[.int .u64 (ml a0 c), .int .u64 ((ml a1 c + t1) % 18446744073709551616), .int .u64 ((ml a2 c + t2) % 18446744073709551616), .int .u64 ((ml a3 c + t3) % 18446744073709551616)], .int .u64 t4]) ∧ Mo w w' := by
 have g := ha
 obtain ⟨g0, g1, g2, g3⟩ := g
 obtain ⟨p0, q0⟩ := mh_bd g0 hc
 obtain ⟨r0, s0⟩ := ml_bd g0 hc
 obtain ⟨p1, q1⟩ := mh_bd g1 hc
 obtain ⟨r1, s1⟩ := ml_bd g1 hc
 obtain ⟨p2, q2⟩ := mh_bd g2 hc
 obtain ⟨r2, s2⟩ := ml_bd g2 hc
 obtain ⟨p3, q3⟩ := mh_bd g3 hc
 obtain ⟨r3, s3⟩ := ml_bd g3 hc
 have j1 : 0 ≤ t1 ∧ t1 < 18446744073709551616 := by have := h1.out; omega
 have j2 : 0 ≤ t2 ∧ t2 < 18446744073709551616 := by have := h2.out; omega
 have j3 : 0 ≤ t3 ∧ t3 < 18446744073709551616 := by have := h3.out; omega
 obtain ⟨u1, v1⟩ := j1
 obtain ⟨u2, v2⟩ := j2
 obtain ⟨u3, v3⟩ := j3
 have x1 : mh a0 c + ml a0 c / 18446744073709551616 = t1 := by have := h1.out; omega
 have x2 : mh a1 c + (ml a1 c + t1) / 18446744073709551616 = t2 := h2.out.symm
 have x3 : mh a2 c + (ml a2 c + t2) / 18446744073709551616 = t3 := h3.out.symm
 have x4 : mh a3 c + (ml a3 c + t3) / 18446744073709551616 = t4 := h4.out.symm
 have y1 : ml a0 c % 18446744073709551616 = ml a0 c := by omega
 have i0 : ∀ w : World, (Instr.index 38 (.agg #[.int .u64 a0, .int .u64 a1, .int .u64 a2, .int .u64 a3]) (.int .i64 0)).run Try.prog w = .ok (.int .u64 a0) w := fun _ => by kernel_rfl
 have i1 : ∀ w : World, (Instr.index 38 (.agg #[.int .u64 a0, .int .u64 a1, .int .u64 a2, .int .u64 a3]) (.int .i64 1)).run Try.prog w = .ok (.int .u64 a1) w := fun _ => by kernel_rfl
 have i2 : ∀ w : World, (Instr.index 38 (.agg #[.int .u64 a0, .int .u64 a1, .int .u64 a2, .int .u64 a3]) (.int .i64 2)).run Try.prog w = .ok (.int .u64 a2) w := fun _ => by kernel_rfl
 have i3 : ∀ w : World, (Instr.index 38 (.agg #[.int .u64 a0, .int .u64 a1, .int .u64 a2, .int .u64 a3]) (.int .i64 3)).run Try.prog w = .ok (.int .u64 a3) w := fun _ => by kernel_rfl
 go_enter Try.func97, Try.ntmps97
 go_wp2
 refine wp_loop_rounds 5 ?_
 rw [rounds_succ]
 go_wp2_with (first | (go_at_call 99; refine (mul64 a0 c g0 hc _).mono ?_; rintro e w' ⟨rfl, rfl⟩) | simp only [add64_0 (ml a0 c) 0 r0 (Int.le_refl 0)])
 rw [rounds_succ]
 go_wp2_with (first | (go_at_call 99; refine (mul64 a1 c g1 hc _).mono ?_; rintro e w' ⟨rfl, rfl⟩) | simp only [add64_0 (ml a1 c) t1 r1 u1])
 rw [rounds_succ]
 go_wp2_with (first | (go_at_call 99; refine (mul64 a2 c g2 hc _).mono ?_; rintro e w' ⟨rfl, rfl⟩) | simp only [add64_0 (ml a2 c) t2 r2 u2])
 rw [rounds_succ]
 go_wp2_with (first | (go_at_call 99; refine (mul64 a3 c g3 hc _).mono ?_; rintro e w' ⟨rfl, rfl⟩) | simp only [add64_0 (ml a3 c) t3 r3 u3])
 rw [rounds_succ]
 go_wp2
 refine bodyPost_ret (by simp [results, Try.results97, go_sem]; rfl) rfl ?_
 refine ⟨rfl, ?_⟩
 repeat (first | exact Mo.refl _ | with_reducible apply Mo.drew | with_reducible apply Mo.drewN | with_reducible apply Mo.alloc | with_reducible refine Mo.setCell ?_ (by simp <;> omega) _ | with_reducible refine Mo.trans ?_ (by assumption))

theorem mulLimb_any (a0 a1 a2 a3 c : Int) (w : World) (ha : U4 a0 a1 a2 a3) (hc : U1 c) :
  Calls Try.prog 97 #[.agg #[.int .u64 a0, .int .u64 a1, .int .u64 a2, .int .u64 a3], .int .u64 c] w fun e w' =>
   e = .returned (.tuple #[nv (vl a0 a1 a2 a3 * c), .int .u64 (vl a0 a1 a2 a3 * c / MM)]) ∧ Mo w w' := by
 refine (mulLimb_raw a0 a1 a2 a3 c _ _ _ _ w ha hc rfl rfl rfl rfl).mono ?_
 rintro e w' ⟨rfl, hm⟩
 obtain ⟨e0, e1, e2, e3, e4⟩ := mull_eq ha hc rfl rfl rfl rfl
 refine ⟨?_, hm⟩
 rw [nv_of e0 e1 e2 e3, e4]
end Go.Proofs.Ythfemlhmnjfjiaa

/-
 Plain arithmetic of shifts of four limbs.
-/
namespace Go.Proofs.Ythfemlhmnjfjiaa
def sl (r : Nat) (a b : Int) : Int := a * 2 ^ r % 18446744073709551616 + b / 2 ^ (64 - r)
def sr (r : Nat) (a b : Int) : Int := a / 2 ^ r + b * 2 ^ (64 - r) % 18446744073709551616
end Go.Proofs.Ythfemlhmnjfjiaa

/-
 Plain arithmetic of limb.Mul: one row more.
-/
namespace Go.Proofs.Ythfemlhmnjfjiaa
theorem sh {v Y : Int} (_h0 : 0 ≤ v) (_h1 : v < 18446744073709551616) :
  l0 (v + 18446744073709551616 * Y) = v ∧ l1 (v + 18446744073709551616 * Y) = l0 Y ∧ l2 (v + 18446744073709551616 * Y) = l1 Y ∧ l3 (v + 18446744073709551616 * Y) = l2 Y ∧ l0 ((v + 18446744073709551616 * Y) / MM) = l3 Y ∧ l1 ((v + 18446744073709551616 * Y) / MM) = l0 (Y / MM) ∧ l2 ((v + 18446744073709551616 * Y) / MM) = l1 (Y / MM) ∧ l3 ((v + 18446744073709551616 * Y) / MM) = l2 (Y / MM) := by
 refine ⟨?_, ?_, ?_, ?_, ?_, ?_, ?_, ?_⟩ <;> simp only [l0, l1, l2, l3, MM] <;> omega
theorem row {p X R : Int} (_hp : 0 ≤ p) (_hp2 : p ≤ 2135987035920910082395021706169552114602704522356652769947041607822219725780640550022962086936576 - 115792089237316195423570985008687907853269984665640564039457584007913129639936) (_hX0 : 0 ≤ X) (_hX : X < MM) (_hR : R = p % MM) :
  l0 (X + R) = l0 (X + p) ∧ l1 (X + R) = l1 (X + p) ∧ l2 (X + R) = l2 (X + p) ∧ l3 (X + R) = l3 (X + p) ∧ p / MM + (X + R) / MM = l0 ((X + p) / MM) ∧ p / MM + (X + R) / MM < 18446744073709551616 ∧ 0 ≤ p / MM + (X + R) / MM ∧ l1 ((X + p) / MM) = 0 ∧ l2 ((X + p) / MM) = 0 ∧ l3 ((X + p) / MM) = 0 := by
 have e : p / MM + (X + R) / MM = (X + p) / MM := by unfold MM at *; omega
 have b1 : (X + p) / MM < 18446744073709551616 := by unfold MM at *; omega
 have b0 : 0 ≤ (X + p) / MM := by unfold MM at *; omega
 rw [e]
 refine ⟨?_, ?_, ?_, ?_, ?_, b1, b0, ?_, ?_, ?_⟩
 ·unfold l0; unfold MM at *; omega
 ·unfold l1; unfold MM at *; omega
 ·unfold l2; unfold MM at *; omega
 ·unfold l3; unfold MM at *; omega
 ·unfold l0; omega
 ·unfold l1; omega
 ·unfold l2; omega
 ·unfold l3; omega
theorem u_l0 (n : Int) : U1 (l0 n) := (u4_lb n).1
theorem u_l1 (n : Int) : U1 (l1 n) := (u4_lb n).2.1
theorem u_l2 (n : Int) : U1 (l2 n) := (u4_lb n).2.2.1
theorem u_l3 (n : Int) : U1 (l3 n) := (u4_lb n).2.2.2
theorem rnd {X p Y x0 x1 x2 x3 : Int} (hx : U4 x0 x1 x2 x3) (hX : vl x0 x1 x2 x3 = X) (hp : 0 ≤ p) (hp2 : p ≤ 2135987035920910082395021706169552114602704522356652769947041607822219725780640550022962086936576 - 115792089237316195423570985008687907853269984665640564039457584007913129639936) (hY : Y = X + p) :
  ∃ c1 c2 c3 c4, (x0 + l0 p) / 18446744073709551616 = c1 ∧ (x0 + l0 p) % 18446744073709551616 = l0 Y ∧ (x1 + l1 p + c1) / 18446744073709551616 = c2 ∧ (x1 + l1 p + c1) % 18446744073709551616 = l1 Y ∧ (x2 + l2 p + c2) / 18446744073709551616 = c3 ∧ (x2 + l2 p + c2) % 18446744073709551616 = l2 Y ∧ (x3 + l3 p + c3) / 18446744073709551616 = c4 ∧ (x3 + l3 p + c3) % 18446744073709551616 = l3 Y ∧ p / MM + c4 = l0 (Y / MM) ∧ (0 ≤ c1 ∧ c1 ≤ 1) ∧ (0 ≤ c2 ∧ c2 ≤ 1) ∧ (0 ≤ c3 ∧ c3 ≤ 1) ∧ (0 ≤ p / MM + c4 ∧ p / MM + c4 < 18446744073709551616) := by
 have hb := vl_bd hx
 obtain ⟨e0, e1, e2, e3, e4⟩ := addc_eq hx (u4_lb p) rfl
 rw [vl_nv p, hX] at e0 e1 e2 e3 e4
 rw [hX] at hb
 obtain ⟨f0, f1, f2, f3, f4, f5, f6, _⟩ := row hp hp2 hb.1 hb.2 rfl
 rw [← hY] at f0 f1 f2 f3 f4
 have g := u4_lb p
 unfold U4 U1 at hx g
 refine ⟨_, _, _, _, rfl, e0.trans f0, rfl, e1.trans f1, rfl, e2.trans f2, rfl, e3.trans f3, ?_, ?_, ?_, ?_, ?_⟩
 ·rw [e4]; exact f4
 ·omega
 ·omega
 ·omega
 ·rw [e4]; exact ⟨f6, f5⟩
theorem rnd0 {p : Int} (hp : 0 ≤ p) (hp2 : p ≤ 2135987035920910082395021706169552114602704522356652769947041607822219725780640550022962086936576 - 115792089237316195423570985008687907853269984665640564039457584007913129639936) :
  l0 p / 18446744073709551616 = 0 ∧ l0 p % 18446744073709551616 = l0 p ∧ l1 p / 18446744073709551616 = 0 ∧ l1 p % 18446744073709551616 = l1 p ∧ l2 p / 18446744073709551616 = 0 ∧ l2 p % 18446744073709551616 = l2 p ∧ l3 p / 18446744073709551616 = 0 ∧ l3 p % 18446744073709551616 = l3 p ∧ p / MM = l0 (p / MM) := by
 refine ⟨?_, ?_, ?_, ?_, ?_, ?_, ?_, ?_, ?_⟩ <;> simp only [l0, l1, l2, l3, MM] <;> omega
theorem up {Y : Int} (h0 : 0 ≤ Y) (h1 : Y < 2135987035920910082395021706169552114602704522356652769947041607822219725780640550022962086936576) : vl (l1 Y) (l2 Y) (l3 Y) (l0 (Y / MM)) = Y / 18446744073709551616 := by
 have e : (Y / MM) = Y / 18446744073709551616 / 6277101735386680763835789423207666416102355444464034512896 := by unfold MM; omega
 have b : Y / 18446744073709551616 < MM := by unfold MM; omega
 have b0 : 0 ≤ Y / 18446744073709551616 := by omega
 have e1 : l1 Y = l0 (Y / 18446744073709551616) := by unfold l1 l0; rfl
 have e2 : l2 Y = l1 (Y / 18446744073709551616) := by unfold l2 l1; omega
 have e3 : l3 Y = l2 (Y / 18446744073709551616) := by unfold l3 l2; omega
 have e4 : l0 (Y / MM) = l3 (Y / 18446744073709551616) := by rw [e]; unfold l0 l3; rfl
 rw [e1, e2, e3, e4, vl_lb _ b0 b]
theorem pbd {v c : Int} (h0 : 0 ≤ v) (h1 : v < MM) (hc : U1 c) : 0 ≤ v * c ∧ v * c ≤ 2135987035920910082395021706169552114602704522356652769947041607822219725780640550022962086936576 - 115792089237316195423570985008687907853269984665640564039457584007913129639936 - 18446744073709551615 := by
 obtain ⟨c0, c1⟩ := hc
 refine ⟨Int.mul_nonneg h0 c0, ?_⟩
 have := Int.mul_le_mul (a := v) (b := c) (c := 115792089237316195423570985008687907853269984665640564039457584007913129639935) (d := 18446744073709551615) (by unfold MM at h1; omega) (by omega) c0 (by decide)
 omega
theorem ybd {Y p Z : Int} (h0 : 0 ≤ Y) (h1 : Y < 2135987035920910082395021706169552114602704522356652769947041607822219725780640550022962086936576) (hp : 0 ≤ p) (hp2 : p ≤ 2135987035920910082395021706169552114602704522356652769947041607822219725780640550022962086936576 - 115792089237316195423570985008687907853269984665640564039457584007913129639936 - 18446744073709551615) (hZ : Z = Y / 18446744073709551616 + p) : 0 ≤ Z ∧ Z < 2135987035920910082395021706169552114602704522356652769947041607822219725780640550022962086936576 := by omega
theorem prod_eq {P Y0 Y1 Y2 Y3 p0 p1 p2 p3 : Int} (h0 : Y0 = p0) (h1 : Y1 = Y0 / 18446744073709551616 + p1) (h2 : Y2 = Y1 / 18446744073709551616 + p2) (h3 : Y3 = Y2 / 18446744073709551616 + p3) (hP : P = p0 + 18446744073709551616 * (p1 + 18446744073709551616 * (p2 + 18446744073709551616 * p3))) :
  l0 Y0 = l0 P ∧ l0 Y1 = l1 P ∧ l0 Y2 = l2 P ∧ l0 Y3 = l3 P ∧ l1 Y3 = l0 (P / MM) ∧ l2 Y3 = l1 (P / MM) ∧ l3 Y3 = l2 (P / MM) ∧ l0 (Y3 / MM) = l3 (P / MM) := by
 have e : P = l0 Y0 + 18446744073709551616 * (l0 Y1 + 18446744073709551616 * (l0 Y2 + 18446744073709551616 * Y3)) := by subst hP h3 h2 h1 h0; unfold l0; omega
 obtain ⟨a0, a1, a2, a3, a4, a5, a6, a7⟩ := sh (v := l0 Y0) (Y := l0 Y1 + 18446744073709551616 * (l0 Y2 + 18446744073709551616 * Y3)) (u_l0 _).1 (u_l0 _).2
 obtain ⟨b0, b1, b2, b3, b4, b5, b6, b7⟩ := sh (v := l0 Y1) (Y := l0 Y2 + 18446744073709551616 * Y3) (u_l0 _).1 (u_l0 _).2
 obtain ⟨c0, c1, c2, c3, c4, c5, c6, c7⟩ := sh (v := l0 Y2) (Y := Y3) (u_l0 _).1 (u_l0 _).2
 rw [← e] at a0 a1 a2 a3 a4 a5 a6 a7
 rw [a0, a1, a2, a3, a4, a5, a6, a7, b0, b1, b2, b3, b4, b5, b6, c0, c1, c2, c3, c4, c5]
 exact ⟨rfl, rfl, rfl, rfl, rfl, rfl, rfl, rfl⟩
theorem rnd0b {p : Int} (hp : 0 ≤ p) (hp2 : p ≤ 2135987035920910082395021706169552114602704522356652769947041607822219725780640550022962086936576 - 115792089237316195423570985008687907853269984665640564039457584007913129639936) : 0 ≤ p / MM ∧ p / MM < 18446744073709551616 := by unfold MM; omega
end Go.Proofs.Ythfemlhmnjfjiaa

/-
 limb.Cmp and the document's Cmp hold two numbers against each other, whatever the limbs: the walks.
-/
namespace Go.Proofs.Ythfemlhmnjfjiaa
open Go.RowKit

set_option maxHeartbeats 4000000 in
theorem cmp15_any (a0 a1 a2 a3 b0 b1 b2 b3 : Int) (w : World) (ha : U4 a0 a1 a2 a3) (hb : U4 b0 b1 b2 b3) :
  Calls Try.prog 92 #[.agg #[.int .u64 a0, .int .u64 a1, .int .u64 a2, .int .u64 a3], .agg #[.int .u64 b0, .int .u64 b1, .int .u64 b2, .int .u64 b3]] w fun e w' =>
   e = .returned (.int .i64 (cm (vl a0 a1 a2 a3) (vl b0 b1 b2 b3))) ∧ Mo w w' := by
 have fin : ∀ (r : Int) (w' : World), r = cm (vl a0 a1 a2 a3) (vl b0 b1 b2 b3) → Mo w w' → (Ending.returned (.int .i64 r) = .returned (.int .i64 (cm (vl a0 a1 a2 a3) (vl b0 b1 b2 b3))) ∧ Mo w w') := fun r w' h m => ⟨ret_int h, m⟩
 obtain ⟨⟨p0, q0⟩, ⟨p1, q1⟩, ⟨p2, q2⟩, ⟨p3, q3⟩⟩ := ha
 obtain ⟨⟨r0, s0⟩, ⟨r1, s1⟩, ⟨r2, s2⟩, ⟨r3, s3⟩⟩ := hb
 go_enter Try.func92, Try.ntmps92
 go_wp2
 refine wp_loop_rounds 5 ?_
 rw [rounds_succ]
 by_cases h3 : a3 < b3
 ·go_wp2
  go_quiet (fail)
  go_wp2
  go_ret
  refine fin _ _ (by unfold cm vl; split <;> (try split) <;> omega) ?_
  repeat (first | exact Mo.refl _ | apply Mo.drew | apply Mo.drewN | apply Mo.alloc)
 by_cases h3' : b3 < a3
 ·go_wp2
  go_quiet (fail)
  go_wp2
  go_quiet (fail)
  go_wp2
  go_ret
  refine fin _ _ (by unfold cm vl; split <;> (try split) <;> omega) ?_
  repeat (first | exact Mo.refl _ | apply Mo.drew | apply Mo.drewN | apply Mo.alloc)
 go_wp2
 go_quiet (fail)
 go_wp2
 go_quiet (fail)
 go_wp2
 rw [rounds_succ]
 by_cases h2 : a2 < b2
 ·go_wp2
  go_quiet (fail)
  go_wp2
  go_ret
  refine fin _ _ (by unfold cm vl; split <;> (try split) <;> omega) ?_
  repeat (first | exact Mo.refl _ | apply Mo.drew | apply Mo.drewN | apply Mo.alloc)
 by_cases h2' : b2 < a2
 ·go_wp2
  go_quiet (fail)
  go_wp2
  go_quiet (fail)
  go_wp2
  go_ret
  refine fin _ _ (by unfold cm vl; split <;> (try split) <;> omega) ?_
  repeat (first | exact Mo.refl _ | apply Mo.drew | apply Mo.drewN | apply Mo.alloc)
 go_wp2
 go_quiet (fail)
 go_wp2
 go_quiet (fail)
 go_wp2
 rw [rounds_succ]
 by_cases h1 : a1 < b1
 ·go_wp2
  go_quiet (fail)
  go_wp2
  go_ret
  refine fin _ _ (by unfold cm vl; split <;> (try split) <;> omega) ?_
  repeat (first | exact Mo.refl _ | apply Mo.drew | apply Mo.drewN | apply Mo.alloc)
 by_cases h1' : b1 < a1
 ·go_wp2
  go_quiet (fail)
  go_wp2
  go_quiet (fail)
  go_wp2
  go_ret
  refine fin _ _ (by unfold cm vl; split <;> (try split) <;> omega) ?_
  repeat (first | exact Mo.refl _ | apply Mo.drew | apply Mo.drewN | apply Mo.alloc)
 go_wp2
 go_quiet (fail)
 go_wp2
 go_quiet (fail)
 go_wp2
 rw [rounds_succ]
 by_cases h0 : a0 < b0
 ·go_wp2
  go_quiet (fail)
  go_wp2
  go_ret
  refine fin _ _ (by unfold cm vl; split <;> (try split) <;> omega) ?_
  repeat (first | exact Mo.refl _ | apply Mo.drew | apply Mo.drewN | apply Mo.alloc)
 by_cases h0' : b0 < a0
 ·go_wp2
  go_quiet (fail)
  go_wp2
  go_quiet (fail)
  go_wp2
  go_ret
  refine fin _ _ (by unfold cm vl; split <;> (try split) <;> omega) ?_
  repeat (first | exact Mo.refl _ | apply Mo.drew | apply Mo.drewN | apply Mo.alloc)
 go_wp2
 go_quiet (fail)
 go_wp2
 go_quiet (fail)
 go_wp2
 rw [rounds_succ]
 go_wp2
 go_ret
 refine fin _ _ (by unfold cm vl; split <;> (try split) <;> omega) ?_
 repeat (first | exact Mo.refl _ | apply Mo.drew | apply Mo.drewN | apply Mo.alloc)

end Go.Proofs.Ythfemlhmnjfjiaa

/-
 limb.Div, whatever the numbers: the walk.
-/
namespace Go.Proofs.Ythfemlhmnjfjiaa
open Go.RowKit
def At0 (w : World) (k : Nat) : Prop := At4 w k 0 0 0 0 ∧ Fz w k ∧ k < w.heap.size
theorem At0.mo {w w' : World} {k : Nat} (h : At0 w k) (m : Mo w w') : At0 w' k := ⟨h.1.mo m h.2.2, h.2.1.mo m, Nat.lt_of_lt_of_le h.2.2 m.size⟩
theorem At0.new (w : World) : At0 (w.alloc (.cells #[.int .u64 0, .int .u64 0, .int .u64 0, .int .u64 0] 38)) w.heap.size :=
 ⟨by simp [At4, go_sem], fun o => by simp [go_sem], by simp⟩
theorem At0.same {w : World} {k : Nat} (h : At0 w k) (z : Int) : AtN (st4 w k z) k z := by
 obtain ⟨⟨b0, b1, b2, b3⟩, f, s⟩ := h
 refine ⟨by simp [At4, go_sem, *], fun o => by simp [World.frozen?_setCell, f o], by simpa [World.setCell] using s⟩

theorem AtN.cell {w : World} {k j o : Nat} {n : Int} (h : AtN w j n) (hk : j ≠ k) (v : Value) : AtN (w.setCell ⟨k, o, none⟩ v) j n := by
 obtain ⟨⟨b0, b1, b2, b3⟩, f, s⟩ := h
 refine ⟨by simp [At4, go_sem, *], fun o => by simp [World.frozen?_setCell, f o], by simpa [World.setCell] using s⟩
end Go.Proofs.Ythfemlhmnjfjiaa

/-
 Two arrays of four limbs held against each other: what the program's == says.
-/
namespace Go.Proofs.Ythfemlhmnjfjiaa
open Go.RowKit
theorem part0 (x0 x1 x2 x3 : Value) (w : World) : (part 34 #[x0, x1, x2, x3] 0).run Try.prog w = .ok x0 w := by kernel_rfl
theorem part1 (x0 x1 x2 x3 : Value) (w : World) : (part 34 #[x0, x1, x2, x3] 1).run Try.prog w = .ok x1 w := by kernel_rfl
theorem part2 (x0 x1 x2 x3 : Value) (w : World) : (part 34 #[x0, x1, x2, x3] 2).run Try.prog w = .ok x2 w := by kernel_rfl
theorem part3 (x0 x1 x2 x3 : Value) (w : World) : (part 34 #[x0, x1, x2, x3] 3).run Try.prog w = .ok x3 w := by kernel_rfl
theorem cells22 : Try.prog.cellsOf 34 = 1 := by kernel_rfl
theorem info22 : ∃ i, Try.prog.info? 34 = some i := Option.isSome_iff_exists.1 (by kernel_rfl)
theorem eq4 (a b c d e f g h : Int) (w : World) : (Op.equalIn 10000 38 (.agg #[.int .u64 a, .int .u64 b, .int .u64 c, .int .u64 d]) (.agg #[.int .u64 e, .int .u64 f, .int .u64 g, .int .u64 h])).run Try.prog w = .ok (a == e && (b == f && (c == g && d == h))) w := by
 obtain ⟨i, hi⟩ := info22
 rw [show (10000 : Nat) = 9998 + 1 + 1 from rfl, run_equalIn_array w (9998 + 1) _ _ Try.underlying38 hi, cells22]
 have q : ∀ (x y : Int), (Op.equalIn 9999 34 (.int .u64 x) (.int .u64 y)).run Try.prog w = .ok (x == y) w := fun x y => run_equalIn_int w 9998 34 .u64 .u64 x y Try.underlying34
 rw [show List.range 4 = [0, 1, 2, 3] from rfl]
 cases ha : a == e <;> cases hb : b == f <;> cases hc : c == g <;> cases hd : d == h <;> simp [Op.eqItems, Sem.run_bind, part0, part1, part2, part3, Result.andThen_ok, q, ha, hb, hc, hd, Sem.run_pure]
end Go.Proofs.Ythfemlhmnjfjiaa

/-
 limb.Mul, whatever the limbs: the walk.
-/
namespace Go.Proofs.Ythfemlhmnjfjiaa
open Go.RowKit
def MW (w wr : World) (a0 a1 a2 a3 x0 x1 x2 x3 x4 x5 x6 x7 : Int) : Prop := Mo w wr ∧ w.heap.size + 1 + 1 + 1 + 1 < wr.heap.size ∧ At4 wr w.heap.size a0 a1 a2 a3 ∧ At4 wr (w.heap.size + 1 + 1) 0 0 0 0 ∧ At4 wr (w.heap.size + 1 + 1 + 1) 0 0 0 0 ∧ At8 wr (w.heap.size + 1 + 1 + 1 + 1) x0 x1 x2 x3 x4 x5 x6 x7 ∧ Fz wr (w.heap.size + 1 + 1) ∧ Fz wr (w.heap.size + 1 + 1 + 1) ∧ Fz wr (w.heap.size + 1 + 1 + 1 + 1)
theorem MW.mo {w wr w1 : World} {a0 a1 a2 a3 x0 x1 x2 x3 x4 x5 x6 x7 : Int} (h : MW w wr a0 a1 a2 a3 x0 x1 x2 x3 x4 x5 x6 x7) (m : Mo wr w1) : MW w w1 a0 a1 a2 a3 x0 x1 x2 x3 x4 x5 x6 x7 := by
 obtain ⟨h1, h2, h3, h4, h5, h6, h7, h8, h9⟩ := h
 have := m.size
 exact ⟨h1.trans m, by omega, h3.mo m (by omega), h4.mo m (by omega), h5.mo m (by omega), h6.mo m (by omega), h7.mo m, h8.mo m, h9.mo m⟩

theorem At4.set {w : World} {k k' : Nat} {a b c d : Int} (h : At4 w k a b c d) (hk : k ≠ k') (o : Nat) (v : Value) : At4 (w.setCell ⟨k', o, none⟩ v) k a b c d := by
 obtain ⟨h0, h1, h2, h3⟩ := h
 have e : ∀ j, (w.setCell ⟨k', o, none⟩ v).cell? ⟨k, j, none⟩ = w.cell? ⟨k, j, none⟩ := fun j => World.cell?_of_block (Below.heap_setCell _ _ _ _ hk)
 exact ⟨(e 0).trans h0, (e 1).trans h1, (e 2).trans h2, (e 3).trans h3⟩
theorem Fz.set {w : World} {k : Nat} (h : Fz w k) (a : Addr) (v : Value) : Fz (w.setCell a v) k := fun o => (World.frozen?_setCell _ _ _ _).trans (h o)
theorem MW.put0 {w w1 : World} {a0 a1 a2 a3 x0 x1 x2 x3 x4 x5 x6 x7 : Int} (h : MW w w1 a0 a1 a2 a3 x0 x1 x2 x3 x4 x5 x6 x7) (y : Int) : MW w (w1.setCell ⟨w.heap.size + 1 + 1 + 1 + 1, 0, none⟩ (.int .u64 y)) a0 a1 a2 a3 y x1 x2 x3 x4 x5 x6 x7 := by
 obtain ⟨h1, h2, h3, h4, h5, h6, h7, h8, h9⟩ := h
 refine ⟨h1.setCell (by show w.heap.size ≤ w.heap.size + 1 + 1 + 1 + 1; omega) _, by simpa [World.setCell] using h2, h3.set (by omega) _ _, h4.set (by omega) _ _, h5.set (by omega) _ _, ?_, h7.set _ _, h8.set _ _, h9.set _ _⟩
 obtain ⟨d0, d1, d2, d3, d4, d5, d6, d7⟩ := h6
 simp [At8, go_sem, *]
theorem MW.put1 {w w1 : World} {a0 a1 a2 a3 x0 x1 x2 x3 x4 x5 x6 x7 : Int} (h : MW w w1 a0 a1 a2 a3 x0 x1 x2 x3 x4 x5 x6 x7) (y : Int) : MW w (w1.setCell ⟨w.heap.size + 1 + 1 + 1 + 1, 1, none⟩ (.int .u64 y)) a0 a1 a2 a3 x0 y x2 x3 x4 x5 x6 x7 := by
 obtain ⟨h1, h2, h3, h4, h5, h6, h7, h8, h9⟩ := h
 refine ⟨h1.setCell (by show w.heap.size ≤ w.heap.size + 1 + 1 + 1 + 1; omega) _, by simpa [World.setCell] using h2, h3.set (by omega) _ _, h4.set (by omega) _ _, h5.set (by omega) _ _, ?_, h7.set _ _, h8.set _ _, h9.set _ _⟩
 obtain ⟨d0, d1, d2, d3, d4, d5, d6, d7⟩ := h6
 simp [At8, go_sem, *]
theorem MW.put2 {w w1 : World} {a0 a1 a2 a3 x0 x1 x2 x3 x4 x5 x6 x7 : Int} (h : MW w w1 a0 a1 a2 a3 x0 x1 x2 x3 x4 x5 x6 x7) (y : Int) : MW w (w1.setCell ⟨w.heap.size + 1 + 1 + 1 + 1, 2, none⟩ (.int .u64 y)) a0 a1 a2 a3 x0 x1 y x3 x4 x5 x6 x7 := by
 obtain ⟨h1, h2, h3, h4, h5, h6, h7, h8, h9⟩ := h
 refine ⟨h1.setCell (by show w.heap.size ≤ w.heap.size + 1 + 1 + 1 + 1; omega) _, by simpa [World.setCell] using h2, h3.set (by omega) _ _, h4.set (by omega) _ _, h5.set (by omega) _ _, ?_, h7.set _ _, h8.set _ _, h9.set _ _⟩
 obtain ⟨d0, d1, d2, d3, d4, d5, d6, d7⟩ := h6
 simp [At8, go_sem, *]
theorem MW.put3 {w w1 : World} {a0 a1 a2 a3 x0 x1 x2 x3 x4 x5 x6 x7 : Int} (h : MW w w1 a0 a1 a2 a3 x0 x1 x2 x3 x4 x5 x6 x7) (y : Int) : MW w (w1.setCell ⟨w.heap.size + 1 + 1 + 1 + 1, 3, none⟩ (.int .u64 y)) a0 a1 a2 a3 x0 x1 x2 y x4 x5 x6 x7 := by
 obtain ⟨h1, h2, h3, h4, h5, h6, h7, h8, h9⟩ := h
 refine ⟨h1.setCell (by show w.heap.size ≤ w.heap.size + 1 + 1 + 1 + 1; omega) _, by simpa [World.setCell] using h2, h3.set (by omega) _ _, h4.set (by omega) _ _, h5.set (by omega) _ _, ?_, h7.set _ _, h8.set _ _, h9.set _ _⟩
 obtain ⟨d0, d1, d2, d3, d4, d5, d6, d7⟩ := h6
 simp [At8, go_sem, *]
theorem MW.put4 {w w1 : World} {a0 a1 a2 a3 x0 x1 x2 x3 x4 x5 x6 x7 : Int} (h : MW w w1 a0 a1 a2 a3 x0 x1 x2 x3 x4 x5 x6 x7) (y : Int) : MW w (w1.setCell ⟨w.heap.size + 1 + 1 + 1 + 1, 4, none⟩ (.int .u64 y)) a0 a1 a2 a3 x0 x1 x2 x3 y x5 x6 x7 := by
 obtain ⟨h1, h2, h3, h4, h5, h6, h7, h8, h9⟩ := h
 refine ⟨h1.setCell (by show w.heap.size ≤ w.heap.size + 1 + 1 + 1 + 1; omega) _, by simpa [World.setCell] using h2, h3.set (by omega) _ _, h4.set (by omega) _ _, h5.set (by omega) _ _, ?_, h7.set _ _, h8.set _ _, h9.set _ _⟩
 obtain ⟨d0, d1, d2, d3, d4, d5, d6, d7⟩ := h6
 simp [At8, go_sem, *]
theorem MW.put5 {w w1 : World} {a0 a1 a2 a3 x0 x1 x2 x3 x4 x5 x6 x7 : Int} (h : MW w w1 a0 a1 a2 a3 x0 x1 x2 x3 x4 x5 x6 x7) (y : Int) : MW w (w1.setCell ⟨w.heap.size + 1 + 1 + 1 + 1, 5, none⟩ (.int .u64 y)) a0 a1 a2 a3 x0 x1 x2 x3 x4 y x6 x7 := by
 obtain ⟨h1, h2, h3, h4, h5, h6, h7, h8, h9⟩ := h
 refine ⟨h1.setCell (by show w.heap.size ≤ w.heap.size + 1 + 1 + 1 + 1; omega) _, by simpa [World.setCell] using h2, h3.set (by omega) _ _, h4.set (by omega) _ _, h5.set (by omega) _ _, ?_, h7.set _ _, h8.set _ _, h9.set _ _⟩
 obtain ⟨d0, d1, d2, d3, d4, d5, d6, d7⟩ := h6
 simp [At8, go_sem, *]
theorem MW.put6 {w w1 : World} {a0 a1 a2 a3 x0 x1 x2 x3 x4 x5 x6 x7 : Int} (h : MW w w1 a0 a1 a2 a3 x0 x1 x2 x3 x4 x5 x6 x7) (y : Int) : MW w (w1.setCell ⟨w.heap.size + 1 + 1 + 1 + 1, 6, none⟩ (.int .u64 y)) a0 a1 a2 a3 x0 x1 x2 x3 x4 x5 y x7 := by
 obtain ⟨h1, h2, h3, h4, h5, h6, h7, h8, h9⟩ := h
 refine ⟨h1.setCell (by show w.heap.size ≤ w.heap.size + 1 + 1 + 1 + 1; omega) _, by simpa [World.setCell] using h2, h3.set (by omega) _ _, h4.set (by omega) _ _, h5.set (by omega) _ _, ?_, h7.set _ _, h8.set _ _, h9.set _ _⟩
 obtain ⟨d0, d1, d2, d3, d4, d5, d6, d7⟩ := h6
 simp [At8, go_sem, *]
theorem MW.put7 {w w1 : World} {a0 a1 a2 a3 x0 x1 x2 x3 x4 x5 x6 x7 : Int} (h : MW w w1 a0 a1 a2 a3 x0 x1 x2 x3 x4 x5 x6 x7) (y : Int) : MW w (w1.setCell ⟨w.heap.size + 1 + 1 + 1 + 1, 7, none⟩ (.int .u64 y)) a0 a1 a2 a3 x0 x1 x2 x3 x4 x5 x6 y := by
 obtain ⟨h1, h2, h3, h4, h5, h6, h7, h8, h9⟩ := h
 refine ⟨h1.setCell (by show w.heap.size ≤ w.heap.size + 1 + 1 + 1 + 1; omega) _, by simpa [World.setCell] using h2, h3.set (by omega) _ _, h4.set (by omega) _ _, h5.set (by omega) _ _, ?_, h7.set _ _, h8.set _ _, h9.set _ _⟩
 obtain ⟨d0, d1, d2, d3, d4, d5, d6, d7⟩ := h6
 simp [At8, go_sem, *]

set_option maxHeartbeats 4000000 in
theorem mul_raw (a0 a1 a2 a3 b0 b1 b2 b3 Y0 Y1 Y2 Y3 : Int) (w : World) (ha : U4 a0 a1 a2 a3) (hb : U4 b0 b1 b2 b3) (hY0 : Hid (Y0 = vl a0 a1 a2 a3 * b0)) (hY1 : Hid (Y1 = Y0 / 18446744073709551616 + vl a0 a1 a2 a3 * b1)) (hY2 : Hid (Y2 = Y1 / 18446744073709551616 + vl a0 a1 a2 a3 * b2)) (hY3 : Hid (Y3 = Y2 / 18446744073709551616 + vl a0 a1 a2 a3 * b3)) :
  Calls Try.prog 95 #[.agg #[.int .u64 a0, .int .u64 a1, .int .u64 a2, .int .u64 a3], .agg #[.int .u64 b0, .int .u64 b1, .int .u64 b2, .int .u64 b3]] w fun e w' =>
   e = .returned (.tuple #[.agg #[.int .u64 (l1 Y3), .int .u64 (l2 Y3), .int .u64 (l3 Y3), .int .u64 (l0 (Y3 / MM))], .agg #[.int .u64 (l0 Y0), .int .u64 (l0 Y1), .int .u64 (l0 Y2), .int .u64 (l0 Y3)]]) ∧ Mo w w' := by
 have hv := vl_bd ha
 have hb' := hb
 obtain ⟨g0, g1, g2, g3⟩ := hb'
 have pb0 := pbd hv.1 hv.2 g0
 have pb1 := pbd hv.1 hv.2 g1
 have pb2 := pbd hv.1 hv.2 g2
 have pb3 := pbd hv.1 hv.2 g3
 have yb0 : 0 ≤ Y0 ∧ Y0 < 2135987035920910082395021706169552114602704522356652769947041607822219725780640550022962086936576 := by have := hY0.out; omega
 have yb1 := ybd yb0.1 yb0.2 pb1.1 pb1.2 hY1.out
 have yb2 := ybd yb1.1 yb1.2 pb2.1 pb2.2 hY2.out
 have HB : Hid ((0 ≤ Y0 ∧ Y0 < 2135987035920910082395021706169552114602704522356652769947041607822219725780640550022962086936576) ∧ (0 ≤ Y1 ∧ Y1 < 2135987035920910082395021706169552114602704522356652769947041607822219725780640550022962086936576) ∧ (0 ≤ Y2 ∧ Y2 < 2135987035920910082395021706169552114602704522356652769947041607822219725780640550022962086936576)) := ⟨yb0, yb1, yb2⟩
 have HP : Hid (vl a0 a1 a2 a3 * b0 ≤ 2135987035920910082395021706169552114602704522356652769947041607822219725780640550022962086936576 - 115792089237316195423570985008687907853269984665640564039457584007913129639936 ∧ vl a0 a1 a2 a3 * b1 ≤ 2135987035920910082395021706169552114602704522356652769947041607822219725780640550022962086936576 - 115792089237316195423570985008687907853269984665640564039457584007913129639936 ∧ vl a0 a1 a2 a3 * b2 ≤ 2135987035920910082395021706169552114602704522356652769947041607822219725780640550022962086936576 - 115792089237316195423570985008687907853269984665640564039457584007913129639936 ∧ vl a0 a1 a2 a3 * b3 ≤ 2135987035920910082395021706169552114602704522356652769947041607822219725780640550022962086936576 - 115792089237316195423570985008687907853269984665640564039457584007913129639936) := ⟨by omega, by omega, by omega, by omega⟩
 have HQ : Hid (0 ≤ vl a0 a1 a2 a3 * b0 ∧ 0 ≤ vl a0 a1 a2 a3 * b1 ∧ 0 ≤ vl a0 a1 a2 a3 * b2 ∧ 0 ≤ vl a0 a1 a2 a3 * b3) := ⟨pb0.1, pb1.1, pb2.1, pb3.1⟩
 clear pb0 pb1 pb2 pb3 yb0 yb1 yb2 hv
 have ix0 := idx0
 have ix1 := idx1
 have ix2 := idx2
 have ix3 := idx3
 go_enter Try.func95, Try.ntmps95
 go_wp2
 go_loopw [17] (fun i wr => (i = .int .i64 0 ∧ MW w wr a0 a1 a2 a3 0 0 0 0 0 0 0 0) ∨ (i = .int .i64 1 ∧ MW w wr a0 a1 a2 a3 (l0 Y0) (l1 Y0) (l2 Y0) (l3 Y0) (l0 (Y0 / MM)) 0 0 0) ∨ (i = .int .i64 2 ∧ MW w wr a0 a1 a2 a3 (l0 Y0) (l0 Y1) (l1 Y1) (l2 Y1) (l3 Y1) (l0 (Y1 / MM)) 0 0) ∨ (i = .int .i64 3 ∧ MW w wr a0 a1 a2 a3 (l0 Y0) (l0 Y1) (l0 Y2) (l1 Y2) (l2 Y2) (l3 Y2) (l0 (Y2 / MM)) 0) ∨ (i = .int .i64 4 ∧ MW w wr a0 a1 a2 a3 (l0 Y0) (l0 Y1) (l0 Y2) (l0 Y3) (l1 Y3) (l2 Y3) (l3 Y3) (l0 (Y3 / MM)))) (fun i _ => 4 - (intOf i).toNat)
 case atStart =>
  refine Or.inl ⟨rfl, ?_⟩
  refine ⟨by repeat (first | with_reducible exact Mo.refl _ | with_reducible apply Mo.drew | with_reducible apply Mo.drewN | with_reducible apply Mo.alloc | with_reducible refine Mo.setCell ?_ (by simp <;> omega) _ | with_reducible refine Mo.trans ?_ (by with_reducible assumption)), by simp, ?_, ?_, ?_, ?_, ?_, ?_, ?_⟩
  ·simp [At4, go_sem]
  ·simp [At4, go_sem]
  ·simp [At4, go_sem]
  ·simp [At8, go_sem]
  ·intro o; simp [go_sem]
  ·intro o; simp [go_sem]
  ·intro o; simp [go_sem]
 case round =>
  obtain ⟨rfl, hw⟩ | ⟨rfl, hw⟩ | ⟨rfl, hw⟩ | ⟨rfl, hw⟩ | ⟨rfl, hw⟩ := hrel
  ·have hw0 := hw
   obtain ⟨k0, k1, ⟨A0, A1, A2, A3⟩, _⟩ := hw
   go_wp2_with fail
   refine (mulLimb_any a0 a1 a2 a3 b0 _ ha g0).mono ?_
   rintro e w1 ⟨rfl, hm⟩
   have hw1 := hw0.mo hm
   have hw2 := hw1
   clear A0 A1 A2 A3 k0 k1
   obtain ⟨k0, k1, ⟨A0, A1, A2, A3⟩, ⟨B0, B1, B2, B3⟩, ⟨C0, C1, C2, C3⟩, ⟨D0, D1, D2, D3, D4, D5, D6, D7⟩, F1, F2, F3⟩ := hw1
   have F1 := fun o => F1 o
   have F2 := fun o => F2 o
   have F3 := fun o => F3 o
   obtain ⟨E0, E1, E2, E3, E4, E5, E6, E7, E8x⟩ := rnd0 (p := (vl a0 a1 a2 a3 * b0)) HQ.out.1 HP.out.1
   have E8 : Hid _ := E8x
   clear E8x
   obtain ⟨m4, n4⟩ := rnd0b (p := (vl a0 a1 a2 a3 * b0)) HQ.out.1 HP.out.1
   go_wp2_with fail
   refine wp_loop_rounds 5 ?_
   rw [rounds_succ]
   go_wp2_with (simp only [add64_0 0 (l0 (vl a0 a1 a2 a3 * b0)) (Int.le_refl 0) (u_l0 _).1])
   rw [rounds_succ]
   go_wp2_with (simp only [add64_0 0 (l1 (vl a0 a1 a2 a3 * b0)) (Int.le_refl 0) (u_l1 _).1])
   rw [rounds_succ]
   go_wp2_with (simp only [add64_0 0 (l2 (vl a0 a1 a2 a3 * b0)) (Int.le_refl 0) (u_l2 _).1])
   rw [rounds_succ]
   go_wp2_with (simp only [add64_0 0 (l3 (vl a0 a1 a2 a3 * b0)) (Int.le_refl 0) (u_l3 _).1])
   rw [rounds_succ]
   go_wp2
   go_roundw
   case rel =>
    refine Or.inr (Or.inl ⟨rfl, ?_⟩)
    rw [hY0.out, ← E8.out]
    exact (((((hw2.put0 _).put1 _).put2 _).put3 _).put4 _).mo ((Mo.refl _).alloc _ _)
   case measure => simp [intOf]
  ·have hw0 := hw
   obtain ⟨k0, k1, ⟨A0, A1, A2, A3⟩, _⟩ := hw
   go_wp2_with fail
   refine (mulLimb_any a0 a1 a2 a3 b1 _ ha g1).mono ?_
   rintro e w1 ⟨rfl, hm⟩
   have hw1 := hw0.mo hm
   have hw2 := hw1
   clear A0 A1 A2 A3 k0 k1
   obtain ⟨k0, k1, ⟨A0, A1, A2, A3⟩, ⟨B0, B1, B2, B3⟩, ⟨C0, C1, C2, C3⟩, ⟨D0, D1, D2, D3, D4, D5, D6, D7⟩, F1, F2, F3⟩ := hw1
   have F1 := fun o => F1 o
   have F2 := fun o => F2 o
   have F3 := fun o => F3 o
   obtain ⟨c1, c2, c3, c4, E0, E1, E2, E3, E4, E5, E6, E7, E8, ⟨m1, n1⟩, ⟨m2, n2⟩, ⟨m3, n3⟩, m4, n4⟩ := rnd (Y := Y1) ⟨u_l1 Y0, u_l2 Y0, u_l3 Y0, u_l0 (Y0 / MM)⟩ (up HB.out.1.1 HB.out.1.2) HQ.out.2.1 HP.out.2.1 hY1.out
   go_wp2_with fail
   refine wp_loop_rounds 5 ?_
   rw [rounds_succ]
   go_wp2_with (simp only [add64_0 (l1 Y0) (l0 (vl a0 a1 a2 a3 * b1)) (u_l1 _).1 (u_l0 _).1])
   rw [rounds_succ]
   go_wp2_with (simp only [add64 (l2 Y0) (l1 (vl a0 a1 a2 a3 * b1)) c1 (u_l2 _).1 (u_l1 _).1 m1 n1])
   rw [rounds_succ]
   go_wp2_with (simp only [add64 (l3 Y0) (l2 (vl a0 a1 a2 a3 * b1)) c2 (u_l3 _).1 (u_l2 _).1 m2 n2])
   rw [rounds_succ]
   go_wp2_with (simp only [add64 (l0 (Y0 / MM)) (l3 (vl a0 a1 a2 a3 * b1)) c3 (u_l0 _).1 (u_l3 _).1 m3 n3])
   rw [rounds_succ]
   go_wp2
   go_roundw
   case rel =>
    refine Or.inr (Or.inr (Or.inl ⟨rfl, ?_⟩))
    exact (((((hw2.put1 _).put2 _).put3 _).put4 _).put5 _).mo ((Mo.refl _).alloc _ _)
   case measure => simp [intOf]
  ·have hw0 := hw
   obtain ⟨k0, k1, ⟨A0, A1, A2, A3⟩, _⟩ := hw
   go_wp2_with fail
   refine (mulLimb_any a0 a1 a2 a3 b2 _ ha g2).mono ?_
   rintro e w1 ⟨rfl, hm⟩
   have hw1 := hw0.mo hm
   have hw2 := hw1
   clear A0 A1 A2 A3 k0 k1
   obtain ⟨k0, k1, ⟨A0, A1, A2, A3⟩, ⟨B0, B1, B2, B3⟩, ⟨C0, C1, C2, C3⟩, ⟨D0, D1, D2, D3, D4, D5, D6, D7⟩, F1, F2, F3⟩ := hw1
   have F1 := fun o => F1 o
   have F2 := fun o => F2 o
   have F3 := fun o => F3 o
   obtain ⟨c1, c2, c3, c4, E0, E1, E2, E3, E4, E5, E6, E7, E8, ⟨m1, n1⟩, ⟨m2, n2⟩, ⟨m3, n3⟩, m4, n4⟩ := rnd (Y := Y2) ⟨u_l1 Y1, u_l2 Y1, u_l3 Y1, u_l0 (Y1 / MM)⟩ (up HB.out.2.1.1 HB.out.2.1.2) HQ.out.2.2.1 HP.out.2.2.1 hY2.out
   go_wp2_with fail
   refine wp_loop_rounds 5 ?_
   rw [rounds_succ]
   go_wp2_with (simp only [add64_0 (l1 Y1) (l0 (vl a0 a1 a2 a3 * b2)) (u_l1 _).1 (u_l0 _).1])
   rw [rounds_succ]
   go_wp2_with (simp only [add64 (l2 Y1) (l1 (vl a0 a1 a2 a3 * b2)) c1 (u_l2 _).1 (u_l1 _).1 m1 n1])
   rw [rounds_succ]
   go_wp2_with (simp only [add64 (l3 Y1) (l2 (vl a0 a1 a2 a3 * b2)) c2 (u_l3 _).1 (u_l2 _).1 m2 n2])
   rw [rounds_succ]
   go_wp2_with (simp only [add64 (l0 (Y1 / MM)) (l3 (vl a0 a1 a2 a3 * b2)) c3 (u_l0 _).1 (u_l3 _).1 m3 n3])
   rw [rounds_succ]
   go_wp2
   go_roundw
   case rel =>
    refine Or.inr (Or.inr (Or.inr (Or.inl ⟨rfl, ?_⟩)))
    exact (((((hw2.put2 _).put3 _).put4 _).put5 _).put6 _).mo ((Mo.refl _).alloc _ _)
   case measure => simp [intOf]
  ·have hw0 := hw
   obtain ⟨k0, k1, ⟨A0, A1, A2, A3⟩, _⟩ := hw
   go_wp2_with fail
   refine (mulLimb_any a0 a1 a2 a3 b3 _ ha g3).mono ?_
   rintro e w1 ⟨rfl, hm⟩
   have hw1 := hw0.mo hm
   have hw2 := hw1
   clear A0 A1 A2 A3 k0 k1
   obtain ⟨k0, k1, ⟨A0, A1, A2, A3⟩, ⟨B0, B1, B2, B3⟩, ⟨C0, C1, C2, C3⟩, ⟨D0, D1, D2, D3, D4, D5, D6, D7⟩, F1, F2, F3⟩ := hw1
   have F1 := fun o => F1 o
   have F2 := fun o => F2 o
   have F3 := fun o => F3 o
   obtain ⟨c1, c2, c3, c4, E0, E1, E2, E3, E4, E5, E6, E7, E8, ⟨m1, n1⟩, ⟨m2, n2⟩, ⟨m3, n3⟩, m4, n4⟩ := rnd (Y := Y3) ⟨u_l1 Y2, u_l2 Y2, u_l3 Y2, u_l0 (Y2 / MM)⟩ (up HB.out.2.2.1 HB.out.2.2.2) HQ.out.2.2.2 HP.out.2.2.2 hY3.out
   go_wp2_with fail
   refine wp_loop_rounds 5 ?_
   rw [rounds_succ]
   go_wp2_with (simp only [add64_0 (l1 Y2) (l0 (vl a0 a1 a2 a3 * b3)) (u_l1 _).1 (u_l0 _).1])
   rw [rounds_succ]
   go_wp2_with (simp only [add64 (l2 Y2) (l1 (vl a0 a1 a2 a3 * b3)) c1 (u_l2 _).1 (u_l1 _).1 m1 n1])
   rw [rounds_succ]
   go_wp2_with (simp only [add64 (l3 Y2) (l2 (vl a0 a1 a2 a3 * b3)) c2 (u_l3 _).1 (u_l2 _).1 m2 n2])
   rw [rounds_succ]
   go_wp2_with (simp only [add64 (l0 (Y2 / MM)) (l3 (vl a0 a1 a2 a3 * b3)) c3 (u_l0 _).1 (u_l3 _).1 m3 n3])
   rw [rounds_succ]
   go_wp2
   go_roundw
   case rel =>
    refine Or.inr (Or.inr (Or.inr (Or.inr ⟨rfl, ?_⟩)))
    exact (((((hw2.put3 _).put4 _).put5 _).put6 _).put7 _).mo ((Mo.refl _).alloc _ _)
   case measure => simp [intOf]
  ·obtain ⟨k0, k1, ⟨A0, A1, A2, A3⟩, ⟨B0, B1, B2, B3⟩, ⟨C0, C1, C2, C3⟩, ⟨D0, D1, D2, D3, D4, D5, D6, D7⟩, F1, F2, F3⟩ := hw
   have F1 := fun o => F1 o
   have F2 := fun o => F2 o
   have F3 := fun o => F3 o
   have z2 : w.heap.size + 1 + 1 < wr.heap.size := by omega
   have z3 : w.heap.size + 1 + 1 + 1 < wr.heap.size := by omega
   have z4 : w.heap.size + 1 + 1 < wr.heap.size + 1 := by omega
   have z5 : w.heap.size + 1 + 1 + 1 < wr.heap.size + 1 := by omega
   go_wp2
   go_cut [] from 73 to 74 (fun wx => At4 wx (w.heap.size + 1 + 1) (l1 Y3) (l2 Y3) (l3 Y3) (l0 (Y3 / MM)) ∧ At4 wx (w.heap.size + 1 + 1 + 1) (l0 Y0) (l0 Y1) (l0 Y2) (l0 Y3) ∧ Mo w wx)
   case first =>
    go_region
    go_wp2
    go_meet
    case rel =>
     refine ⟨?_, ?_, ?_⟩
     ·simp [At4, go_sem, B0, B1, B2, B3, z2, z4]
     ·simp [At4, go_sem, C0, C1, C2, C3, z3, z5]
     ·repeat (first | with_reducible exact Mo.refl _ | with_reducible apply Mo.drew | with_reducible apply Mo.drewN | with_reducible apply Mo.alloc | with_reducible refine Mo.setCell ?_ (by simp <;> omega) _ | with_reducible refine Mo.trans ?_ (by with_reducible assumption))
   case rest =>
    obtain ⟨⟨P0, P1, P2, P3⟩, ⟨R0, R1, R2, R3⟩, hmo⟩ := hcut
    go_wp2
    refine bodyPost_ret (v := .tuple #[.agg #[.int .u64 (l1 Y3), .int .u64 (l2 Y3), .int .u64 (l3 Y3), .int .u64 (l0 (Y3 / MM))], .agg #[.int .u64 (l0 Y0), .int .u64 (l0 Y1), .int .u64 (l0 Y2), .int .u64 (l0 Y3)]]) (by simp [results, Try.results95, go_sem, P0, P1, P2, P3, R0, R1, R2, R3]) rfl ?_
    exact ⟨rfl, hmo⟩

theorem mul_any (a0 a1 a2 a3 b0 b1 b2 b3 : Int) (w : World) (ha : U4 a0 a1 a2 a3) (hb : U4 b0 b1 b2 b3) :
  Calls Try.prog 95 #[.agg #[.int .u64 a0, .int .u64 a1, .int .u64 a2, .int .u64 a3], .agg #[.int .u64 b0, .int .u64 b1, .int .u64 b2, .int .u64 b3]] w fun e w' =>
   e = .returned (.tuple #[nv (vl a0 a1 a2 a3 * vl b0 b1 b2 b3 / MM), nv (vl a0 a1 a2 a3 * vl b0 b1 b2 b3)]) ∧ Mo w w' := by
 refine (mul_raw a0 a1 a2 a3 b0 b1 b2 b3 _ _ _ _ w ha hb rfl rfl rfl rfl).mono ?_
 rintro e w' ⟨rfl, hm⟩
 have hP : vl a0 a1 a2 a3 * vl b0 b1 b2 b3 = vl a0 a1 a2 a3 * b0 + 18446744073709551616 * (vl a0 a1 a2 a3 * b1 + 18446744073709551616 * (vl a0 a1 a2 a3 * b2 + 18446744073709551616 * (vl a0 a1 a2 a3 * b3))) := by
  rw [show vl b0 b1 b2 b3 = b0 + 18446744073709551616 * (b1 + 18446744073709551616 * (b2 + 18446744073709551616 * b3)) from by unfold vl; omega]
  generalize vl a0 a1 a2 a3 = v
  have q : ∀ x y : Int, v * (x + 18446744073709551616 * y) = v * x + 18446744073709551616 * (v * y) := fun x y => by rw [Int.mul_add, Int.mul_left_comm]
  rw [q, q, q]
 obtain ⟨e0, e1, e2, e3, e4, e5, e6, e7⟩ := prod_eq rfl rfl rfl rfl hP
 refine ⟨?_, hm⟩
 rw [nv_of e0 e1 e2 e3, nv_of e4 e5 e6 e7]
end Go.Proofs.Ythfemlhmnjfjiaa

/-
 limb.Ten, whatever the number: the walk.
-/
namespace Go.Proofs.Ythfemlhmnjfjiaa
open Go.RowKit
theorem nv_mul_mod (n c : Int) : nv (n % MM * c) = nv (n * c) := by
 rw [← nv_mod (n % MM * c), ← nv_mod (n * c), Int.mul_emod, Int.emod_emod, ← Int.mul_emod]
def TT (w wr : World) (b : Nat) (n : Int) : Prop := Mo w wr ∧ w.heap.size < b ∧ b < wr.heap.size ∧ At4 wr w.heap.size 0 0 0 0 ∧ Fz wr w.heap.size ∧ At4 wr b (l0 n) (l1 n) (l2 n) (l3 n) ∧ Fz wr b
theorem TT.mo {w wr w1 : World} {b : Nat} {n : Int} (h : TT w wr b n) (m : Mo wr w1) : TT w w1 b n := by
 obtain ⟨h1, h2, h3, h4, h5, h6, h7⟩ := h
 have := m.size
 exact ⟨h1.trans m, h2, by omega, h4.mo m (by omega), h5.mo m, h6.mo m h3, h7.mo m⟩
theorem TT.put {w w1 : World} {b : Nat} {n q : Int} (h : TT w w1 b n) : TT w ((((w1.setCell ⟨b, 0, none⟩ (.int .u64 (l0 q))).setCell ⟨b, 1, none⟩ (.int .u64 (l1 q))).setCell ⟨b, 2, none⟩ (.int .u64 (l2 q))).setCell ⟨b, 3, none⟩ (.int .u64 (l3 q))) b q := by
 obtain ⟨h1, h2, h3, ⟨c0, c1, c2, c3⟩, h5, ⟨b0, b1, b2, b3⟩, h7⟩ := h
 have ne : ¬ w.heap.size = b := by omega
 have le : w.heap.size ≤ b := by omega
 refine ⟨(((h1.setCell le _).setCell le _).setCell le _).setCell le _, h2, by simpa [World.setCell] using h3, ?_, ?_, ?_, ?_⟩
 ·simp [At4, go_sem, *]
 ·intro o; simp [World.frozen?_setCell, h5 o]
 ·simp [At4, go_sem, *]
 ·intro o; simp [World.frozen?_setCell, h7 o]

set_option maxHeartbeats 1000000 in
theorem ten_yes (n : Nat) (w : World) (h7 : n ≤ 77) :
  Calls Try.prog 96 #[.int .i64 n] w fun e w' => e = .returned (.tuple #[nv (10 ^ n), .bool true]) ∧ Mo w w' := by
 have e1 : nv 1 = .agg #[.int .u64 1, .int .u64 0, .int .u64 0, .int .u64 0] := by simp [nv, l0, l1, l2, l3]
 have hn : ¬ ((n : Int) < 0) := by omega
 have hn7 : ¬ (77 < (n : Int)) := by omega
 go_enter Try.func96, Try.ntmps96
 go_wp2_with fail
 refine (from20_any 1 _ ⟨by decide, by decide⟩).mono ?_
 rintro e w1 ⟨rfl, hm⟩
 have hz := hm.size
 simp only [World.size_alloc] at hz
 have hA : At4 w1 w.heap.size 0 0 0 0 := At4.mo (by simp [At4, go_sem]) hm (by simp)
 have hF : Fz w1 w.heap.size := Fz.mo (fun o => by simp [go_sem]) hm
 have hM : Mo w w1 := ((Mo.refl _).alloc _ _).trans hm
 have hS : TT w (w1.alloc (.cells #[.int .u64 (l0 1), .int .u64 (l1 1), .int .u64 (l2 1), .int .u64 (l3 1)] 38)) w1.heap.size 1 := by
  have z : w.heap.size < w1.heap.size := by omega
  exact ⟨hM.alloc _ _, z, by simp, hA.mo ((Mo.refl _).alloc _ _) z, hF.mo ((Mo.refl _).alloc _ _), by simp [At4, go_sem], fun o => by simp [go_sem]⟩
 have HS : Hid _ := hS
 clear hS hA hF e1
 go_wp2
 go_loopw [14] (fun i wr => ∃ k : Nat, k ≤ n ∧ i = .int .i64 k ∧ TT w wr w1.heap.size (10 ^ k)) (fun i _ => n - (intOf i).toNat)
 case atStart => exact ⟨0, Nat.zero_le _, rfl, HS.out⟩
 case round =>
  obtain ⟨k, hk, rfl, ht⟩ := hrel
  by_cases hlt : k < n
  ·have ht0 := ht
   obtain ⟨g1, g2, g3, ⟨c0, c1, c2, c3⟩, g5, ⟨b0, b1, b2, b3⟩, g7⟩ := ht
   clear g5 g7
   go_wp2_with fail
   refine (mulLimb_any (l0 (10 ^ k)) (l1 (10 ^ k)) (l2 (10 ^ k)) (l3 (10 ^ k)) 10 _ (u4_lb _) ⟨by decide, by decide⟩).mono ?_
   rintro e w2 ⟨rfl, hm2⟩
   rw [vl_nv, nv_mul_mod, ← Int.pow_succ]
   have t1 := ht0.mo hm2
   have t3 := t1.put (q := 10 ^ (k + 1))
   clear b0 b1 b2 b3 c0 c1 c2 c3 g1 g2 g3
   obtain ⟨g1, g2, g3, ⟨c0, c1, c2, c3⟩, g5, ⟨b0, b1, b2, b3⟩, g7⟩ := t1
   have g7 := fun o => g7 o
   clear g5
   go_wp2
   go_roundw
   case rel => exact ⟨k + 1, by omega, by go_num, t3⟩
   case measure => simp [intOf]; omega
  ·have hkn : k = n := by omega
   subst hkn
   obtain ⟨g1, g2, g3, ⟨c0, c1, c2, c3⟩, g5, ⟨b0, b1, b2, b3⟩, g7⟩ := ht
   have g5 := fun o => g5 o
   go_wp2
   refine bodyPost_ret (v := .tuple #[nv (10 ^ k), .bool true]) (by simp [results, Try.results96, go_sem, c0, c1, c2, c3]) rfl ?_
   refine ⟨rfl, ?_⟩
   exact (((g1.setCell (Nat.le_refl _) _).setCell (Nat.le_refl _) _).setCell (Nat.le_refl _) _).setCell (Nat.le_refl _) _
end Go.Proofs.Ythfemlhmnjfjiaa

/-
 limb.Text, whatever the limbs: the walk. Decimal digits as plain lists.
-/
namespace Go.Proofs.Ythfemlhmnjfjiaa
open Go.RowKit
theorem zero4 {q : Int} (h0 : 0 ≤ q) (h : q < MM) : (l0 q == 0 && (l1 q == 0 && (l2 q == 0 && l3 q == 0))) = decide (q = 0) := by
 have e := vl_lb q h0 h
 rw [Bool.eq_iff_iff]
 simp
 constructor
 ·rintro ⟨a, b, c, d⟩; rw [a, b, c, d] at e; rw [← e]; rfl
 ·rintro rfl; decide
end Go.Proofs.Ythfemlhmnjfjiaa

/-
 The contracts of limb's functions and of the document's, in plain numbers.
-/
namespace Go.Proofs.Ythfemlhmnjfjiaa
open Go.RowKit
theorem mul_n (A B : Int) (w : World) (hA0 : 0 ≤ A) (hAM : A < MM) (hB0 : 0 ≤ B) (hBM : B < MM) :
  Calls Try.prog 95 #[nv A, nv B] w fun e w' => e = .returned (.tuple #[nv (A * B / MM), nv (A * B)]) ∧ Mo w w' := by
 have h := mul_any (l0 A) (l1 A) (l2 A) (l3 A) (l0 B) (l1 B) (l2 B) (l3 B) w (u4_lb A) (u4_lb B)
 rw [vl_lb A hA0 hAM, vl_lb B hB0 hBM] at h
 exact h
end Go.Proofs.Ythfemlhmnjfjiaa

/-
 A region whose operations come in any order: what each of them yields, and that none of them spoils what another has yielded, said once for each operation.
-/
namespace Go.Proofs.Ythfemlhmnjfjiaa
section
variable {P : Program} {ops : Array Oper} {Q : Exit → Act → World → Prop} {md : Region.Mode}
theorem count_set : ∀ (l : List Bool) (i : Nat), l[i]? = some false → (l.set i true).count false + 1 = l.count false
 | [], _, h => by cases h
 | b :: l, 0, h => by simp at h; subst h; simp
 | b :: l, i + 1, h => by
  have := count_set l i (by simpa using h)
  simp only [List.set_cons_succ, List.count_cons]
  omega
def edgesBack (md : Region.Mode) (ops : Array Oper) : Bool :=
 (List.range ops.size).all fun i => match ops[i]? with | some o => o.after.all (fun e => !Region.binds md e || decide (e.on < i)) | none => true
theorem edgesBack_spec (h : edgesBack md ops = true) {i : Nat} {o : Oper} (ho : ops[i]? = some o) : ∀ e ∈ o.after, Region.binds md e = true → e.on < i := by
 intro e he hb
 have h1 := List.all_eq_true.1 h i (List.mem_range.2 (Array.getElem?_eq_some_iff.1 ho).1)
 simp only [ho] at h1
 have h2 := Array.all_eq_true_iff_forall_mem.1 h1 e he
 simpa [hb] using h2
theorem all_listed (hb : edgesBack md ops = true) {listed : Array Bool} (hr : Region.ready md ops listed = []) : ∀ i, i < ops.size → listed.getD i true = true := by
 intro i
 induction i using Nat.strongRecOn with
 | ind i ih =>
  intro hi
  cases hl : listed.getD i true with
  | true => rfl
  | false =>
   have hm : i ∈ Region.ready md ops listed := mem_ready.2 ⟨hl, ops[i], by simp [hi], fun e he hbd => by
    have hlt := edgesBack_spec hb (i := i) (o := ops[i]) (by simp [hi]) e he hbd
    have h1 := ih e.on hlt (Nat.lt_trans hlt hi)
    have hsz : i < listed.size := by
     rcases Nat.lt_or_ge i listed.size with h' | h'
     ·exact h'
     ·simp [Array.getElem?_eq_none h'] at hl
    have : e.on < listed.size := Nat.lt_trans hlt hsz
    simpa [this] using h1⟩
   rw [hr] at hm; cases hm
def upd (f : Nat → Value) (i : Nat) (v : Value) : Nat → Value := fun j => if j = i then v else f j
def Each (F : Nat → Oper → Prop) : Nat → List Oper → Prop
 | _, [] => True
 | i, o :: l => F i o ∧ Each F (i + 1) l
theorem Each.spec {F : Nat → Oper → Prop} : ∀ (l : List Oper) (n : Nat), Each F n l → ∀ i o, l[i]? = some o → F (n + i) o
 | [], _, _, i, o, h => by cases h
 | x :: l, n, hh, 0, o, h => by simp at h; subst h; exact hh.1
 | x :: l, n, hh, i + 1, o, h => by
  have := Each.spec l (n + 1) hh.2 i o (by simpa using h)
  rwa [show n + (i + 1) = n + 1 + i by omega]
def putAll (f : Nat → Value) : Nat → List Oper → Act → Act
 | _, [], a => a
 | i, o :: l, a => putAll f (i + 1) l (a.put o.dst (f i))
theorem putAll_congr {f g : Nat → Value} : ∀ (l : List Oper) (n : Nat) (a : Act), (∀ j, n ≤ j → f j = g j) → putAll f n l a = putAll g n l a
 | [], _, _, _ => rfl
 | o :: l, n, a, h => by
  unfold putAll
  rw [h n (Nat.le_refl _)]
  exact putAll_congr l (n + 1) _ (fun j hj => h j (by omega))
def dstsApart : List Oper → Bool
 | [] => true
 | o :: l => (match o.dst with | none => true | some d => l.all fun x => x.dst != some d) && dstsApart l
theorem putAll_out (f : Nat → Value) (v : Value) (dst : Option Tmp) : ∀ (l : List Oper) (n : Nat) (a : Act), (∀ d, dst = some d → ∀ x ∈ l, x.dst ≠ some d) → (putAll f n l a).put dst v = putAll f n l (a.put dst v)
 | [], _, _, _ => rfl
 | o :: l, n, a, h => by
  unfold putAll
  rw [putAll_out f v dst l (n + 1) _ (fun d hd x hx => h d hd x (List.mem_cons_of_mem _ hx))]
  rw [Act.put_comm a (x := o.dst) (y := dst) (f n) v (fun d hd he => h d he o List.mem_cons_self hd)]
theorem put_twice (a : Act) (d : Option Tmp) (u v : Value) : (a.put d u).put d v = a.put d v := by
 cases d with
 | none => rfl
 | some d => simp [Act.put]
theorem putAll_put (v : Value) : ∀ (l : List Oper) (n : Nat) (f : Nat → Value) (a : Act), dstsApart l = true → ∀ i o, l[i]? = some o → (putAll f n l a).put o.dst v = putAll (upd f (n + i) v) n l a
 | [], _, _, _, _, i, o, h => by cases h
 | x :: l, n, f, a, hd, 0, o, h => by
  simp at h; subst h
  simp only [dstsApart, Bool.and_eq_true] at hd
  unfold putAll
  rw [putAll_out f v x.dst l (n + 1) _ (fun d hx y hy => by
   have h1 := hd.1
   rw [hx] at h1
   have := List.all_eq_true.1 h1 y hy
   simpa using this)]
  rw [put_twice]
  have e : upd f (n + 0) v n = v := by simp [upd]
  rw [e]
  exact putAll_congr l (n + 1) _ (fun j hj => by simp only [upd]; rw [if_neg (by omega)])
 | x :: l, n, f, a, hd, i + 1, o, h => by
  simp only [dstsApart, Bool.and_eq_true] at hd
  unfold putAll
  rw [putAll_put v l (n + 1) f _ hd.2 i o (by simpa using h)]
  have e : upd f (n + (i + 1)) v n = f n := by simp only [upd]; rw [if_neg (by omega)]
  rw [e, show n + 1 + i = n + (i + 1) by omega]
def slots (a : Act) (ops : Array Oper) : Nat → Value := fun i => match (ops[i]?).bind (·.dst) with | some d => a.tmps.getD d undef | none => undef
theorem put_self (a : Act) (d : Option Tmp) (v : Value) (h : ∀ t, d = some t → v = a.tmps.getD t undef) : a.put d v = a := by
 cases d with
 | none => rfl
 | some t =>
  have := h t rfl
  subst this
  obtain ⟨ts, ds⟩ := a
  simp only [Act.put]
  congr 1
  apply Array.ext
  ·simp
  ·intro j h1 h2
   by_cases e : t = j
   ·subst e; simp [h2]
   ·simp [Array.getElem_setIfInBounds_ne, e, h2]
theorem putAll_self (a : Act) : ∀ (l : List Oper) (n : Nat) (f : Nat → Value), (∀ i o, l[i]? = some o → ∀ t, o.dst = some t → f (n + i) = a.tmps.getD t undef) → putAll f n l a = a
 | [], _, _, _ => rfl
 | o :: l, n, f, h => by
  unfold putAll
  rw [put_self a o.dst (f n) (fun t ht => h 0 o rfl t ht)]
  exact putAll_self a l (n + 1) f (fun i x hx t ht => by
   have := h (i + 1) x (by simpa using hx) t ht
   rwa [show n + (i + 1) = n + 1 + i by omega] at this)
end
end Go.Proofs.Ythfemlhmnjfjiaa

/-
 A walk step by step: each operation by its own law, the world behind it a letter, a block's cells one row.
-/
namespace Go.Proofs.Ythfemlhmnjfjiaa
open Go.RowKit
abbrev pt (k o : Nat) : Value := .pointer (some ⟨k, o, none⟩)
def At (w : World) (k : Nat) (vs : List Value) : Prop := w.rangeAt k 0 vs ∧ Fz w k ∧ k < w.heap.size
theorem At.lt {w : World} {k : Nat} {vs : List Value} (h : At w k vs) : k < w.heap.size := h.2.2
theorem At.mo {w w' : World} {k : Nat} {vs : List Value} (h : At w k vs) (m : Mo w w') : At w' k vs :=
 ⟨fun j v hv => (m.cell k _ h.2.2).trans (h.1 j v hv), h.2.1.mo m, Nat.lt_of_lt_of_le h.2.2 m.size⟩
theorem At.cell {w : World} {k : Nat} {vs : List Value} (h : At w k vs) {j : Nat} {v : Value} (hv : vs[j]? = some v) : w.cell? ⟨k, j, none⟩ = some v := by
 have := h.1 j v hv; simpa using this
theorem At.there {w : World} {k : Nat} {vs : List Value} (h : At w k vs) (o n : Nat) (hn : o + n ≤ vs.length) : w.there k o n := fun j hj => by
 refine ⟨?_, h.2.1 _⟩
 rw [h.cell (j := o + j) (v := vs[o + j]'(by omega)) (List.getElem?_eq_getElem (by omega))]; rfl
theorem At.new (w : World) (cs : Array Value) (t : TypeId) : At (w.alloc (.cells cs t)) w.heap.size cs.toList := by
 refine ⟨fun j v hv => ?_, fun o => ?_, by simp⟩
 ·simp at hv; simp [go_sem, hv]
 ·simp [go_sem]
theorem sz_setCells (k : Nat) : ∀ (l : List Value) (o : Nat) (w : World), (w.setCells k o l).heap.size = w.heap.size
 | [], _, _ => rfl
 | v :: r, o, w => by rw [World.setCells, sz_setCells k r]; simp [World.setCell]
theorem Mo.setCs {a : World} {k : Nat} (hk : a.heap.size ≤ k) : ∀ (l : List Value) (o : Nat) (b : World), Mo a b → Mo a (b.setCells k o l)
 | [], _, _, h => h
 | v :: r, o, b, h => by rw [World.setCells]; exact Mo.setCs hk r (o + 1) _ (h.setCell hk v)
structure St (k : Nat) (w w' : World) : Prop where
 size : w'.heap.size = w.heap.size
 other : ∀ j vs, j ≠ k → At w j vs → At w' j vs
 mo : ∀ a : World, a.heap.size ≤ k → Mo a w → Mo a w'
theorem St.mk' (w : World) (k o : Nat) (l : List Value) : St k w (w.setCells k o l) where
 size := sz_setCells k l o w
 other := fun j vs hj h => ⟨World.rangeAt_setCells_apart h.1 k o l (Or.inl hj), fun o' => by rw [World.frozen?_setCells]; exact h.2.1 o', by rw [sz_setCells]; exact h.2.2⟩
 mo := fun a ha h => Mo.setCs ha l o w h
theorem At.set {w : World} {k : Nat} {us : List Value} (h : At w k us) (o : Nat) (l : List Value) (hl : o + l.length ≤ us.length) (vs : List Value) (hvs : vs = us.take o ++ l ++ us.drop (o + l.length)) : At (w.setCells k o l) k vs := by
 subst hvs
 refine ⟨fun j v hv => ?_, fun o' => by rw [World.frozen?_setCells]; exact h.2.1 o', by rw [sz_setCells]; exact h.2.2⟩
 rw [Nat.zero_add]
 by_cases h1 : j < o
 ·rw [World.cell?_setCells_out k l o w _ (fun _ _ => Or.inl h1)]
  refine h.cell ?_
  rw [List.append_assoc, List.getElem?_append_left (by simp; omega), List.getElem?_take_of_lt h1] at hv
  exact hv
 ·by_cases h2 : j < o + l.length
  ·rw [List.append_assoc, List.getElem?_append_right (by simp; omega), List.getElem?_append_left (by simp; omega)] at hv
   have := World.cell?_setCells_in k l o w (fun i hi => (h.there o l.length hl i hi).1) (j - o) (by omega)
   rw [show o + (j - o) = j by omega] at this
   rw [this, ← hv]
   rw [List.length_take, show min o us.length = o by omega, List.getElem?_eq_getElem (by omega)]
  ·rw [World.cell?_setCells_out k l o w _ (fun _ _ => Or.inr (by show o + l.length ≤ j; omega))]
   refine h.cell ?_
   rw [List.getElem?_append_right (by simp; omega), List.getElem?_drop] at hv
   rw [← hv]
   congr 1
   simp
   omega
section runs
variable {P : Program} {w : World} {k : Nat} {vs : List Value}
theorem run_row (h : At w k vs) (ty : TypeId) (o n : Nat) (us : List Value) (hus : us = (vs.drop o).take n) {d : TypeDesc} (hu : P.underlying ty = some d) (hd : d.isRow = true) (hi : (P.info? ty).map (·.size) = some us.length) :
  (Instr.loadAt ty (pt k o)).run P w = .ok (.agg us.toArray) w :=
 run_loadAt_mid w k o ty us d (fun j v hv => by
  subst hus
  refine h.cell ?_
  rw [List.getElem?_take] at hv
  split at hv
  ·rw [List.getElem?_drop] at hv; exact hv
  ·cases hv) hu hd hi
theorem run_one (h : At w k vs) (ty : TypeId) (o : Nat) {v : Value} (hv : vs[o]? = some v) {d : TypeDesc} (hu : P.underlying ty = some d) (hd : d.isRow = false) :
  (Instr.loadAt ty (pt k o)).run P w = .ok v w := by
 have hagg : (isAgg ty).run P w = .ok false w := by
  unfold isAgg
  rw [Sem.run_bind, run_underlying hu w]
  cases d <;> simp_all
 have hc := h.cell hv
 simp [Instr.loadAt, Instr.sureAddr, loadVar, Sem.run_bind, hagg, hc]
theorem run_put (h : At w k vs) (ty : TypeId) (o : Nat) (us : Array Value) (hl : o + us.size ≤ vs.length) (hi : (P.info? ty).map (·.size) = some us.size) (h1 : us.all (·.oneCell') = true) :
  (Instr.storeAt ty (pt k o) (.agg us)).run P w = .ok () (w.setCells k o us.toList) :=
 run_storeAt_mid w k o ty us (h.there o us.size hl) hi h1
theorem run_put1 (h : At w k vs) (ty : TypeId) (o : Nat) (v : Value) (hl : o < vs.length) (hi : (P.info? ty).map (·.size) = some 1) (hv : v.cells = #[v]) (h1 : v.oneCell' = true) :
  (Instr.storeAt ty (pt k o) v).run P w = .ok () (w.setCells k o [v]) := by
 have ht := h.there o 1 (by omega)
 have := run_storeCells_cells (P := P) k o [v] 0 w (fun j hj => by simpa using (ht j (by simpa using hj)).1) (fun j hj => by simpa using (ht j (by simpa using hj)).2)
  (fun u hu => by simp at hu; subst hu; exact h1)
 cases hq : P.info? ty with
 | none => simp [hq] at hi
 | some i =>
  have hs : i.size = 1 := by simpa [hq] using hi
  simp only [Nat.add_zero] at this
  simp [Instr.storeAt, Instr.sureAddr, storeVar, sizeOf, typeInfo, hq, hv, hs, this]
end runs
/-! Frames as lists of what was put where, the last first. -/
theorem blt_f {t n : Nat} (h : ¬ t < n) : Nat.blt t n = false := by
 cases e : Nat.blt t n with
 | false => rfl
 | true => rw [Nat.blt_eq] at e; exact absurd e h
theorem beq_f {d j : Nat} (h : ¬ d = j) : Nat.beq d j = false := by
 cases e : Nat.beq d j with
 | false => rfl
 | true => exact absurd (Nat.eq_of_beq_eq_true e) h
def look : List (Nat × Value) → Nat → Value
 | [], _ => undef
 | (d, v) :: l, t => bif Nat.beq d t then v else look l t
def fr (n : Nat) (l : List (Nat × Value)) : Act := { tmps := Array.ofFn (n := n) fun i => look l i, defers := [] }
def ext (l : List (Nat × Value)) : Option Tmp → Value → List (Nat × Value)
 | some d, v => (d, v) :: l
 | none, _ => l
def evl (n : Nat) (l : List (Nat × Value)) : Operand → Value
 | .tmp t => bif Nat.blt t n then look l t else undef
 | .const v => v
 | .global g => .pointer (some ⟨g, 0, none⟩)
 | .func f => .func (.func f) #[] #[]
theorem fr_getD (n : Nat) (l : List (Nat × Value)) (t : Nat) : (fr n l).tmps.getD t undef = bif Nat.blt t n then look l t else undef := by
 unfold fr
 by_cases h : t < n
 ·have e : Nat.blt t n = true := by simpa using h
  simp [h, e]
 ·have e := blt_f h
  simp [h, e]
theorem fr_eval (n : Nat) (l : List (Nat × Value)) : (fr n l).eval = evl n l := by
 funext x
 cases x with
 | tmp t => exact fr_getD n l t
 | _ => rfl
theorem fr_put (n : Nat) (l : List (Nat × Value)) (d : Option Tmp) (v : Value) : (fr n l).put d v = fr n (ext l d v) := by
 cases d with
 | none => rfl
 | some d =>
  simp only [fr, Act.put, ext]
  congr 1
  apply Array.ext
  ·simp
  ·intro j h1 h2
   simp at h1
   by_cases e : d = j
   ·subst e; simp [look]
   ·have := beq_f e
    rw [Array.getElem_setIfInBounds_ne (by simpa using h1) e]
    simp [look, this]
def wnt (n : Nat) (l : List (Nat × Value)) (ops : Array Oper) (o : Oper) : Bool :=
 match o.guard with
 | none => true
 | some (j, want) => (match (ops[j]?).bind (·.dst) with
  | some t => (bif Nat.blt t n then (match look l t with | .bool b => some b | _ => none) else none)
  | none => none) == some want
theorem fr_wanted (n : Nat) (l : List (Nat × Value)) (ops : Array Oper) (o : Oper) : Region.wanted o (yielded ops (fr n l).tmps) = wnt n l ops o := by
 unfold Region.wanted wnt
 cases o.guard with
 | none => rfl
 | some g =>
  obtain ⟨j, want⟩ := g
  simp only [yielded]
  cases (ops[j]?).bind (·.dst) with
  | none => rfl
  | some t =>
   by_cases h : t < n
   ·have e : Nat.blt t n = true := by simpa using h
    simp [fr, h, e]
    cases look l t <;> rfl
   ·have e := blt_f h
    simp [fr, h, e]
def argl : Nat → List Value → List (Nat × Value)
 | _, [] => []
 | i, v :: r => (i, v) :: argl (i + 1) r
theorem look_argl : ∀ (vs : List Value) (i t : Nat), look (argl i vs) t = if i ≤ t then (vs[t - i]?).getD undef else undef
 | [], i, t => by simp [argl, look]
 | v :: r, i, t => by
  have ih := look_argl r (i + 1) t
  by_cases e : i = t
  ·subst e; simp [argl, look]
  ·have hb := beq_f e
   simp only [argl, look, hb, cond_false, ih]
   by_cases h : i + 1 ≤ t
   ·rw [if_pos h, if_pos (by omega), show t - i = (t - (i + 1)) + 1 by omega, List.getElem?_cons_succ]
   ·rw [if_neg h, if_neg (by omega)]
theorem fr_args (n : Nat) (args : Array Value) (h : args.size ≤ n) : ({ tmps := args ++ Array.replicate (n - args.size) undef, defers := [] } : Act) = fr n (argl 0 args.toList) := by
 unfold fr
 congr 1
 apply Array.ext
 ·simp; omega
 ·intro j h1 h2
  simp at h2
  simp only [Array.getElem_ofFn, look_argl, Nat.zero_le, if_true, Nat.sub_zero]
  by_cases hj : j < args.size
  ·rw [Array.getElem_append_left hj]; simp [hj]
  ·rw [Array.getElem_append_right (by omega)]; simp [Nat.le_of_not_lt hj]
theorem f_enter {P : Program} {f : FuncId} {fn : Func} {c : Code} {args : Array Value} {w : World} {R : Ending → World → Prop} (n : Nat) (hf : P.funcs[f]? = some fn) (hn : fn.ntmps = n) (hb : fn.body = some c)
  (ha : Nat.ble args.size n = true) (h : c.wp P (bodyPost P fn R) (fr n (argl 0 args.toList)) w) : Calls P f args w R := by
 refine calls_of_wp hf hb ?_
 rw [hn, fr_args n args (by simpa using ha)]
 exact h
def resv (n : Nat) (l : List (Nat × Value)) (P : Program) (w : World) (v : Value) : ResultVar → Prop
 | .tmp t => (bif Nat.blt t n then look l t else undef) = v
 | .cell a t => ∃ k : Nat, (bif Nat.blt a n then look l a else undef) = pt k 0 ∧ (Instr.loadAt t (pt k 0)).run P w = .ok v w
theorem resv_tmp {n : Nat} {l : List (Nat × Value)} {P : Program} {w : World} {v : Value} {t : Tmp} (h : resv n l P w v (.tmp t)) : (fr n l).tmps[t]?.getD undef = v := by
 have := fr_getD n l t
 simp only [Array.getD_eq_getD_getElem?] at this
 rw [this]; exact h
theorem resv_cell {n : Nat} {l : List (Nat × Value)} {P : Program} {w : World} {v : Value} {a : Tmp} {t : TypeId} (h : resv n l P w v (.cell a t)) : ∃ k : Nat, (fr n l).tmps[a]?.getD undef = pt k 0 ∧ (loadVar t ⟨k, 0, none⟩).run P w = .ok v w := by
 obtain ⟨k, h1, h2⟩ := h
 refine ⟨k, ?_, by simpa only [Instr.loadAt, Instr.sureAddr, Sem.run_bind, Sem.run_pure, Result.andThen_ok] using h2⟩
 have := fr_getD n l a
 simp only [Array.getD_eq_getD_getElem?] at this
 rw [this]; exact h1
theorem Each.mono {F G : Nat → Oper → Prop} (h : ∀ i o, F i o → G i o) : ∀ (l : List Oper) (n : Nat), Each F n l → Each G n l
 | [], _, _ => trivial
 | _ :: l, n, hh => ⟨h _ _ hh.1, Each.mono h l (n + 1) hh.2⟩
/-! The laws of the steps. -/
section steps
variable {P : Program} {o : Oper} {n : Nat} {l : List (Nat × Value)} {w : World} {ops : Array Oper} {rest : List Oper} {Q : Exit → Act → World → Prop} {K : Act → World → Prop}
theorem o_val {w' : World} (v : Value) (h : (execOp (evl n l) o).run P w = .ok (.value v) w') (hk : K (fr n (ext l o.dst v)) w') : o.wp P (fr n l) w K Q := by
 unfold Oper.wp; rw [fr_eval, h, Oper.upon_value, fr_put]; exact hk
theorem o_load (ty : TypeId) (x : Operand) (p v : Value) (ho : o.op = .load ty x) (hx : evl n l x = p) (h : (Instr.loadAt ty p).run P w = .ok v w) (hk : K (fr n (ext l o.dst v)) w) : o.wp P (fr n l) w K Q := by
 refine o_val v ?_ hk
 subst hx
 simp [execOp, ho, h]
theorem o_store (ty : TypeId) (x y : Operand) (p v : Value) {w' : World} (ho : o.op = .store ty x y) (hd : o.dst = none) (hx : evl n l x = p) (hy : evl n l y = v) (h : (Instr.storeAt ty p v).run P w = .ok () w') (hk : K (fr n l) w') : o.wp P (fr n l) w K Q := by
 subst hx hy
 have e : (execOp (evl n l) o).run P w = .ok .skip w' := by simp [execOp, ho, h]
 unfold Oper.wp; rw [fr_eval, e, Oper.upon_skip, hd]; exact hk
theorem o_alloc (ty : TypeId) (zs : Array Value) (ho : o.op = .alloc ty) (h : ∀ w, (Instr.alloc ty true (.tuple #[])).run P w = .ok (pt w.heap.size 0) (w.alloc (.cells zs ty)))
  (hk : ∀ k w', w.heap.size = k → w'.heap.size = k + 1 → Mo w w' → At w' k zs.toList → K (fr n (ext l o.dst (pt k 0))) w') : o.wp P (fr n l) w K Q := by
 refine o_val (pt w.heap.size 0) (w' := w.alloc (.cells zs ty)) ?_ (hk _ _ rfl (by simp) ((Mo.refl _).alloc _ _) (At.new w zs ty))
 simp [execOp, ho, h]
theorem o_box (ty : TypeId) (x : Operand) (v : Value) (cs : Array Value) (ho : o.op = .box ty x) (hx : evl n l x = v) (h : ∀ w, (Instr.box ty v).run P w = .ok (pt w.heap.size 0) (w.alloc (.cells cs ty)))
  (hk : ∀ k w', w.heap.size = k → w'.heap.size = k + 1 → Mo w w' → At w' k cs.toList → K (fr n (ext l o.dst (pt k 0))) w') : o.wp P (fr n l) w K Q := by
 subst hx
 refine o_val (pt w.heap.size 0) (w' := w.alloc (.cells cs ty)) ?_ (hk _ _ rfl (by simp) ((Mo.refl _).alloc _ _) (At.new w cs ty))
 simp [execOp, ho, h]
theorem o_call (g : FuncId) (xs : List Operand) (ats : Array TypeId) (args : List Value) (v : Value) (ho : o.op = .call { callee := .value (.func g), args := xs.toArray, argTypes := ats }) (hx : xs.map (evl n l) = args)
  (h : ∀ args w, (callFunc g args).run P w = .ok (.enter g args) w)
  (hc : Calls P g args.toArray w fun e w' => e = .returned v ∧ Mo w w') (hk : ∀ w', Mo w w' → K (fr n (ext l o.dst v)) w') : o.wp P (fr n l) w K Q := by
 have e : (execOp (evl n l) o).run P w = .ok (.enter g args.toArray) w := by
  obtain ⟨dst, op, ty, pos, after, guard⟩ := o
  simp only at ho
  subst ho hx
  have e2 := execOp_call_go (fr n l) dst g xs.toArray ats ty pos after guard
  rw [fr_eval] at e2
  rw [e2, h]
  simp
 unfold Oper.wp; rw [fr_eval, e, Oper.upon_enter]
 refine hc.mono ?_
 rintro e w' ⟨rfl, h⟩
 show K _ _
 rw [fr_put]
 exact hk w' h
theorem o_st (ty : TypeId) (x y : Operand) (k off : Nat) (us : Array Value) (vs vs' : List Value) (hA : At w k vs) (ho : o.op = .store ty x y) (hd : o.dst = none) (hx : evl n l x = pt k off) (hy : evl n l y = .agg us)
  (hl : Nat.ble (off + us.size) vs.length = true) (hi : (P.info? ty).map (·.size) = some us.size) (h1 : us.toList.all (·.oneCell') = true) (hvs : vs' = vs.take off ++ us.toList ++ vs.drop (off + us.toList.length))
  (hk : ∀ w', St k w w' → At w' k vs' → K (fr n l) w') : o.wp P (fr n l) w K Q :=
 o_store ty x y _ _ ho hd hx hy (run_put hA ty off us (Nat.le_of_ble_eq_true hl) hi (by rw [← Array.all_toList]; exact h1)) (hk _ (St.mk' w k off us.toList) (hA.set off us.toList (by have := Nat.le_of_ble_eq_true hl; simpa using this) vs' hvs))
theorem o_st1 (ty : TypeId) (x y : Operand) (k off : Nat) (v : Value) (vs vs' : List Value) (hA : At w k vs) (ho : o.op = .store ty x y) (hd : o.dst = none) (hx : evl n l x = pt k off) (hy : evl n l y = v)
  (hl : Nat.blt off vs.length = true) (hi : (P.info? ty).map (·.size) = some 1) (hv : v.cells = #[v]) (h1 : v.oneCell' = true) (hvs : vs' = vs.take off ++ [v] ++ vs.drop (off + 1))
  (hk : ∀ w', St k w w' → At w' k vs' → K (fr n l) w') : o.wp P (fr n l) w K Q :=
 have hl' : off < vs.length := by rw [Nat.blt_eq] at hl; exact hl
 o_store ty x y _ _ ho hd hx hy (run_put1 hA ty off v hl' hi hv h1) (hk _ (St.mk' w k off [v]) (hA.set off [v] (by simp; omega) vs' hvs))
theorem l_step (hg : wnt n l ops o = true) (h : o.wp P (fr n l) w (wpList P ops Q rest) Q) : wpList P ops Q (o :: rest) (fr n l) w :=
 wpList_step fun K hK => by rw [fr_wanted, hg, if_pos rfl]; exact Oper.wp_mono (fun a w h => hK a w h) h
theorem l_skip (hg : wnt n l ops o = false) (h : wpList P ops Q rest (fr n (ext l o.dst undef)) w) : wpList P ops Q (o :: rest) (fr n l) w :=
 wpList_step fun K hK => by rw [fr_wanted, hg, fr_put]; exact hK _ _ h
theorem c_cond {c : Operand} {x y : Code} (t : Bool) (hc : evl n l c = .bool t) (h : (bif t then x else y).wp P Q (fr n l) w) : (Code.cond c x y).wp P Q (fr n l) w := by
 cases t
 ·exact wp_cond_false (by rw [fr_eval]; exact hc) h
 ·exact wp_cond_true (by rw [fr_eval]; exact hc) h
theorem c_ret1 {fn : Func} {R : Ending → World → Prop} (x : ResultVar) (v : Value) (hf : fn.results = #[x]) (h : resv n l P w v x) (hR : R (.returned v) w) : bodyPost P fn R .ret (fr n l) w := by
 refine bodyPost_ret (v := v) ?_ rfl hR
 cases x with
 | tmp t => have := resv_tmp h; simp [results, hf, this]
 | cell a t => obtain ⟨k, h1, h2⟩ := resv_cell h; simp [results, hf, h1, h2, asAddr]
theorem c_ret2 {fn : Func} {R : Ending → World → Prop} (x y : ResultVar) (v u : Value) (hf : fn.results = #[x, y]) (h : resv n l P w v x) (g : resv n l P w u y) (hR : R (.returned (.tuple #[v, u])) w) : bodyPost P fn R .ret (fr n l) w := by
 refine bodyPost_ret (v := .tuple #[v, u]) ?_ rfl hR
 cases x with
 | tmp t =>
  have h1 := resv_tmp h
  cases y with
  | tmp t => have g1 := resv_tmp g; simp [results, hf, h1, g1]
  | cell a t => obtain ⟨k, g1, g2⟩ := resv_cell g; simp [results, hf, h1, g1, g2, asAddr]
 | cell a t =>
  obtain ⟨k, h1, h2⟩ := resv_cell h
  cases y with
  | tmp t => have g1 := resv_tmp g; simp [results, hf, h1, h2, g1, asAddr]
  | cell a t => obtain ⟨k, g1, g2⟩ := resv_cell g; simp [results, hf, h1, h2, g1, g2, asAddr]
def asg (f : Nat → Value) : Nat → List Oper → List (Nat × Value) → List (Nat × Value)
 | _, [], l => l
 | i, o :: r, l => asg f (i + 1) r (ext l o.dst (f i))
theorem putAll_fr (f : Nat → Value) : ∀ (r : List Oper) (i : Nat) (l : List (Nat × Value)), putAll f i r (fr n l) = fr n (asg f i r l)
 | [], _, _ => rfl
 | o :: r, i, l => by simp only [putAll, asg, fr_put]; exact putAll_fr f r (i + 1) _
def depb (o : Oper) (j : Nat) : Bool := o.after.toList.any fun e => Region.binds .any e && Nat.beq e.on j
theorem li1 {a b : Value} (h : a = b) : [a] = [b] := by rw [h]
theorem li2 {a b c d : Value} (h : a = b) (k : c = d) : [a, c] = [b, d] := by rw [h, k]
theorem li3 {a b c d e f : Value} (h : a = b) (k : c = d) (m : e = f) : [a, c, e] = [b, d, f] := by rw [h, k, m]
theorem li4 {a b c d e f g i : Value} (h : a = b) (k : c = d) (m : e = f) (p : g = i) : [a, c, e, g] = [b, d, f, i] := by rw [h, k, m, p]
end steps
end Go.Proofs.Ythfemlhmnjfjiaa

/-
 A region that draws its order: what each operation of its first part yields, said once for each; the last part a chain.
-/
namespace Go.Proofs.Ythfemlhmnjfjiaa
open Go.RowKit
abbrev Sp := Sum Value (List Value)
def spNew : Sp → Bool
 | .inl _ => false
 | .inr _ => true
def spDen (N : Nat) : Sp → Value → World → Prop
 | .inl v, u, _ => u = v
 | .inr zs, u, w => ∃ k, u = pt k 0 ∧ N ≤ k ∧ At w k zs
theorem spMo {N : Nat} {s : Sp} {u : Value} {w w' : World} (m : Mo w w') (h : spDen N s u w) : spDen N s u w' := by
 cases s with
 | inl v => exact h
 | inr zs => obtain ⟨k, h1, h2, h3⟩ := h; exact ⟨k, h1, h2, h3.mo m⟩
def spAt (sp : List Sp) (i : Nat) : Sp := (sp[i]?).getD (.inl undef)
def Ds (sp : List Sp) (f : Nat → Value) (w : World) : Prop :=
 (∀ j, spNew (spAt sp j) = true → ∀ k, f j = pt k 0 → k < w.heap.size) ∧ ∀ i j, spNew (spAt sp i) = true → spNew (spAt sp j) = true → i ≠ j → ∀ k, f i = pt k 0 → f j ≠ pt k 0
theorem Ds.other {sp : List Sp} {f : Nat → Value} {w w' : World} {i : Nat} {v : Value} (h : Ds sp f w) (hi : spNew (spAt sp i) = false) (hz : w.heap.size ≤ w'.heap.size) : Ds sp (upd f i v) w' := by
 have e : ∀ j, spNew (spAt sp j) = true → upd f i v j = f j := fun j hj => by
  unfold upd; rw [if_neg]; intro e; subst e; rw [hi] at hj; cases hj
 exact ⟨fun j hj k hk => Nat.lt_of_lt_of_le (h.1 j hj k (by rw [← e j hj]; exact hk)) hz, fun a b ha hb hab k hk => by rw [e b hb]; exact h.2 a b ha hb hab k (by rw [← e a ha]; exact hk)⟩
theorem pt_inj {a b : Nat} (h : pt a 0 = pt b 0) : a = b := by simpa using h
theorem Ds.fresh {sp : List Sp} {f : Nat → Value} {w w' : World} {i k : Nat} (h : Ds sp f w) (hk : w.heap.size = k) (hz : w'.heap.size = k + 1) : Ds sp (upd f i (pt k 0)) w' := by
 refine ⟨fun j hj m hm => ?_, fun a b ha hb hab m hm hn => ?_⟩
 ·unfold upd at hm
  split at hm
  ·have := pt_inj hm; omega
  ·have := h.1 j hj m hm; omega
 ·unfold upd at hm hn
  split at hm
  ·have e := pt_inj hm
   split at hn
   ·omega
   ·have := h.1 b hb m hn; omega
  ·split at hn
   ·have e := pt_inj hn; have := h.1 a ha m hm; omega
   ·exact h.2 a b ha hb hab m hm hn
def tw (ops : List Oper) : Nat → Nat → Nat → Bool
 | 0, _, _ => false
 | f + 1, i, j => match ops[i]? with
  | some o => depb o j || (List.range i).any fun k => depb o k && tw ops f k j
  | none => false
theorem exists_least0 {p : Nat → Prop} (h : ∃ m, p m) : ∃ m, p m ∧ ∀ k, p k → m ≤ k := by
 obtain ⟨m, hm⟩ := h
 induction m using Nat.strongRecOn with
 | ind m ih =>
  by_cases hh : ∃ k, k < m ∧ p k
  ·obtain ⟨k, hk, hp⟩ := hh; exact ih k hk hp
  ·exact ⟨m, hm, fun k hp => Nat.le_of_not_lt (fun hk => hh ⟨k, hk, hp⟩)⟩
def chainB (ops : List Oper) (m : Nat) (fs : List Nat) : Bool := (List.range ops.length).all fun i => Nat.blt i m || (List.range i).all fun j => fs.contains j || tw ops ops.length i j
def Shut (ops : List Oper) (listed : Array Bool) : Prop := ∀ i o, ops[i]? = some o → listed.getD i false = true → ∀ e ∈ o.after, Region.binds .any e = true → listed.getD e.on false = true
theorem tw_spec {ops : List Oper} {listed : Array Bool} (hc : Shut ops listed) : ∀ (f i j : Nat) (o : Oper), ops[i]? = some o → (∀ e ∈ o.after, Region.binds .any e = true → listed.getD e.on false = true) → tw ops f i j = true → listed.getD j false = true := by
 intro f
 induction f with
 | zero => intro i j o _ _ h; cases h
 | succ f ih =>
  intro i j o ho hd h
  have dep : ∀ k, depb o k = true → listed.getD k false = true := fun k hk => by
   obtain ⟨e, he, hb⟩ := List.any_eq_true.1 hk
   simp only [Bool.and_eq_true] at hb
   have := hd e (by simpa using he) hb.1
   rwa [Nat.eq_of_beq_eq_true hb.2] at this
  simp only [tw, ho, Bool.or_eq_true] at h
  rcases h with h | h
  ·exact dep j h
  ·obtain ⟨k, hk, hkk⟩ := List.any_eq_true.1 h
   simp only [Bool.and_eq_true] at hkk
   cases hok : ops[k]? with
   | none => cases f with
    | zero => cases hkk.2
    | succ f => simp [tw, hok] at hkk
   | some ok => exact ih k j ok hok (fun e he hb => hc k ok hok (dep k hkk.1) e he hb) hkk.2
theorem chainB_spec {ops : List Oper} {m : Nat} {fs : List Nat} (h : chainB ops m fs = true) {listed : Array Bool} (hc : Shut ops listed) {i : Nat} {o : Oper} (ho : ops[i]? = some o) (hi : m ≤ i) (hd : ∀ e ∈ o.after, Region.binds .any e = true → listed.getD e.on false = true) : ∀ j, j < i → fs.contains j = false → listed.getD j false = true := by
 intro j hj hfl
 have h1 := List.all_eq_true.1 h i (List.mem_range.2 (List.getElem?_eq_some_iff.1 ho).1)
 simp only [Bool.or_eq_true] at h1
 rcases h1 with h1 | h1
 ·rw [Nat.blt_eq] at h1; omega
 ·have h2 := List.all_eq_true.1 h1 j (List.mem_range.2 hj)
  rw [hfl, Bool.false_or] at h2
  exact tw_spec hc _ i j o ho hd h2
theorem Shut.step {ops : List Oper} {listed : Array Bool} (h : Shut ops listed) {i : Nat} {o : Oper} (ho : ops[i]? = some o) (hd : ∀ e ∈ o.after, Region.binds .any e = true → listed.getD e.on false = true) : Shut ops (listed.setIfInBounds i true) := by
 intro j oj hoj hl e he hb
 by_cases hij : i = j
 ·subst hij
  rw [ho] at hoj; cases hoj
  exact getD_set_true (hd e he hb)
 ·rw [getD_set_ne false hij] at hl
  exact getD_set_true (h j oj hoj hl e he hb)
theorem Shut.start (ops : List Oper) (n : Nat) : Shut ops (Array.replicate n false) := fun i _ _ hl => by
 exfalso
 rcases Nat.lt_or_ge i n with h' | h' <;> simp [h'] at hl
section
variable {P : Program} {ops : List Oper} {Q : Exit → Act → World → Prop} {n : Nat} {l : List (Nat × Value)}
theorem wpAny_chain {m : Nat} {fs : List Nat} (hfs : ∀ j, m ≤ j → fs.contains j = false) (hc : chainB ops m fs = true) (hb : edgesBack .any ops.toArray = true) : ∀ (d q fuel : Nat) (listed : Array Bool) (a : Act) (w : World), q + d = ops.length → m ≤ q → d ≤ fuel → listed.size = ops.length → Shut ops listed →
  (∀ j, j < ops.length → listed.getD j true = decide (j < q)) → wpList P ops.toArray Q (ops.drop q) a w → wpAny P .any ops.toArray Q fuel listed a w := by
 intro d
 induction d with
 | zero =>
  intro q fuel listed a w hq hm hf hz hsh hl h
  have hr : Region.ready .any ops.toArray listed = [] := by
   rw [List.eq_nil_iff_forall_not_mem]
   intro i hi
   obtain ⟨h0, o, ho, _⟩ := mem_ready.1 hi
   have hlt : i < ops.length := by have := (Array.getElem?_eq_some_iff.1 ho).1; simpa using this
   rw [hl i hlt] at h0
   have := of_decide_eq_false h0
   omega
  rw [List.drop_eq_nil_of_le (by omega)] at h
  exact wpAny_done hr h fuel
 | succ d ih =>
  intro q fuel listed a w hq hm hf hz hsh hl h
  have hqlt : q < ops.length := by omega
  cases fuel with
  | zero => omega
  | succ fuel =>
   have hone : ∀ i, i ∈ Region.ready .any ops.toArray listed ↔ i = q := by
    intro i
    constructor
    ·intro hi
     obtain ⟨h0, o, ho, hall⟩ := mem_ready.1 hi
     have hlt : i < ops.length := by have := (Array.getElem?_eq_some_iff.1 ho).1; simpa using this
     rw [hl i hlt] at h0
     have hge := of_decide_eq_false h0
     rcases Nat.lt_or_ge q i with hgt | hle
     ·have h1 := chainB_spec hc hsh (i := i) (o := o) (by simpa using ho) (by omega) hall q hgt (hfs q hm)
      have h2 := hl q hqlt
      have : q < listed.size := by omega
      simp [this] at h1 h2
      rw [h1] at h2; cases h2
     ·omega
    ·rintro rfl
     refine mem_ready.2 ⟨by rw [hl i hqlt]; simp, ops[i], by simp [hqlt], fun e he hbd => ?_⟩
     have hlt := edgesBack_spec hb (i := i) (o := ops[i]) (by simp [hqlt]) e he hbd
     have h2 := hl e.on (by omega)
     have : e.on < listed.size := by omega
     simp [this] at h2 ⊢
     rw [h2]; exact decide_eq_true hlt
   refine ⟨fun h0 => ?_, fun i hi => ?_⟩
   ·have := (hone q).2 rfl; rw [h0] at this; cases this
   ·have := (hone i).1 hi
    subst this
    have hdi : ∀ e ∈ (ops[i]).after, Region.binds .any e = true → listed.getD e.on false = true := by
     obtain ⟨_, o, ho, hall⟩ := mem_ready.1 hi
     have : ops[i] = o := by have := Array.getElem?_eq_some_iff.1 ho; obtain ⟨_, h⟩ := this; simpa using h
     rw [this]; exact hall
    rw [List.drop_eq_getElem_cons hqlt] at h
    have h1 : wpOp P ops.toArray Q i (wpList P ops.toArray Q (ops.drop (i + 1))) a w := by
     unfold wpOp
     have e : ops.toArray[i]? = some ops[i] := by simp [hqlt]
     rw [e]
     unfold wpList at h
     exact h
    refine wpOp_mono (fun a' w' h' => ih (i + 1) fuel _ a' w' (by omega) (by omega) (by omega) (by simpa using hz) (hsh.step (i := i) (o := ops[i]) (by simp [hqlt]) hdi) (fun j hj => ?_) h') h1
    by_cases e : i = j
    ·subst e
     have : i < listed.size := by omega
     simp [this]
    ·rw [getD_set_ne true e, hl j hj]
     congr 1
     rw [eq_iff_iff]; omega
def OgE (P : Program) (ops : List Oper) (Q : Exit → Act → World → Prop) (n : Nat) (l : List (Nat × Value)) (m : Nat) (W : World) (sp : List Sp) (i : Nat) (o : Oper) : Prop :=
 ∀ f w, Mo W w → (∀ j, depb o j = true → spDen W.heap.size (spAt sp j) (f j) w) → ∀ K : Act → World → Prop,
  (match spAt sp i with
   | .inl v => ∀ w', Mo w w' → K (fr n (ext (asg f 0 (ops.take m) l) o.dst v)) w'
   | .inr zs => ∀ k w', w.heap.size = k → w'.heap.size = k + 1 → Mo w w' → At w' k zs → K (fr n (ext (asg f 0 (ops.take m) l) o.dst (pt k 0))) w') →
  bif wnt n (asg f 0 (ops.take m) l) ops.toArray o then o.wp P (fr n (asg f 0 (ops.take m) l)) w K Q else K (fr n (ext (asg f 0 (ops.take m) l) o.dst undef)) w
def floatB (ops : List Oper) (m : Nat) (fs : List Nat) : Bool := fs.all fun i => Nat.blt i m && match ops[i]? with
 | some o => (List.range ops.length).all fun j => Nat.beq j i || (Nat.blt j m && !fs.contains j) || match ops[j]? with
  | some oj => depb oj i || o.apart ops.toArray oj
  | none => true
 | none => false
def LateO (P : Program) (ops : List Oper) (Q : Exit → Act → World → Prop) (n : Nat) (l : List (Nat × Value)) (m : Nat) (sp : List Sp) (i : Nat) : Prop :=
 ∃ o v, ops[i]? = some o ∧ spAt sp i = .inl v ∧ (∀ u c a w, Q (.panic c) (a.put o.dst u) w → Q (.panic c) a w) ∧
  ∀ f, (∀ j, depb o j = true → ∀ u, spAt sp j = .inl u → f j = u) → wnt n (asg f 0 (ops.take m) l) ops.toArray o = true ∧ ∀ w, (execOp (evl n (asg f 0 (ops.take m) l)) o).run P w = .ok (.value v) w
theorem r_draw {id : Nat} {W : World} (m : Nat) (sp : List Sp) (fs : List Nat) (hm : P.follows .mixedOrders = true)
    (hb : edgesBack .any ops.toArray = true) (hd : dstsApart (ops.take m) = true) (hc : chainB ops m fs = true) (hl : Nat.ble m ops.length = true) (hf : floatB ops m fs = true) (hns : Region.noSelect ops.toArray = true)
    (hlate : ∀ i, i ∈ fs → LateO P ops Q n l m sp i)
    (hD : Ds sp (slots (fr n l) (ops.take m).toArray) W)
    (hs : Each (OgE P ops Q n l m W sp) 0 (ops.take m))
    (hend : ∀ f w, Mo W w → (∀ i, Nat.blt i m = true → spDen W.heap.size (spAt sp i) (f i) w) → Ds sp f w → wpList P ops.toArray Q (ops.drop m) (fr n (asg f 0 (ops.take m) l)) w) :
    (Code.region id ops.toArray true).wp P Q (fr n l) W := by
  have hml : m ≤ ops.length := Nat.le_of_ble_eq_true hl
  have hfm : ∀ i, i ∈ fs → i < m := fun i hi => by
    have := List.all_eq_true.1 hf i hi
    simp only [Bool.and_eq_true] at this
    rw [Nat.blt_eq] at this; exact this.1
  have hfs : ∀ j, m ≤ j → fs.contains j = false := fun j hj => by
    cases e : fs.contains j with
    | false => rfl
    | true => have := hfm j (by simpa using e); omega
  refine wp_region_any hm ?_
  -- all that are not late have come up: the late ones first, then the last part
  have second : ∀ (d fuel : Nat) (listed : Array Bool) (f : Nat → Value) (w : World), listed.toList.count false = (ops.length - m) + d → (ops.length - m) + d ≤ fuel → listed.size = ops.length → Shut ops listed → (∀ j, m ≤ j → j < ops.length → listed.getD j true = false) →
      (∀ j, j < m → fs.contains j = false → listed.getD j true = true) → Mo W w → Ds sp f w → (∀ i, i < m → listed.getD i false = true → spDen W.heap.size (spAt sp i) (f i) w) → wpAny P .any ops.toArray Q fuel listed (putAll f 0 (ops.take m) (fr n l)) w := by
    intro d
    induction d with
    | zero =>
      intro fuel listed f w hcnt hfu hz hsh hun hall hW hDs hR
      have hall2 : ∀ j, j < m → listed.getD j true = true := fun j hj => by
        cases e : listed.getD j true with
        | true => rfl
        | false =>
          exfalso
          have h1 : (listed.toList.drop m).count false = ops.length - m := by
            have h2 : listed.toList.drop m = List.replicate (ops.length - m) false := by
              apply List.ext_getElem
              · simp [hz]
              · intro j h3 h4
                simp at h3
                have := hun (m + j) (by omega) (by omega)
                have h5 : m + j < listed.size := by omega
                simpa [h5] using this
            rw [h2]; simp
          have h3 := List.take_append_drop m listed.toList
          have h4 : 0 < (listed.toList.take m).count false := by
            apply List.count_pos_iff.2
            have hjs : j < listed.size := by omega
            simp [hjs] at e
            rw [List.mem_iff_getElem]
            exact ⟨j, by simp; omega, by simp [e]⟩
          rw [← h3, List.count_append] at hcnt
          omega
      refine wpAny_chain hfs hc hb (ops.length - m) m _ listed _ w (by omega) (Nat.le_refl _) (by omega) hz hsh (fun j hj => ?_) ?_
      · rcases Nat.lt_or_ge j m with h | h
        · rw [hall2 j h]; simp [h]
        · rw [hun j h hj]; simp [Nat.not_lt.2 h]
      · rw [putAll_fr]
        exact hend f w hW (fun i hi => by
          have hi' : i < m := by rw [Nat.blt_eq] at hi; exact hi
          refine hR i hi' ?_
          have h1 := hall2 i hi'
          have h2 : i < listed.size := by omega
          simpa [h2] using h1) hDs
    | succ d ih =>
      intro fuel listed f w hcnt hfu hz hsh hun hall hW hDs hR
      -- a late one that has not come up: the first
      have hex : ∃ i, i < m ∧ listed.getD i true = false := by
        apply Classical.byContradiction
        intro hno
        have hall2 : ∀ j, j < m → listed.getD j true = true := fun j hj => by
          cases e : listed.getD j true with
          | true => rfl
          | false => exact absurd ⟨j, hj, e⟩ hno
        have h3 := List.take_append_drop m listed.toList
        have h4 : (listed.toList.take m).count false = 0 := by
          rw [List.count_eq_zero]
          intro hmem
          rw [List.mem_iff_getElem] at hmem
          obtain ⟨j, hj, e⟩ := hmem
          simp at hj e
          have hj1 : j < m := by omega
          have hj2 : j < listed.size := by omega
          have := hall2 j hj1
          simp [hj2] at this
          rw [this] at e; cases e
        have h5 : (listed.toList.drop m).count false ≤ ops.length - m := by
          have := List.count_le_length (a := false) (l := listed.toList.drop m)
          simp [hz] at this; exact this
        rw [← h3, List.count_append] at hcnt
        omega
      obtain ⟨i, ⟨him, hiu⟩, hmin⟩ := exists_least0 hex
      have hif : i ∈ fs := by
        cases e : fs.contains i with
        | true => simpa using e
        | false => have := hall i him e; rw [hiu] at this; cases this
      obtain ⟨o, v, ho, hv, hQ, hy⟩ := hlate i hif
      have hdep : ∀ e ∈ o.after, Region.binds .any e = true → listed.getD e.on false = true := fun e he hbd => by
        have hlt := edgesBack_spec hb (i := i) (o := o) (by simpa using ho) e he hbd
        have h1 : listed.getD e.on true = true := by
          cases ee : listed.getD e.on true with
          | true => rfl
          | false => have := hmin e.on ⟨by omega, ee⟩; omega
        have h2 : e.on < listed.size := by omega
        simpa [h2] using h1
      have hval : ∀ j, depb o j = true → ∀ u, spAt sp j = .inl u → f j = u := fun j hj u hu => by
        obtain ⟨e, he, hb'⟩ := List.any_eq_true.1 hj
        simp only [Bool.and_eq_true] at hb'
        have heon := Nat.eq_of_beq_eq_true hb'.2
        have hj' := hdep e (by simpa using he) hb'.1
        have hlt := edgesBack_spec hb (i := i) (o := o) (by simpa using ho) e (by simpa using he) hb'.1
        rw [heon] at hj' hlt
        have := hR j (by omega) hj'
        rw [hu] at this
        exact this
      obtain ⟨hw1, hw2⟩ := hy f hval
      cases fuel with
      | zero => omega
      | succ fuel =>
        refine wpAny_first (i := i) (oi := o) (v := v) (by simpa using ho) (Region.noSelect_spec hns) (hQ v) fuel listed _ w ?_ ?_ ?_ ?_
        · intro j oj hoj hji hju hno
          have hjl : j < ops.length := by have := (Array.getElem?_eq_some_iff.1 hoj).1; simpa using this
          have h1 := List.all_eq_true.1 hf i hif
          simp only [Bool.and_eq_true, ho] at h1
          have h2 := List.all_eq_true.1 h1.2 j (List.mem_range.2 hjl)
          have hoj' : ops[j]? = some oj := by simpa using hoj
          simp only [hoj', Bool.or_eq_true, Bool.and_eq_true, Bool.not_eq_true'] at h2
          rcases h2 with (h2 | h2) | h2 | h2
          · exact absurd (Nat.eq_of_beq_eq_true h2) hji
          · have := hall j (by have := h2.1; rw [Nat.blt_eq] at this; exact this) h2.2
            rw [this] at hju; cases hju
          · obtain ⟨e, he, hb'⟩ := List.any_eq_true.1 h2
            simp only [Bool.and_eq_true] at hb'
            exact absurd (Nat.eq_of_beq_eq_true hb'.2) (hno e (by simpa using he) hb'.1)
          · exact h2
        · exact mem_ready.2 ⟨hiu, o, by simpa using ho, hdep⟩
        · rw [putAll_fr]
          exact Or.inl ⟨by rw [fr_wanted]; exact hw1, fun w => by rw [fr_eval]; exact hw2 w⟩
        · have hot : (ops.take m)[i]? = some o := by rw [List.getElem?_take_of_lt him]; exact ho
          have hp := putAll_put v (ops.take m) 0 f (fr n l) hd i o hot
          rw [Nat.zero_add] at hp
          rw [hp]
          have h1 : listed.toList[i]? = some false := by
            have h' : i < listed.size := by omega
            simp [h'] at hiu; simp [h', hiu]
          have hcs := count_set _ _ h1
          refine ih fuel _ (upd f i v) w ?_ (by omega) (by simpa using hz) (hsh.step ho hdep) (fun j h1 h2 => ?_) (fun j h1 h2 => ?_) hW (hDs.other (by rw [hv]; rfl) (Nat.le_refl _)) (fun j hj hlj => ?_)
          · simp only [Array.toList_setIfInBounds]; omega
          · rw [getD_set_ne true (by omega)]; exact hun j h1 h2
          · have hij : i ≠ j := by intro e; subst e; have : fs.contains i = true := by simpa using hif
                                   rw [this] at h2; cases h2
            rw [getD_set_ne true hij]; exact hall j h1 h2
          · by_cases e : j = i
            · subst e; rw [hv]; simp [upd, spDen]
            · rw [getD_set_ne false (Ne.symm e)] at hlj
              have := hR j hj hlj
              simpa [upd, e] using this
  have main : ∀ (fuel : Nat) (listed : Array Bool) (f : Nat → Value) (w : World), listed.toList.count false ≤ fuel → listed.size = ops.length → Shut ops listed → (∀ j, m ≤ j → j < ops.length → listed.getD j true = false) →
      Mo W w → Ds sp f w → (∀ i, i < m → listed.getD i false = true → spDen W.heap.size (spAt sp i) (f i) w) → wpAny P .any ops.toArray Q fuel listed (putAll f 0 (ops.take m) (fr n l)) w := by
    intro fuel
    induction fuel with
    | zero =>
      intro listed f w hcnt hz hsh hun hW hDs hR
      refine wpAny_chain hfs hc hb (ops.length - m) m 0 listed _ w (by omega) (Nat.le_refl _) ?_ hz hsh ?_ ?_
      · rcases Nat.lt_or_ge m ops.length with h | h
        · exfalso
          have h1 := hun m (Nat.le_refl _) h
          have h2 : m < listed.size := by omega
          have : false ∈ listed.toList := by simp [h2] at h1; rw [← h1]; simp
          have := List.count_pos_iff.2 this
          omega
        · omega
      · intro j hj
        have h2 : j < listed.size := by omega
        have h3 : listed.getD j true = true := by
          cases e : listed.getD j true with
          | true => rfl
          | false =>
            have : false ∈ listed.toList := by simp [h2] at e; rw [← e]; simp
            have := List.count_pos_iff.2 this
            omega
        rcases Nat.lt_or_ge j m with h | h
        · rw [h3]; simp [h]
        · rw [hun j h hj] at h3; cases h3
      · rw [putAll_fr]
        refine hend f w hW (fun i hi => hR i (by rw [Nat.blt_eq] at hi; exact hi) ?_) hDs
        have hi' : i < m := by rw [Nat.blt_eq] at hi; exact hi
        have h2 : i < listed.size := by omega
        cases e : listed.getD i false with
        | true => rfl
        | false =>
          have : false ∈ listed.toList := by simp [h2] at e; rw [← e]; simp
          have := List.count_pos_iff.2 this
          omega
    | succ fuel ih =>
      intro listed f w hcnt hz hsh hun hW hDs hR
      by_cases hall : ∀ j, j < m → fs.contains j = false → listed.getD j true = true
      · have hge : ops.length - m ≤ listed.toList.count false := by
          have h1 : (listed.toList.drop m).count false = ops.length - m := by
            have h2 : listed.toList.drop m = List.replicate (ops.length - m) false := by
              apply List.ext_getElem
              · simp [hz]
              · intro j h3 h4
                simp at h3
                have := hun (m + j) (by omega) (by omega)
                have h5 : m + j < listed.size := by omega
                simpa [h5] using this
            rw [h2]; simp
          have h3 := List.take_append_drop m listed.toList
          rw [← h3, List.count_append]
          omega
        exact second (listed.toList.count false - (ops.length - m)) _ listed f w (by omega) (by omega) hz hsh hun hall hW hDs hR
      · obtain ⟨u, hum, huf, hu⟩ : ∃ u, u < m ∧ fs.contains u = false ∧ listed.getD u true = false := by
          rcases Classical.not_forall.1 hall with ⟨u, h⟩
          rcases Classical.not_imp.1 h with ⟨h1, h2⟩
          rcases Classical.not_imp.1 h2 with ⟨h3, h4⟩
          exact ⟨u, h1, h3, by cases e : listed.getD u true with | true => exact absurd e h4 | false => rfl⟩
        have hne : Region.ready .any ops.toArray listed ≠ [] := fun hr => by
          have := all_listed hb hr u (by simp; omega)
          rw [hu] at this; cases this
        refine ⟨fun h0 => absurd h0 hne, fun i hi => ?_⟩
        obtain ⟨h0, o, ho, hdep⟩ := mem_ready.1 hi
        have hoi : ops[i]? = some o := by simpa using ho
        have hilt : i < ops.length := (List.getElem?_eq_some_iff.1 hoi).1
        have him : i < m := by
          rcases Nat.lt_or_ge i m with h | h
          · exact h
          · exfalso
            have h1 := chainB_spec hc hsh hoi h hdep u (by omega) huf
            have h2 : u < listed.size := by omega
            simp [h2] at h1 hu
            rw [h1] at hu; cases hu
        have hot : (ops.take m)[i]? = some o := by rw [List.getElem?_take_of_lt him]; exact hoi
        have hstep := Each.spec (ops.take m) 0 hs i o hot
        rw [Nat.zero_add] at hstep
        have hcount : ((listed.setIfInBounds i true).toList.count false) ≤ fuel := by
          have h1 : listed.toList[i]? = some false := by
            have h' : i < listed.size := by omega
            simp [h'] at h0; simp [h', h0]
          have := count_set _ _ h1
          simp only [Array.toList_setIfInBounds]
          omega
        have hun' : ∀ j, m ≤ j → j < ops.length → (listed.setIfInBounds i true).getD j true = false := fun j h1 h2 => by
          rw [getD_set_ne true (by omega)]; exact hun j h1 h2
        have next : ∀ v w', Mo w w' → Ds sp (upd f i v) w' → spDen W.heap.size (spAt sp i) v w' → wpAny P .any ops.toArray Q fuel (listed.setIfInBounds i true) (putAll (upd f i v) 0 (ops.take m) (fr n l)) w' := fun v w' hmo hds hden => by
          refine ih _ _ w' hcount (by simpa using hz) (hsh.step hoi hdep) hun' (hW.trans hmo) hds (fun j hj hlj => ?_)
          by_cases e : j = i
          · subst e; simpa [upd] using hden
          · rw [getD_set_ne false (Ne.symm e)] at hlj
            have := spMo hmo (hR j hj hlj)
            simpa [upd, e] using this
        have put : ∀ v, fr n (ext (asg f 0 (ops.take m) l) o.dst v) = putAll (upd f i v) 0 (ops.take m) (fr n l) := fun v => by
          have := putAll_put v (ops.take m) 0 f (fr n l) hd i o hot
          rw [Nat.zero_add] at this
          rw [← this, putAll_fr, fr_put]
        refine wpOp_step ho (fun K hK => ?_)
        rw [putAll_fr, fr_wanted]
        have hh := hstep f w hW (fun j hj => by
          obtain ⟨e, he, hb'⟩ := List.any_eq_true.1 hj
          simp only [Bool.and_eq_true] at hb'
          have heon := Nat.eq_of_beq_eq_true hb'.2
          have hj' := hdep e (by simpa using he) hb'.1
          have hlt := edgesBack_spec hb ho e (by simpa using he) hb'.1
          rw [heon] at hj' hlt
          exact hR j (by omega) hj') K
        have hh2 : (bif wnt n (asg f 0 (ops.take m) l) ops.toArray o then o.wp P (fr n (asg f 0 (ops.take m) l)) w K Q else K (fr n (ext (asg f 0 (ops.take m) l) o.dst undef)) w) := by
          refine hh ?_
          cases hsp : spAt sp i with
          | inl v =>
            intro w' hmo
            rw [put]
            exact hK _ _ (next v w' hmo (hDs.other (by rw [hsp]; rfl) hmo.size) (by rw [hsp]; rfl))
          | inr zs =>
            intro k w' hk hz' hmo hat
            rw [put]
            exact hK _ _ (next (pt k 0) w' hmo (hDs.fresh hk hz') (by rw [hsp]; exact ⟨k, rfl, by have := hW.size; omega, hat⟩))
        rw [fr_put]
        cases hw : wnt n (asg f 0 (ops.take m) l) ops.toArray o <;> simp only [hw, cond_true, cond_false] at hh2 ⊢ <;> exact hh2
  have h0 : putAll (slots (fr n l) (ops.take m).toArray) 0 (ops.take m) (fr n l) = fr n l := putAll_self _ _ 0 _ (fun i o ho t ht => by simp only [Nat.zero_add, slots]; rw [show (ops.take m).toArray[i]? = some o by simpa using ho]; simp [ht])
  have := main ops.length (Array.replicate ops.length false) (slots (fr n l) (ops.take m).toArray) W.drew (by simp) (by simp) (Shut.start _ _) (fun j _ hj => by simp [hj]) (Mo.refl _).drew ⟨fun j hj k hk => hD.1 j hj k hk, hD.2⟩ (fun i _ hi => by
    exfalso
    rcases Nat.lt_or_ge i ops.length with h' | h' <;> simp [h'] at hi)
  rw [h0] at this
  simpa using this
def spv (sp : List Sp) (kf : Nat → Nat) (i : Nat) : Value :=
 match spAt sp i with
 | .inl v => v
 | .inr _ => pt (kf i) 0
theorem asg_congr {f g : Nat → Value} : ∀ (r : List Oper) (i : Nat) (l : List (Nat × Value)), (∀ j, i ≤ j → j < i + r.length → f j = g j) → asg f i r l = asg g i r l
 | [], _, _, _ => rfl
 | o :: r, i, l, h => by
  unfold asg
  rw [h i (Nat.le_refl _) (by simp)]
  exact asg_congr r (i + 1) _ (fun j h1 h2 => h j (by omega) (by simp; omega))
theorem r_any {id : Nat} {W : World} (m : Nat) (sp : List Sp) (fs : List Nat) (hm : P.follows .mixedOrders = true)
  (hb : edgesBack .any ops.toArray = true) (hd : dstsApart (ops.take m) = true) (hc : chainB ops m fs = true) (hl : Nat.ble m ops.length = true) (hf : floatB ops m fs = true) (hns : Region.noSelect ops.toArray = true)
  (hlate : ∀ i, i ∈ fs → LateO P ops Q n l m sp i)
  (hD : Ds sp (slots (fr n l) (ops.take m).toArray) W)
  (hs : Each (OgE P ops Q n l m W sp) 0 (ops.take m))
  (hend : ∀ kf w, Mo W w → (∀ i zs, Nat.blt i m = true → spAt sp i = .inr zs → W.heap.size ≤ kf i ∧ At w (kf i) zs) → (∀ i j, Nat.blt i m = true → Nat.blt j m = true → spNew (spAt sp i) = true → spNew (spAt sp j) = true → i ≠ j → kf i ≠ kf j) →
   wpList P ops.toArray Q (ops.drop m) (fr n (asg (spv sp kf) 0 (ops.take m) l)) w) :
  (Code.region id ops.toArray true).wp P Q (fr n l) W := by
 refine r_draw m sp fs hm hb hd hc hl hf hns hlate hD hs (fun f w hmo hR hDs => ?_)
 have hk : ∃ kf : Nat → Nat, ∀ i zs, i < m → spAt sp i = .inr zs → f i = pt (kf i) 0 ∧ W.heap.size ≤ kf i ∧ At w (kf i) zs := by
  refine ⟨fun i => Classical.epsilon (fun k => f i = pt k 0), fun i zs hi hsp => ?_⟩
  have h1 := hR i (by rw [Nat.blt_eq]; exact hi)
  rw [hsp] at h1
  obtain ⟨k, e, h2, h3⟩ := h1
  have hex : ∃ k, f i = pt k 0 := ⟨k, e⟩
  have hc := Classical.epsilon_spec hex
  have : Classical.epsilon (fun k => f i = pt k 0) = k := pt_inj (hc.symm.trans e)
  simp only [this]
  exact ⟨e, h2, h3⟩
 obtain ⟨kf, hkf⟩ := hk
 have e : asg f 0 (ops.take m) l = asg (spv sp kf) 0 (ops.take m) l := asg_congr _ 0 l (fun j _ hj => by
  have hjm : j < m := by have := List.length_take_le m ops; omega
  unfold spv
  cases hsp : spAt sp j with
  | inl v =>
   have := hR j (by rw [Nat.blt_eq]; exact hjm)
   rw [hsp] at this
   exact this
  | inr zs => exact (hkf j zs hjm hsp).1)
 rw [e]
 refine hend kf w hmo (fun i zs hi hsp => (hkf i zs (by rw [Nat.blt_eq] at hi; exact hi) hsp).2) (fun i j hi hj hin hjn hne heq => ?_)
 have gi : ∃ zs, spAt sp i = .inr zs := by cases h : spAt sp i with | inl v => rw [h] at hin; cases hin | inr zs => exact ⟨zs, rfl⟩
 have gj : ∃ zs, spAt sp j = .inr zs := by cases h : spAt sp j with | inl v => rw [h] at hjn; cases hjn | inr zs => exact ⟨zs, rfl⟩
 obtain ⟨zi, gi⟩ := gi
 obtain ⟨zj, gj⟩ := gj
 have hi' : i < m := by rw [Nat.blt_eq] at hi; exact hi
 have hj' : j < m := by rw [Nat.blt_eq] at hj; exact hj
 have h1 := (hkf i zi hi' gi).1
 have h2 := (hkf j zj hj' gj).1
 rw [← heq] at h2
 exact hDs.2 i j hin hjn hne _ h1 h2
theorem Ds.none {sp : List Sp} {f : Nat → Value} {w : World} (h : sp.all (fun s => !spNew s) = true) : Ds sp f w := by
 have hh : ∀ j, spNew (spAt sp j) = true → False := fun j hj => by
  unfold spAt at hj
  cases e : sp[j]? with
  | none => rw [e] at hj; cases hj
  | some s =>
   rw [e] at hj
   have := List.all_eq_true.1 h s (List.mem_of_getElem? e)
   simp at this
   simp [this] at hj
 exact ⟨fun j hj => (hh j hj).elim, fun i j hi => (hh i hi).elim⟩
theorem Ds.undef {sp : List Sp} {f : Nat → Value} {w : World} (h : ∀ j, j < sp.length → spNew (spAt sp j) = true → f j = undef) : Ds sp f w := by
 have hh : ∀ j, spNew (spAt sp j) = true → ∀ k, f j ≠ pt k 0 := fun j hj k e => by
  rcases Nat.lt_or_ge j sp.length with hl | hl
  ·rw [h j hl hj] at e; cases e
  ·unfold spAt at hj; rw [List.getElem?_eq_none hl] at hj; cases hj
 exact ⟨fun j hj k hk => (hh j hj k hk).elim, fun i j hi _ _ k hk => (hh i hi k hk).elim⟩
theorem ct {b : Bool} {A B : Prop} (h : b = true) (a : A) : (bif b then A else B) := by subst h; exact a
theorem cf {b : Bool} {A B : Prop} (h : b = false) (a : B) : (bif b then A else B) := by subst h; exact a
theorem n_then {Q : Exit → Act → World → Prop} {next : Act → World → Prop} {a : Act} {w : World} (h : next a w) : Exit.then next Q .normal a w := h
theorem n_blk {Q : Exit → Act → World → Prop} {id : Nat} {a : Act} {w : World} (h : Q .normal a w) : Exit.inBlock id Q .normal a w := h
theorem x_then {Q : Exit → Act → World → Prop} {next : Act → World → Prop} {id : Nat} {a : Act} {w : World} (h : Q (.exit id) a w) : Exit.then next Q (.exit id) a w := h
theorem x_blk {Q : Exit → Act → World → Prop} {id : Nat} {a : Act} {w : World} (h : Q .normal a w) : Exit.inBlock id Q (.exit id) a w := by simp only [Exit.inBlock, if_true]; exact h
theorem r_then {Q : Exit → Act → World → Prop} {next : Act → World → Prop} {a : Act} {w : World} (h : Q .ret a w) : Exit.then next Q .ret a w := h
theorem r_blk {Q : Exit → Act → World → Prop} {id : Nat} {a : Act} {w : World} (h : Q .ret a w) : Exit.inBlock id Q .ret a w := h
variable {o : Oper} {w : World} {K : Act → World → Prop}
theorem o_mv (x : Operand) (p : Value) (ho : ∀ ρ, execOp ρ o = pure (.value (ρ x))) (hx : evl n l x = p) (hk : K (fr n (ext l o.dst p)) w) : o.wp P (fr n l) w K Q := by
 refine o_val p ?_ hk
 rw [ho, hx]; rfl
theorem o_un (F : Value → Sem Value) (x : Operand) (p v : Value) (ho : ∀ ρ, execOp ρ o = (do pure (.value (← F (ρ x))))) (hx : evl n l x = p) (h : (F p).run P w = .ok v w) (hk : K (fr n (ext l o.dst v)) w) : o.wp P (fr n l) w K Q := by
 refine o_val v ?_ hk
 rw [ho, hx]; simp [h]
theorem o_bin (F : Value → Value → Sem Value) (x y : Operand) (p q v : Value) (ho : ∀ ρ, execOp ρ o = (do pure (.value (← F (ρ x) (ρ y))))) (hx : evl n l x = p) (hy : evl n l y = q) (h : (F p q).run P w = .ok v w) (hk : K (fr n (ext l o.dst v)) w) : o.wp P (fr n l) w K Q := by
 refine o_val v ?_ hk
 rw [ho, hx, hy]; simp [h]
theorem o_build (t : TypeId) (xs : List (Nat × Operand)) (ps : List (Nat × Value)) (v : Value) (ho : o.op = .build t xs.toArray) (hx : xs.map (fun p => (p.1, evl n l p.2)) = ps) (h : (Instr.build t ps.toArray).run P w = .ok v w) (hk : K (fr n (ext l o.dst v)) w) : o.wp P (fr n l) w K Q := by
 refine o_val v ?_ hk
 subst hx
 simp only [execOp, ho, List.map_toArray]
 simp [h]
theorem o_pick (c x y : Operand) (t : Bool) (v : Value) (ho : ∀ ρ, execOp ρ o = (do pure (.value (if ← asBool (ρ c) then ρ x else ρ y)))) (hc : evl n l c = .bool t) (hv : evl n l (bif t then x else y) = v) (hk : K (fr n (ext l o.dst v)) w) : o.wp P (fr n l) w K Q := by
 refine o_val v ?_ hk
 rw [ho, hc]
 cases t <;> simp at hv <;> simp [asBool, hv]
theorem lp2 {i j : Nat} {a b c d : Value} (h : a = b) (k : c = d) : [(i, a), (j, c)] = [(i, b), (j, d)] := by rw [h, k]
end
end Go.Proofs.Ythfemlhmnjfjiaa

/-
 The laws of the steps over propositions that nothing unfolds by itself.
-/
namespace Go.Proofs.Ythfemlhmnjfjiaa
open Go.RowKit
theorem exists_least {p : Nat → Prop} (h : ∃ m, p m) : ∃ m, p m ∧ ∀ k, p k → m ≤ k := by
 obtain ⟨m, hm⟩ := h
 induction m using Nat.strongRecOn with
 | ind m ih =>
  by_cases hh : ∃ k, k < m ∧ p k
  ·obtain ⟨k, hk, hp⟩ := hh; exact ih k hk hp
  ·exact ⟨m, hm, fun k hp => Nat.le_of_not_lt (fun hk => hh ⟨k, hk, hp⟩)⟩
def least (p : Nat → Prop) (m : Nat) : Prop := p m ∧ ∀ k, p k → m ≤ k
theorem least_ok {p : Nat → Prop} (h : ∃ m, p m) : least p (Classical.epsilon (least p)) := Classical.epsilon_spec (exists_least h)
structure WC (P : Program) (c : Code) (Q : Exit → Act → World → Prop) (n : Nat) (l : List (Nat × Value)) (w : World) : Prop where
 out : c.wp P Q (fr n l) w
structure WL (P : Program) (ops : Array Oper) (Q : Exit → Act → World → Prop) (r : List Oper) (n : Nat) (l : List (Nat × Value)) (w : World) : Prop where
 out : wpList P ops Q r (fr n l) w
structure WX (Q : Exit → Act → World → Prop) (e : Exit) (n : Nat) (l : List (Nat × Value)) (w : World) : Prop where
 out : Q e (fr n l) w
structure WO (P : Program) (o : Oper) (n : Nat) (l : List (Nat × Value)) (w : World) (K : Act → World → Prop) (Q : Exit → Act → World → Prop) : Prop where
 out : o.wp P (fr n l) w K Q
section
variable {P : Program} {o : Oper} {n : Nat} {l : List (Nat × Value)} {w : World} {ops : Array Oper} {rest : List Oper} {Q : Exit → Act → World → Prop} {K : Act → World → Prop}
theorem w_enter {f : FuncId} {fn : Func} {c : Code} {args : Array Value} {R : Ending → World → Prop} (n : Nat) (hf : P.funcs[f]? = some fn) (hn : fn.ntmps = n) (hb : fn.body = some c)
  (ha : Nat.ble args.size n = true) (h : WC P c (bodyPost P fn R) n (argl 0 args.toList) w) : Calls P f args w R := f_enter n hf hn hb ha h.out
theorem w_seq {x y : Code} (h : WC P x (Exit.then (y.wp P Q) Q) n l w) : WC P (Code.seq x y) Q n l w := ⟨wp_seq h.out⟩
theorem w_block {id : Nat} {c : Code} (h : WC P c (Exit.inBlock id Q) n l w) : WC P (Code.block id c) Q n l w := ⟨wp_block h.out⟩
theorem w_skip (h : WX Q .normal n l w) : WC P .skip Q n l w := ⟨wp_skip h.out⟩
theorem w_ret (h : WX Q .ret n l w) : WC P .ret Q n l w := ⟨wp_ret h.out⟩
theorem w_exit {id : Nat} (h : WX Q (.exit id) n l w) : WC P (.exit id) Q n l w := ⟨wp_exit h.out⟩
theorem w_condT {c : Operand} {x y : Code} (hc : evl n l c = .bool true) (h : WC P x Q n l w) : WC P (Code.cond c x y) Q n l w := ⟨c_cond true hc h.out⟩
theorem w_condF {c : Operand} {x y : Code} (hc : evl n l c = .bool false) (h : WC P y Q n l w) : WC P (Code.cond c x y) Q n l w := ⟨c_cond false hc h.out⟩
theorem w_reg {id : Nat} {ol : List Oper} (h : WL P ol.toArray Q ol n l w) : WC P (Code.region id ol.toArray false) Q n l w := ⟨wp_region_lit h.out⟩
theorem w_nil (h : WX Q .normal n l w) : WL P ops Q [] n l w := ⟨wpList_nil h.out⟩
theorem xn_then {y : Code} {Q' : Exit → Act → World → Prop} (h : WC P y Q n l w) : WX (Exit.then (y.wp P Q) Q') .normal n l w := ⟨n_then h.out⟩
theorem xn_blk {id : Nat} (h : WX Q .normal n l w) : WX (Exit.inBlock id Q) .normal n l w := ⟨n_blk h.out⟩
theorem xx_then {next : Act → World → Prop} {id : Nat} (h : WX Q (.exit id) n l w) : WX (Exit.then next Q) (.exit id) n l w := ⟨x_then h.out⟩
theorem xx_blk {id : Nat} (h : WX Q .normal n l w) : WX (Exit.inBlock id Q) (.exit id) n l w := ⟨x_blk h.out⟩
theorem xr_then {next : Act → World → Prop} (h : WX Q .ret n l w) : WX (Exit.then next Q) .ret n l w := ⟨r_then h.out⟩
theorem xr_blk {id : Nat} (h : WX Q .ret n l w) : WX (Exit.inBlock id Q) .ret n l w := ⟨r_blk h.out⟩
theorem w_ret1 {fn : Func} {R : Ending → World → Prop} (x : ResultVar) (v : Value) (hf : fn.results = #[x]) (h : resv n l P w v x) (hR : R (.returned v) w) : WX (bodyPost P fn R) .ret n l w := ⟨c_ret1 x v hf h hR⟩
theorem w_ret2 {fn : Func} {R : Ending → World → Prop} (x y : ResultVar) (v u : Value) (hf : fn.results = #[x, y]) (h : resv n l P w v x) (g : resv n l P w u y) (hR : R (.returned (.tuple #[v, u])) w) : WX (bodyPost P fn R) .ret n l w := ⟨c_ret2 x y v u hf h g hR⟩
theorem w_loop {c : Code} (I : Nat → List (Nat × Value) → World → Prop) (m : Nat) (h0 : I m l w)
  (round : ∀ m l w, I m l w → WC P c (Exit.then (fun a w' => ∃ m' l', m' < m ∧ a = fr n l' ∧ I m' l' w') Q) n l w) : WC P (Code.loop c) Q n l w := by
 refine ⟨?_⟩
 have key : ∀ m : Nat, ∀ l w, I m l w → (Code.loop c).wp P Q (fr n l) w := by
  intro m0 l0 w0 hI0
  refine wp_loop (fun a w => ∃ m l, a = fr n l ∧ I m l w) (fun a w => Classical.epsilon (least (fun m => ∃ l, a = fr n l ∧ I m l w))) ⟨m0, l0, rfl, hI0⟩ ?_
  rintro a w ⟨m, l, rfl, hI⟩
  obtain ⟨l2, e2, hI2⟩ := (least_ok (p := fun m => ∃ l', fr n l = fr n l' ∧ I m l' w) ⟨m, l, rfl, hI⟩).1
  rw [e2]
  refine Code.wp_mono ?_ (round _ l2 w hI2).out
  intro e a' w' hq
  cases e with
  | normal =>
   obtain ⟨m', l', hlt, rfl, hI'⟩ := hq
   refine ⟨⟨m', l', rfl, hI'⟩, Nat.lt_of_le_of_lt ((least_ok (p := fun m => ∃ l'', fr n l' = fr n l'' ∧ I m l'' w') ⟨m', l', rfl, hI'⟩).2 m' ⟨l', rfl, hI'⟩) ?_⟩
   rw [← e2]; exact hlt
  | _ => exact hq
 exact key m l w h0
theorem xn_loop {I : Nat → List (Nat × Value) → World → Prop} {m : Nat} (m' : Nat) (hlt : m' < m) (h : I m' l w) : WX (Exit.then (fun a w' => ∃ m' l', m' < m ∧ a = fr n l' ∧ I m' l' w') Q) .normal n l w := ⟨⟨m', l, hlt, rfl, h⟩⟩
theorem wl_val (v : Value) (h : (execOp (evl n l) o).run P w = .ok (.value v) w) (hg : wnt n l ops o = true) (hk : WL P ops Q rest n (ext l o.dst v) w) : WL P ops Q (o :: rest) n l w :=
 ⟨l_step hg (o_val v h hk.out)⟩
theorem wo_val (v : Value) (h : (execOp (evl n l) o).run P w = .ok (.value v) w) (hk : K (fr n (ext l o.dst v)) w) : WO P o n l w K Q := ⟨o_val v h hk⟩
theorem wl_mv (x : Operand) (p : Value) (ho : ∀ ρ, execOp ρ o = pure (.value (ρ x))) (hx : evl n l x = p) (hg : wnt n l ops o = true) (hk : WL P ops Q rest n (ext l o.dst p) w) : WL P ops Q (o :: rest) n l w :=
 ⟨l_step hg (o_mv x p ho hx hk.out)⟩
theorem wo_mv (x : Operand) (p : Value) (ho : ∀ ρ, execOp ρ o = pure (.value (ρ x))) (hx : evl n l x = p) (hk : K (fr n (ext l o.dst p)) w) : WO P o n l w K Q := ⟨o_mv x p ho hx hk⟩
theorem wl_un (F : Value → Sem Value) (x : Operand) (p v : Value) (ho : ∀ ρ, execOp ρ o = (do pure (.value (← F (ρ x))))) (hx : evl n l x = p) (h : (F p).run P w = .ok v w) (hg : wnt n l ops o = true) (hk : WL P ops Q rest n (ext l o.dst v) w) : WL P ops Q (o :: rest) n l w :=
 ⟨l_step hg (o_un F x p v ho hx h hk.out)⟩
theorem wo_un (F : Value → Sem Value) (x : Operand) (p v : Value) (ho : ∀ ρ, execOp ρ o = (do pure (.value (← F (ρ x))))) (hx : evl n l x = p) (h : (F p).run P w = .ok v w) (hk : K (fr n (ext l o.dst v)) w) : WO P o n l w K Q := ⟨o_un F x p v ho hx h hk⟩
theorem wl_bin (F : Value → Value → Sem Value) (x y : Operand) (p q v : Value) (ho : ∀ ρ, execOp ρ o = (do pure (.value (← F (ρ x) (ρ y))))) (hx : evl n l x = p) (hy : evl n l y = q) (h : (F p q).run P w = .ok v w) (hg : wnt n l ops o = true) (hk : WL P ops Q rest n (ext l o.dst v) w) : WL P ops Q (o :: rest) n l w :=
 ⟨l_step hg (o_bin F x y p q v ho hx hy h hk.out)⟩
theorem wo_bin (F : Value → Value → Sem Value) (x y : Operand) (p q v : Value) (ho : ∀ ρ, execOp ρ o = (do pure (.value (← F (ρ x) (ρ y))))) (hx : evl n l x = p) (hy : evl n l y = q) (h : (F p q).run P w = .ok v w) (hk : K (fr n (ext l o.dst v)) w) : WO P o n l w K Q := ⟨o_bin F x y p q v ho hx hy h hk⟩
theorem wl_pick (c x y : Operand) (t : Bool) (v : Value) (ho : ∀ ρ, execOp ρ o = (do pure (.value (if ← asBool (ρ c) then ρ x else ρ y)))) (hc : evl n l c = .bool t) (hv : evl n l (bif t then x else y) = v) (hg : wnt n l ops o = true) (hk : WL P ops Q rest n (ext l o.dst v) w) : WL P ops Q (o :: rest) n l w :=
 ⟨l_step hg (o_pick c x y t v ho hc hv hk.out)⟩
theorem wl_build (t : TypeId) (xs : List (Nat × Operand)) (ps : List (Nat × Value)) (v : Value) (ho : o.op = .build t xs.toArray) (hx : xs.map (fun p => (p.1, evl n l p.2)) = ps) (h : (Instr.build t ps.toArray).run P w = .ok v w) (hg : wnt n l ops o = true) (hk : WL P ops Q rest n (ext l o.dst v) w) : WL P ops Q (o :: rest) n l w :=
 ⟨l_step hg (o_build t xs ps v ho hx h hk.out)⟩
theorem wo_build (t : TypeId) (xs : List (Nat × Operand)) (ps : List (Nat × Value)) (v : Value) (ho : o.op = .build t xs.toArray) (hx : xs.map (fun p => (p.1, evl n l p.2)) = ps) (h : (Instr.build t ps.toArray).run P w = .ok v w) (hk : K (fr n (ext l o.dst v)) w) : WO P o n l w K Q := ⟨o_build t xs ps v ho hx h hk⟩
theorem wl_load (ty : TypeId) (x : Operand) (p v : Value) (ho : o.op = .load ty x) (hx : evl n l x = p) (h : (Instr.loadAt ty p).run P w = .ok v w) (hg : wnt n l ops o = true) (hk : WL P ops Q rest n (ext l o.dst v) w) : WL P ops Q (o :: rest) n l w :=
 ⟨l_step hg (o_load ty x p v ho hx h hk.out)⟩
theorem wo_load (ty : TypeId) (x : Operand) (p v : Value) (ho : o.op = .load ty x) (hx : evl n l x = p) (h : (Instr.loadAt ty p).run P w = .ok v w) (hk : K (fr n (ext l o.dst v)) w) : WO P o n l w K Q := ⟨o_load ty x p v ho hx h hk⟩
theorem wl_m (x : Operand) (p : Value) (hk : WL P ops Q rest n (ext l o.dst p) w) (ho : ∀ ρ, execOp ρ o = pure (.value (ρ x)) := by exact fun _ => rfl) (hx : evl n l x = p := by rfl) (hg : wnt n l ops o = true := by rfl) : WL P ops Q (o :: rest) n l w := wl_mv x p ho hx hg hk
theorem wl_b (b : BinOp) (t : TypeId) (x y : Operand) (p q v : Value) (h : (do eqGuard b t x y p q; binOp b t p q).run P w = .ok v w) (hk : WL P ops Q rest n (ext l o.dst v) w) (ho : ∀ ρ, execOp ρ o = (do pure (.value (← (do eqGuard b t x y (ρ x) (ρ y); binOp b t (ρ x) (ρ y))))) := by exact fun _ => rfl) (hx : evl n l x = p := by rfl) (hy : evl n l y = q := by rfl) (hg : wnt n l ops o = true := by rfl) : WL P ops Q (o :: rest) n l w := wl_bin (fun u z => do eqGuard b t x y u z; binOp b t u z) x y p q v ho hx hy h hg hk
theorem wl_f (t : TypeId) (i : Nat) (x : Operand) (p v : Value) (hk : WL P ops Q rest n (ext l o.dst v) w) (h : (Instr.fieldAt t p i).run P w = .ok v w := by kernel_rfl) (ho : ∀ ρ, execOp ρ o = (do pure (.value (← Instr.fieldAt t (ρ x) i))) := by exact fun _ => rfl) (hx : evl n l x = p := by rfl) (hg : wnt n l ops o = true := by rfl) : WL P ops Q (o :: rest) n l w := wl_un (fun v => Instr.fieldAt t v i) x p v ho hx h hg hk
theorem wl_l (t : TypeId) (x : Operand) (p v : Value) (h : (Instr.loadAt t p).run P w = .ok v w) (hk : WL P ops Q rest n (ext l o.dst v) w) (ho : o.op = .load t x := by rfl) (hx : evl n l x = p := by rfl) (hg : wnt n l ops o = true := by rfl) : WL P ops Q (o :: rest) n l w := wl_load t x p v ho hx h hg hk
theorem wl_alloc (ty : TypeId) (zs : Array Value) (ho : o.op = .alloc ty) (h : ∀ w, (Instr.alloc ty true (.tuple #[])).run P w = .ok (pt w.heap.size 0) (w.alloc (.cells zs ty))) (hg : wnt n l ops o = true) (hk : ∀ k w', w.heap.size = k → w'.heap.size = k + 1 → Mo w w' → At w' k zs.toList → WL P ops Q rest n (ext l o.dst (pt k 0)) w') : WL P ops Q (o :: rest) n l w :=
 ⟨l_step hg (o_alloc ty zs ho h (fun k w' a b c d => (hk k w' a b c d).out))⟩
theorem wl_box (ty : TypeId) (x : Operand) (v : Value) (cs : Array Value) (ho : o.op = .box ty x) (hx : evl n l x = v) (h : ∀ w, (Instr.box ty v).run P w = .ok (pt w.heap.size 0) (w.alloc (.cells cs ty))) (hg : wnt n l ops o = true) (hk : ∀ k w', w.heap.size = k → w'.heap.size = k + 1 → Mo w w' → At w' k cs.toList → WL P ops Q rest n (ext l o.dst (pt k 0)) w') : WL P ops Q (o :: rest) n l w :=
 ⟨l_step hg (o_box ty x v cs ho hx h (fun k w' a b c d => (hk k w' a b c d).out))⟩
theorem wl_call (g : FuncId) (xs : List Operand) (ats : Array TypeId) (args : List Value) (v : Value) (ho : o.op = .call { callee := .value (.func g), args := xs.toArray, argTypes := ats }) (hx : xs.map (evl n l) = args) (h : ∀ args w, (callFunc g args).run P w = .ok (.enter g args) w) (hc : Calls P g args.toArray w fun e w' => e = .returned v ∧ Mo w w') (hg : wnt n l ops o = true) (hk : ∀ w', Mo w w' → WL P ops Q rest n (ext l o.dst v) w') : WL P ops Q (o :: rest) n l w :=
 ⟨l_step hg (o_call g xs ats args v ho hx h hc (fun w' m => (hk w' m).out))⟩
theorem wo_call (g : FuncId) (xs : List Operand) (ats : Array TypeId) (args : List Value) (v : Value) (ho : o.op = .call { callee := .value (.func g), args := xs.toArray, argTypes := ats }) (hx : xs.map (evl n l) = args) (h : ∀ args w, (callFunc g args).run P w = .ok (.enter g args) w) (hc : Calls P g args.toArray w fun e w' => e = .returned v ∧ Mo w w') (hk : ∀ w', Mo w w' → K (fr n (ext l o.dst v)) w') : WO P o n l w K Q := ⟨o_call g xs ats args v ho hx h hc (fun w' m => (hk w' m))⟩
theorem wl_skip (hg : wnt n l ops o = false) (h : WL P ops Q rest n (ext l o.dst undef) w) : WL P ops Q (o :: rest) n l w := ⟨l_skip hg h.out⟩
theorem wl_st (ty : TypeId) (x y : Operand) (k off : Nat) (us : Array Value) (vs vs' : List Value) (hA : At w k vs) (ho : o.op = .store ty x y) (hd : o.dst = none) (hx : evl n l x = pt k off) (hy : evl n l y = .agg us)
  (hl : Nat.ble (off + us.size) vs.length = true) (hi : (P.info? ty).map (·.size) = some us.size) (h1 : us.toList.all (·.oneCell') = true) (hvs : vs' = vs.take off ++ us.toList ++ vs.drop (off + us.toList.length)) (hg : wnt n l ops o = true)
  (hk : ∀ w', St k w w' → At w' k vs' → WL P ops Q rest n l w') : WL P ops Q (o :: rest) n l w :=
 ⟨l_step hg (o_st ty x y k off us vs vs' hA ho hd hx hy hl hi h1 hvs (fun w' a b => (hk w' a b).out))⟩
theorem wl_st1 (ty : TypeId) (x y : Operand) (k off : Nat) (v : Value) (vs vs' : List Value) (hA : At w k vs) (ho : o.op = .store ty x y) (hd : o.dst = none) (hx : evl n l x = pt k off) (hy : evl n l y = v)
  (hl : Nat.blt off vs.length = true) (hi : (P.info? ty).map (·.size) = some 1) (hv : v.cells = #[v]) (h1 : v.oneCell' = true) (hvs : vs' = vs.take off ++ [v] ++ vs.drop (off + 1)) (hg : wnt n l ops o = true)
  (hk : ∀ w', St k w w' → At w' k vs' → WL P ops Q rest n l w') : WL P ops Q (o :: rest) n l w :=
 ⟨l_step hg (o_st1 ty x y k off v vs vs' hA ho hd hx hy hl hi hv h1 hvs (fun w' a b => (hk w' a b).out))⟩
structure Go1 (P : Program) (ops : List Oper) (Q : Exit → Act → World → Prop) (n : Nat) (l : List (Nat × Value)) (w : World) (K : Act → World → Prop) (o : Oper) : Prop where
 out : (wnt n l ops.toArray o = true ∧ WO P o n l w K Q) ∨ (wnt n l ops.toArray o = false ∧ K (fr n (ext l o.dst undef)) w)
theorem go_run {ol : List Oper} (hg : wnt n l ol.toArray o = true) (h : WO P o n l w K Q) : Go1 P ol Q n l w K o := ⟨Or.inl ⟨hg, h⟩⟩
structure OgW (P : Program) (ops : List Oper) (Q : Exit → Act → World → Prop) (n : Nat) (l : List (Nat × Value)) (m : Nat) (W : World) (sp : List Sp) (i : Nat) (o : Oper) : Prop where
 out : ∀ f w, Mo W w → (∀ j, depb o j = true → spDen W.heap.size (spAt sp j) (f j) w) → ∀ K : Act → World → Prop,
  (match spAt sp i with
   | .inl v => ∀ w', Mo w w' → K (fr n (ext (asg f 0 (ops.take m) l) o.dst v)) w'
   | .inr zs => ∀ k w', w.heap.size = k → w'.heap.size = k + 1 → Mo w w' → At w' k zs → K (fr n (ext (asg f 0 (ops.take m) l) o.dst (pt k 0))) w') →
  Go1 P ops Q n (asg f 0 (ops.take m) l) w K o
theorem og_eq {ol : List Oper} {m : Nat} {W : World} {sp : List Sp} {i : Nat} (v : Value) (hs : spAt sp i = .inl v)
  (h : ∀ f w, Mo W w → (∀ j, depb o j = true → spDen W.heap.size (spAt sp j) (f j) w) → ∀ K : Act → World → Prop, (∀ w', Mo w w' → K (fr n (ext (asg f 0 (ol.take m) l) o.dst v)) w') → Go1 P ol Q n (asg f 0 (ol.take m) l) w K o) : OgW P ol Q n l m W sp i o :=
 ⟨fun f w hm hd K hK => h f w hm hd K (by rw [hs] at hK; exact hK)⟩
theorem ea_nil {F : Nat → Oper → Prop} {i : Nat} : Each F i [] := trivial
theorem ea_cons {F : Nat → Oper → Prop} {i : Nat} {o : Oper} {r : List Oper} (h : F i o) (k : Each F (i + 1) r) : Each F i (o :: r) := ⟨h, k⟩
def slo (n : Nat) (l : List (Nat × Value)) (ops : List Oper) (i : Nat) : Value :=
 match (ops[i]?).bind (·.dst) with
 | some d => bif Nat.blt d n then look l d else undef
 | none => undef
theorem slo_eq (ops : List Oper) : slots (fr n l) ops.toArray = slo n l ops := by
 funext i
 unfold slots slo
 simp only [List.getElem?_toArray]
 cases (ops[i]?).bind (·.dst) with
 | none => rfl
 | some d => exact fr_getD n l d
def isPt : Value → Bool
 | .pointer (some _) => true
 | _ => false
theorem Ds.start {sp : List Sp} {f : Nat → Value} (h : (List.range sp.length).all (fun j => !spNew (spAt sp j) || !isPt (f j)) = true) : Ds sp f w := by
 have hh : ∀ j, spNew (spAt sp j) = true → ∀ k, f j ≠ pt k 0 := fun j hj k e => by
  rcases Nat.lt_or_ge j sp.length with hl | hl
  ·have := List.all_eq_true.1 h j (List.mem_range.2 hl)
   simp [hj, e, isPt] at this
  ·unfold spAt at hj; rw [List.getElem?_eq_none hl] at hj; cases hj
 exact ⟨fun j hj k hk => (hh j hj k hk).elim, fun i j hi _ _ k hk => (hh i hi k hk).elim⟩
theorem la_mv (x : Operand) (p : Value) (ho : ∀ ρ, execOp ρ o = pure (.value (ρ x))) (hx : evl n l x = p) : ∀ w, (execOp (evl n l) o).run P w = .ok (.value p) w := fun w => by rw [ho, hx]; rfl
theorem la_un (F : Value → Sem Value) (x : Operand) (p v : Value) (ho : ∀ ρ, execOp ρ o = (do pure (.value (← F (ρ x))))) (hx : evl n l x = p) (h : ∀ w, (F p).run P w = .ok v w) : ∀ w, (execOp (evl n l) o).run P w = .ok (.value v) w := fun w => by
 rw [ho, hx]; simp [h]
theorem late_nil {ol : List Oper} {m : Nat} {sp : List Sp} : ∀ i, i ∈ ([] : List Nat) → LateO P ol Q n l m sp i := fun i h => absurd h (by simp)
theorem late_cons {ol : List Oper} {m : Nat} {sp : List Sp} {j : Nat} {r : List Nat} (h : LateO P ol Q n l m sp j) (k : ∀ i, i ∈ r → LateO P ol Q n l m sp i) : ∀ i, i ∈ j :: r → LateO P ol Q n l m sp i := fun i hi => by
 rcases List.mem_cons.1 hi with rfl | hi
 ·exact h
 ·exact k i hi
theorem w_any {id : Nat} {ol : List Oper} (m : Nat) (sp : List Sp) (fs : List Nat) (hm : P.follows .mixedOrders = true)
  (hb : edgesBack .any ol.toArray = true) (hd : dstsApart (ol.take m) = true) (hc : chainB ol m fs = true) (hl : Nat.ble m ol.length = true) (hf : floatB ol m fs = true) (hns : Region.noSelect ol.toArray = true)
  (hlate : ∀ i, i ∈ fs → LateO P ol Q n l m sp i)
  (hD : Ds sp (slo n l (ol.take m)) w)
  (hs : Each (OgW P ol Q n l m w sp) 0 (ol.take m))
  (hend : ∀ kf w', Mo w w' → (∀ i zs, Nat.blt i m = true → spAt sp i = .inr zs → w.heap.size ≤ kf i ∧ At w' (kf i) zs) → (∀ i j, Nat.blt i m = true → Nat.blt j m = true → spNew (spAt sp i) = true → spNew (spAt sp j) = true → i ≠ j → kf i ≠ kf j) →
   WL P ol.toArray Q (ol.drop m) n (asg (spv sp kf) 0 (ol.take m) l) w') : WC P (Code.region id ol.toArray true) Q n l w := by
 refine ⟨r_any m sp fs hm hb hd hc hl hf hns hlate (by rw [slo_eq]; exact hD) (Each.mono ?_ _ 0 hs) (fun kf w' a b c => (hend kf w' a b c).out)⟩
 intro i o h f w' hmo hdep K hK
 rcases (h.out f w' hmo hdep K hK).out with ⟨hg, h⟩ | ⟨hg, h⟩
 ·exact ct hg h.out
 ·exact cf hg h
end
end Go.Proofs.Ythfemlhmnjfjiaa

/-
 Decimals as the program holds them, and the smallest functions of package decimal: the walks.
-/
namespace Go.Proofs.Ythfemlhmnjfjiaa
open Go.RowKit
abbrev dc (b : Bool) (n s : Int) : Value := .agg #[.bool b, .int .u64 (l0 n), .int .u64 (l1 n), .int .u64 (l2 n), .int .u64 (l3 n), .int .i64 s]
abbrev dw (X : Int) : Value := .agg #[.int .u64 (l0 (X / MM)), .int .u64 (l1 (X / MM)), .int .u64 (l2 (X / MM)), .int .u64 (l3 (X / MM)), .int .u64 (l0 X), .int .u64 (l1 X), .int .u64 (l2 X), .int .u64 (l3 X)]
def AtD (w : World) (k : Nat) (b : Bool) (n s : Int) : Prop := (w.cell? ⟨k, 0, none⟩ = some (.bool b) ∧ w.cell? ⟨k, 1, none⟩ = some (.int .u64 (l0 n)) ∧ w.cell? ⟨k, 2, none⟩ = some (.int .u64 (l1 n)) ∧ w.cell? ⟨k, 3, none⟩ = some (.int .u64 (l2 n)) ∧ w.cell? ⟨k, 4, none⟩ = some (.int .u64 (l3 n)) ∧ w.cell? ⟨k, 5, none⟩ = some (.int .i64 s)) ∧ Fz w k ∧ k < w.heap.size
theorem AtD.mo {w w' : World} {k : Nat} {b : Bool} {n s : Int} (h : AtD w k b n s) (m : Mo w w') : AtD w' k b n s := by
 obtain ⟨c, f, z⟩ := h
 refine ⟨?_, f.mo m, Nat.lt_of_lt_of_le z m.size⟩
 simp only [m.cell k _ z]; exact c
def AtW (w : World) (k : Nat) (X : Int) : Prop := (w.cell? ⟨k, 0, none⟩ = some (.int .u64 (l0 (X / MM))) ∧ w.cell? ⟨k, 1, none⟩ = some (.int .u64 (l1 (X / MM))) ∧ w.cell? ⟨k, 2, none⟩ = some (.int .u64 (l2 (X / MM))) ∧ w.cell? ⟨k, 3, none⟩ = some (.int .u64 (l3 (X / MM))) ∧ w.cell? ⟨k, 4, none⟩ = some (.int .u64 (l0 X)) ∧ w.cell? ⟨k, 5, none⟩ = some (.int .u64 (l1 X)) ∧ w.cell? ⟨k, 6, none⟩ = some (.int .u64 (l2 X)) ∧ w.cell? ⟨k, 7, none⟩ = some (.int .u64 (l3 X))) ∧ Fz w k ∧ k < w.heap.size
theorem AtW.mo {w w' : World} {k : Nat} {X : Int} (h : AtW w k X) (m : Mo w w') : AtW w' k X := by
 obtain ⟨c, f, z⟩ := h
 refine ⟨?_, f.mo m, Nat.lt_of_lt_of_le z m.size⟩
 simp only [m.cell k _ z]; exact c

def sc (s : Int) : Bool := decide (0 ≤ s) && decide (s ≤ 18)
set_option maxHeartbeats 1000000 in
theorem isScale_n (s : Int) (w : World) : Calls Try.prog 88 #[.int .i64 s] w fun e w' => e = .returned (.bool (sc s)) ∧ Mo w w' := by
 by_cases h : 0 ≤ s
 ·have h1 : decide (s ≥ 0) = true := decide_eq_true h
  have e : sc s = decide (s ≤ 18) := by unfold sc; rw [decide_eq_true h]; rfl
  rw [e]
  go_enter Try.func88, Try.ntmps88
  go_wp2
  go_ret
  exact ⟨rfl, Mo.refl _⟩
 ·have h1 : decide (s ≥ 0) = false := decide_eq_false h
  have e : sc s = false := by unfold sc; rw [decide_eq_false h]; rfl
  rw [e]
  go_enter Try.func88, Try.ntmps88
  go_wp2
  go_ret
  exact ⟨rfl, Mo.refl _⟩
theorem zb {n : Int} (h0 : 0 ≤ n) (h : n < MM) : (l0 n == 0 && (l1 n == 0 && (l2 n == 0 && l3 n == 0))) = decide (n = 0) := zero4 h0 h
def ck (b : Bool) (n s : Int) : Int := if sc s && !(b && decide (n = 0)) then 0 else 20
set_option maxHeartbeats 2000000 in
theorem check_n (b : Bool) (n s : Int) (w : World) (hn0 : 0 ≤ n) (hn : n < MM) : Calls Try.prog 77 #[dc b n s] w fun e w' => e = .returned (.int .i64 (ck b n s)) ∧ Mo w w' := by
 have q4 := eq4
 have z4 := zb hn0 hn
 have Q : AtD (w.alloc (.cells #[.bool b, .int .u64 (l0 n), .int .u64 (l1 n), .int .u64 (l2 n), .int .u64 (l3 n), .int .i64 s] 40)) w.heap.size b n s := ⟨by simp [go_sem], fun o => by simp [go_sem], by simp⟩
 go_enter Try.func77, Try.ntmps77
 go_wp2_with fail
 refine (isScale_n s _).mono ?_
 rintro e w1 ⟨rfl, hm1⟩
 have M1 : Mo w w1 := ((Mo.refl _).alloc _ _).trans hm1
 obtain ⟨⟨a0, a1, a2, a3, a4, a5⟩, _, sz⟩ := Q.mo hm1
 clear Q hm1
 cases hs : sc s <;> cases hb : b <;> cases hz : decide (n = 0)
 all_goals
  rw [hz] at z4
  go_wp2
  go_ret
  exact ⟨by simp [ck, *], M1⟩
end Go.Proofs.Ythfemlhmnjfjiaa

/-
 decimal.signed, ten, mulDouble: the walks.
-/
namespace Go.Proofs.Ythfemlhmnjfjiaa
open Go.RowKit
set_option maxHeartbeats 2000000 in
theorem dten_n (k : Nat) (w : World) (hk : k ≤ 77) : Calls Try.prog 94 #[.int .i64 (k : Int)] w fun e w' => e = .returned (nv (10 ^ k)) ∧ Mo w w' := by
 go_enter Try.func94, Try.ntmps94
 go_wp2_with fail
 refine (ten_yes k _ hk).mono ?_
 rintro e w1 ⟨rfl, hm1⟩
 have M1 : Mo w w1 := ((Mo.refl _).alloc _ _).trans hm1
 have Q1 : At0 w1 w.heap.size := At0.mo ⟨by simp [At4, go_sem], fun o => by simp [go_sem], by simp <;> omega⟩ hm1
 obtain ⟨⟨a0, a1, a2, a3⟩, fa, sa⟩ := Q1
 have fa := fun o => fa o
 go_wp2
 refine bodyPost_ret (v := nv (10 ^ k)) (by simp [results, Try.results94, go_sem, *]) rfl ?_
 refine ⟨rfl, ?_⟩
 repeat (first | with_reducible exact M1 | with_reducible apply Mo.drew | with_reducible apply Mo.drewN | with_reducible apply Mo.alloc | with_reducible refine Mo.setCell ?_ (by simp <;> omega) _)
theorem zl0 : l0 0 = 0 := rfl
theorem zl1 : l1 0 = 0 := rfl
theorem zl2 : l2 0 = 0 := rfl
theorem zl3 : l3 0 = 0 := rfl
set_option maxHeartbeats 2000000 in
theorem mulDouble_n (A B : Int) (w : World) (hA0 : 0 ≤ A) (hAM : A < MM) (hB0 : 0 ≤ B) (hBM : B < MM) :
  Calls Try.prog 93 #[nv A, nv B] w fun e w' => e = .returned (dw (A * B)) ∧ Mo w w' := by
 go_enter Try.func93, Try.ntmps93
 go_wp2_with fail
 refine (mul_n A B _ hA0 hAM hB0 hBM).mono ?_
 rintro e w1 ⟨rfl, hm1⟩
 have m : Mo w w1 := Mo.trans (by repeat (first | with_reducible exact Mo.refl _ | with_reducible apply Mo.drew | with_reducible apply Mo.alloc)) hm1
 have M := m
 have Qr : AtW w1 (w.heap.size + 1 + 1) 0 := AtW.mo ⟨by simp [go_sem, zl0, zl1, zl2, zl3], fun o => by simp [go_sem], by simp <;> omega⟩ hm1
 clear hm1 m
 have Or := Qr
 obtain ⟨⟨cr0, cr1, cr2, cr3, cr4, cr5, cr6, cr7⟩, fr, sr⟩ := Or
 have fr := fun o => fr o
 have sxr : w.heap.size + 1 + 1 < w1.heap.size + 1 := by omega
 have syr : w.heap.size + 1 + 1 < w1.heap.size + 1 + 1 := by omega
 have a : Mo w1 ((((w1).alloc (.cells #[.int .u64 (l0 (A * B / MM)), .int .u64 (l1 (A * B / MM)), .int .u64 (l2 (A * B / MM)), .int .u64 (l3 (A * B / MM))] 38))).alloc (.cells #[.int .u64 (l0 (A * B)), .int .u64 (l1 (A * B)), .int .u64 (l2 (A * B)), .int .u64 (l3 (A * B))] 38)) := by repeat (first | with_reducible exact Mo.refl _ | with_reducible apply Mo.alloc)
 clear cr0 cr1 cr2 cr3 cr4 cr5 cr6 cr7 fr sr sxr syr
 have Qr := Qr.mo a
 have M := M.trans a
 have Qh : AtN ((((w1).alloc (.cells #[.int .u64 (l0 (A * B / MM)), .int .u64 (l1 (A * B / MM)), .int .u64 (l2 (A * B / MM)), .int .u64 (l3 (A * B / MM))] 38))).alloc (.cells #[.int .u64 (l0 (A * B)), .int .u64 (l1 (A * B)), .int .u64 (l2 (A * B)), .int .u64 (l3 (A * B))] 38)) (w1.heap.size) (A * B / MM) := ⟨by simp [At4, go_sem], fun o => by simp [go_sem], by simp <;> omega⟩
 have Ql : AtN ((((w1).alloc (.cells #[.int .u64 (l0 (A * B / MM)), .int .u64 (l1 (A * B / MM)), .int .u64 (l2 (A * B / MM)), .int .u64 (l3 (A * B / MM))] 38))).alloc (.cells #[.int .u64 (l0 (A * B)), .int .u64 (l1 (A * B)), .int .u64 (l2 (A * B)), .int .u64 (l3 (A * B))] 38)) (w1.heap.size + 1) (A * B) := ⟨by simp [At4, go_sem], fun o => by simp [go_sem], by simp <;> omega⟩
 clear a
 go_upto_region 2 with fail
 generalize ((((w1).alloc (.cells #[.int .u64 (l0 (A * B / MM)), .int .u64 (l1 (A * B / MM)), .int .u64 (l2 (A * B / MM)), .int .u64 (l3 (A * B / MM))] 38))).alloc (.cells #[.int .u64 (l0 (A * B)), .int .u64 (l1 (A * B)), .int .u64 (l2 (A * B)), .int .u64 (l3 (A * B))] 38)) = W0 at *
 have Or := Qr
 obtain ⟨⟨cr0, cr1, cr2, cr3, cr4, cr5, cr6, cr7⟩, fr, sr⟩ := Or
 have fr := fun o => fr o
 have sxr : w.heap.size + 1 + 1 < W0.heap.size + 1 := by omega
 have syr : w.heap.size + 1 + 1 < W0.heap.size + 1 + 1 := by omega
 have Oh := Qh
 obtain ⟨⟨ch0, ch1, ch2, ch3⟩, fh, sh⟩ := Oh
 have fh := fun o => fh o
 have sxh : w1.heap.size < W0.heap.size + 1 := by omega
 have syh : w1.heap.size < W0.heap.size + 1 + 1 := by omega
 have Ol := Ql
 obtain ⟨⟨cl0, cl1, cl2, cl3⟩, fl, sl⟩ := Ol
 have fl := fun o => fl o
 have sxl : w1.heap.size + 1 < W0.heap.size + 1 := by omega
 have syl : w1.heap.size + 1 < W0.heap.size + 1 + 1 := by omega
 go_wp2
 refine bodyPost_ret (v := dw (A * B)) (by simp [results, Try.results93, go_sem, *]) rfl ?_
 refine ⟨rfl, ?_⟩
 repeat (first | with_reducible exact M | with_reducible exact Mo.refl _ | with_reducible apply Mo.drew | with_reducible apply Mo.drewN | with_reducible apply Mo.alloc | with_reducible refine Mo.setCell ?_ (by simp <;> omega) _)
end Go.Proofs.Ythfemlhmnjfjiaa

