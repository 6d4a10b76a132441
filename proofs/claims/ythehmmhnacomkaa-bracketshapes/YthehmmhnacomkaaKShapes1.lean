/-
  A part of the proof.
-/
import Derived.Test.YthehmmhnacomkaaKa1
import Derived.Test.YthehmmhnacomkaaProg
import Derived.WalkKit
import Derived.WalkSpells
import Derived.Handy
import Derived.BigQuiet
import Derived.Deep.RegionHeld3
import Derived.RegionTactic
import Derived.Deep.MidRow
import Derived.BigCall
import Derived.Test.YthehmmhnacomkaaKa2
import Derived.Test.YthehmmhnacomkaaKa3
import Derived.Test.YthehmmhnacomkaaKa4
import Derived.Shelf.Small.Bits
import Derived.Shelf.Strconv.Itoa0
import Derived.Shelf.Bits.Mul64
import Derived.Deep.CutBlock
import Derived.Test.YthehmmhnacomkaaKa5
import Derived.Test.YthehmmhnacomkaaKa7
import Derived.Test.YthehmmhnacomkaaKa6
import Derived.Deep.CutRange
import Derived.Test.YthehmmhnacomkaaKa8
import Derived.ChangeKeysEq
import Derived.ScopeJumps
import Derived.WalkMore
import Derived.Test.YthehmmhnacomkaaKa14
import Derived.Test.YthehmmhnacomkaaKa11
import Derived.Test.YthehmmhnacomkaaKa10
import Derived.Test.YthehmmhnacomkaaKa9
import Derived.Laws.StructEq
import Derived.Test.YthehmmhnacomkaaKa13
import Derived.Test.YthehmmhnacomkaaKa12
import Derived.Test.YthehmmhnacomkaaKa15
namespace Go.Proofs.Ythehmmhnacomkaa
open Go.RowKit

theorem nat_not (a : Nat) (h : a < 18446744073709551616) : 18446744073709551615 ^^^ a = 18446744073709551615 - a := by
 apply Nat.eq_of_testBit_eq
 intro i
 have e := Nat.testBit_two_pow_sub_succ (n := 64) (x := a) h i
 have e2 : (18446744073709551615 - a : Nat) = 2 ^ 64 - (a + 1) := by omega
 rw [e2, e, Nat.testBit_xor, show (18446744073709551615 : Nat) = 2 ^ 64 - 1 from rfl, Nat.testBit_two_pow_sub_one]
 by_cases hi : i < 64
 ·simp [hi]
 ·have : a.testBit i = false := Nat.testBit_lt_two_pow (Nat.lt_of_lt_of_le h (Nat.pow_le_pow_right (n := 2) (by decide) (by omega : 64 ≤ i)))
  simp [hi, this]
theorem bnot (a : Int) (h0 : 0 ≤ a) (h1 : a < 18446744073709551616) : bits .xor .u64 IntKind.u64.max a = 18446744073709551615 - a := by
 obtain ⟨x, rfl⟩ := Int.eq_ofNat_of_zero_le h0
 have e := bits_xor_u64_nat 18446744073709551615 x (by omega) (by omega)
 rw [nat_not x (by omega)] at e
 have e2 : IntKind.u64.max = ((18446744073709551615 : Nat) : Int) := by decide
 rw [e2, e]; omega
end Go.Proofs.Ythehmmhnacomkaa

namespace Go.Proofs.Ythehmmhnacomkaa
open Go.RowKit
/-! Frames as lists of what was put where, the last first. -/
/-! The laws of the steps. -/
section steps
variable {P : Program} {o : Oper} {n : Nat} {l : List (Nat × Value)} {w : World} {ops : Array Oper} {rest : List Oper} {Q : Exit → Act → World → Prop} {K : Act → World → Prop}
theorem li1 {a b : Value} (h : a = b) : [a] = [b] := by rw [h]
end steps
end Go.Proofs.Ythehmmhnacomkaa

namespace Go.Proofs.Ythehmmhnacomkaa
open Go.RowKit
section
variable {P : Program} {ops : List Oper} {Q : Exit → Act → World → Prop} {n : Nat} {l : List (Nat × Value)}
theorem wnt_g {ops : Array Oper} {o : Oper} {j d : Nat} {want b r : Bool} (hg : o.guard = some (j, want)) (hd : (ops[j]?).bind (·.dst) = some d) (hn : Nat.blt d n = true) (hv : look l d = .bool b) (hr : (b == want) = r) : wnt n l ops o = r := by
 unfold wnt
 simp only [hg, hd, hn, cond_true, hv]
 subst hr
 cases b <;> cases want <;> rfl
variable {o : Oper} {w : World} {K : Act → World → Prop}
theorem lp1 {i : Nat} {a b : Value} (h : a = b) : [(i, a)] = [(i, b)] := by rw [h]
theorem lp3 {i j q : Nat} {a b c d e f : Value} (h : a = b) (k : c = d) (m : e = f) : [(i, a), (j, c), (q, e)] = [(i, b), (j, d), (q, f)] := by rw [h, k, m]
end
end Go.Proofs.Ythehmmhnacomkaa

namespace Go.Proofs.Ythehmmhnacomkaa
open Go.RowKit
section
variable {P : Program} {o : Oper} {n : Nat} {l : List (Nat × Value)} {w : World} {ops : Array Oper} {rest : List Oper} {Q : Exit → Act → World → Prop} {K : Act → World → Prop}
theorem wo_pick (c x y : Operand) (t : Bool) (v : Value) (ho : ∀ ρ, execOp ρ o = (do pure (.value (if ← asBool (ρ c) then ρ x else ρ y)))) (hc : evl n l c = .bool t) (hv : evl n l (bif t then x else y) = v) (hk : K (fr n (ext l o.dst v)) w) : WO P o n l w K Q := ⟨o_pick c x y t v ho hc hv hk⟩
theorem wo_build (t : TypeId) (xs : List (Nat × Operand)) (ps : List (Nat × Value)) (v : Value) (ho : o.op = .build t xs.toArray) (hx : xs.map (fun p => (p.1, evl n l p.2)) = ps) (h : (Instr.build t ps.toArray).run P w = .ok v w) (hk : K (fr n (ext l o.dst v)) w) : WO P o n l w K Q := ⟨o_build t xs ps v ho hx h hk⟩
theorem go_pass {ol : List Oper} (hg : wnt n l ol.toArray o = false) (h : K (fr n (ext l o.dst undef)) w) : Go1 P ol Q n l w K o := ⟨Or.inr ⟨hg, h⟩⟩
theorem la_mv (x : Operand) (p : Value) (ho : ∀ ρ, execOp ρ o = pure (.value (ρ x))) (hx : evl n l x = p) : ∀ w, (execOp (evl n l) o).run P w = .ok (.value p) w := fun w => by rw [ho, hx]; rfl
end
end Go.Proofs.Ythehmmhnacomkaa

namespace Go.Proofs.Ythehmmhnacomkaa
theorem bit_low (a Z : Int) (r : Nat) (hr : r < 64) : (a + 18446744073709551616 * Z) / 2 ^ r % 2 = a / 2 ^ r % 2 := by
 have e : (18446744073709551616 : Int) = 2 ^ r * (2 * 2 ^ (63 - r)) := by
  rw [show (2 : Int) * 2 ^ (63 - r) = 2 ^ (63 - r + 1) from by rw [Int.pow_succ, Int.mul_comm], ← Int.pow_add, show r + (63 - r + 1) = 64 from by omega]; decide
 have hp : (2 : Int) ^ r ≠ 0 := by have : (0 : Int) < 2 ^ r := Int.pow_pos (by decide); omega
 rw [e, Int.mul_assoc, Int.add_mul_ediv_left _ _ hp, Int.mul_assoc, Int.add_mul_emod_self_left]
end Go.Proofs.Ythehmmhnacomkaa

namespace Go.Proofs.Ythehmmhnacomkaa
open Go.RowKit

set_option maxHeartbeats 400000 in
theorem not_any (a0 a1 a2 a3 : Int) (w : World) (ha : U4 a0 a1 a2 a3) :
  Calls Try.prog 106 #[.agg #[.int .u64 a0, .int .u64 a1, .int .u64 a2, .int .u64 a3]] w fun e w' => e = .returned (nv (MM - 1 - vl a0 a1 a2 a3)) ∧ Mo w w' := by
 have e0 : 18446744073709551615 - a0 = l0 (MM - 1 - vl a0 a1 a2 a3) := by unfold U4 U1 at ha; unfold l0 MM vl; omega
 have e1 : 18446744073709551615 - a1 = l1 (MM - 1 - vl a0 a1 a2 a3) := by unfold U4 U1 at ha; unfold l1 MM vl; omega
 have e2 : 18446744073709551615 - a2 = l2 (MM - 1 - vl a0 a1 a2 a3) := by unfold U4 U1 at ha; unfold l2 MM vl; omega
 have e3 : 18446744073709551615 - a3 = l3 (MM - 1 - vl a0 a1 a2 a3) := by unfold U4 U1 at ha; unfold l3 MM vl; omega
 rw [nv, ← e0, ← e1, ← e2, ← e3]
 clear e0 e1 e2 e3
 obtain ⟨⟨p0, q0⟩, ⟨p1, q1⟩, ⟨p2, q2⟩, ⟨p3, q3⟩⟩ := ha
 go_enter Try.func106, Try.ntmps106
 go_wp2
 simp only [bnot a0 p0 q0, bnot a1 p1 q1, bnot a2 p2 q2, bnot a3 p3 q3]
 refine bodyPost_ret (by simp [results, Try.results106, go_sem]; rfl) rfl ?_
 refine ⟨rfl, ?_⟩
 repeat (first | exact Mo.refl _ | with_reducible apply Mo.drew | with_reducible apply Mo.drewN | with_reducible apply Mo.alloc | with_reducible refine Mo.setCell ?_ (by simp <;> omega) _ | with_reducible refine Mo.trans ?_ (by assumption))
end Go.Proofs.Ythehmmhnacomkaa

namespace Go.Proofs.Ythehmmhnacomkaa
open Go.RowKit
theorem vint {k : IntKind} {a b : Int} (h : a = b) : Value.int k a = .int k b := by rw [h]
theorem setl0 (X : World) (m N : Nat) (x0 x1 x2 x3 v u : Value) (hN : N = X.heap.size) (h : v = u) :
  ((X.alloc (.cells #[x0, x1, x2, x3] 31)).drewN m).setCell ⟨N, 0, none⟩ v = (X.alloc (.cells #[u, x1, x2, x3] 31)).drewN m := by
 subst hN; subst h
 show (((X.alloc (.cells #[x0, x1, x2, x3] 31)).setCell ⟨X.heap.size, 0, none⟩ v).drewN m) = _
 rw [World.setCell_alloc_at _ _ _ _ _ rfl]
 rfl
theorem setl1 (X : World) (m N : Nat) (x0 x1 x2 x3 v u : Value) (hN : N = X.heap.size) (h : v = u) :
  ((X.alloc (.cells #[x0, x1, x2, x3] 31)).drewN m).setCell ⟨N, 1, none⟩ v = (X.alloc (.cells #[x0, u, x2, x3] 31)).drewN m := by
 subst hN; subst h
 show (((X.alloc (.cells #[x0, x1, x2, x3] 31)).setCell ⟨X.heap.size, 1, none⟩ v).drewN m) = _
 rw [World.setCell_alloc_at _ _ _ _ _ rfl]
 rfl
theorem setl2 (X : World) (m N : Nat) (x0 x1 x2 x3 v u : Value) (hN : N = X.heap.size) (h : v = u) :
  ((X.alloc (.cells #[x0, x1, x2, x3] 31)).drewN m).setCell ⟨N, 2, none⟩ v = (X.alloc (.cells #[x0, x1, u, x3] 31)).drewN m := by
 subst hN; subst h
 show (((X.alloc (.cells #[x0, x1, x2, x3] 31)).setCell ⟨X.heap.size, 2, none⟩ v).drewN m) = _
 rw [World.setCell_alloc_at _ _ _ _ _ rfl]
 rfl
theorem setl3 (X : World) (m N : Nat) (x0 x1 x2 x3 v u : Value) (hN : N = X.heap.size) (h : v = u) :
  ((X.alloc (.cells #[x0, x1, x2, x3] 31)).drewN m).setCell ⟨N, 3, none⟩ v = (X.alloc (.cells #[x0, x1, x2, u] 31)).drewN m := by
 subst hN; subst h
 show (((X.alloc (.cells #[x0, x1, x2, x3] 31)).setCell ⟨X.heap.size, 3, none⟩ v).drewN m) = _
 rw [World.setCell_alloc_at _ _ _ _ _ rfl]
 rfl

set_option maxHeartbeats 4000000 in
theorem radd_raw (a0 a1 a2 a3 b0 b1 b2 b3 n1 n2 n3 n4 : Int) (w : World) (ha : U4 a0 a1 a2 a3) (hb : U4 b0 b1 b2 b3) (h1 : Hid (n1 = a0 + b0)) (h2 : Hid (n2 = a1 + b1 + n1 / 18446744073709551616)) (h3 : Hid (n3 = a2 + b2 + n2 / 18446744073709551616)) (h4 : Hid (n4 = a3 + b3 + n3 / 18446744073709551616)) :
  Calls Try.prog 93 #[.agg #[.int .u64 a0, .int .u64 a1, .int .u64 a2, .int .u64 a3], .agg #[.int .u64 b0, .int .u64 b1, .int .u64 b2, .int .u64 b3]] w fun e w' =>
   e = .returned (.tuple #[.agg #[.int .u64 (n1 % 18446744073709551616), .int .u64 (n2 % 18446744073709551616), .int .u64 (n3 % 18446744073709551616), .int .u64 (n4 % 18446744073709551616)], .bool (n4 / 18446744073709551616 == 1)]) ∧ Mo w w' := by
 obtain ⟨⟨p0, q0⟩, ⟨p1, q1⟩, ⟨p2, q2⟩, ⟨p3, q3⟩⟩ := ha
 obtain ⟨⟨r0, s0⟩, ⟨r1, s1⟩, ⟨r2, s2⟩, ⟨r3, s3⟩⟩ := hb
 have j1 : 0 ≤ n1 / 18446744073709551616 := by have := h1.out; omega
 have j1' : n1 / 18446744073709551616 ≤ 1 := by have := h1.out; omega
 have j2 : 0 ≤ n2 / 18446744073709551616 := by have := h2.out; omega
 have j2' : n2 / 18446744073709551616 ≤ 1 := by have := h2.out; omega
 have j3 : 0 ≤ n3 / 18446744073709551616 := by have := h3.out; omega
 have j3' : n3 / 18446744073709551616 ≤ 1 := by have := h3.out; omega
 go_enter Try.func93, Try.ntmps93
 go_wp2
 go_loopw [7, 8] (fun c i wr => ∃ m : Nat,
   (i = .int .i64 0 ∧ c = .int .u64 0 ∧ wr = ((((w.alloc (.cells #[.int .u64 a0, .int .u64 a1, .int .u64 a2, .int .u64 a3] 31)).alloc (.cells #[.int .u64 b0, .int .u64 b1, .int .u64 b2, .int .u64 b3] 31)).alloc (.cells #[.int .u64 0, .int .u64 0, .int .u64 0, .int .u64 0] 31)).alloc (.cells #[.int .u64 0, .int .u64 0, .int .u64 0, .int .u64 0] 31)).drewN m) ∨
   (i = .int .i64 1 ∧ c = .int .u64 (n1 / 18446744073709551616) ∧ wr = ((((w.alloc (.cells #[.int .u64 a0, .int .u64 a1, .int .u64 a2, .int .u64 a3] 31)).alloc (.cells #[.int .u64 b0, .int .u64 b1, .int .u64 b2, .int .u64 b3] 31)).alloc (.cells #[.int .u64 0, .int .u64 0, .int .u64 0, .int .u64 0] 31)).alloc (.cells #[.int .u64 (n1 % 18446744073709551616), .int .u64 0, .int .u64 0, .int .u64 0] 31)).drewN m) ∨
   (i = .int .i64 2 ∧ c = .int .u64 (n2 / 18446744073709551616) ∧ wr = ((((w.alloc (.cells #[.int .u64 a0, .int .u64 a1, .int .u64 a2, .int .u64 a3] 31)).alloc (.cells #[.int .u64 b0, .int .u64 b1, .int .u64 b2, .int .u64 b3] 31)).alloc (.cells #[.int .u64 0, .int .u64 0, .int .u64 0, .int .u64 0] 31)).alloc (.cells #[.int .u64 (n1 % 18446744073709551616), .int .u64 (n2 % 18446744073709551616), .int .u64 0, .int .u64 0] 31)).drewN m) ∨
   (i = .int .i64 3 ∧ c = .int .u64 (n3 / 18446744073709551616) ∧ wr = ((((w.alloc (.cells #[.int .u64 a0, .int .u64 a1, .int .u64 a2, .int .u64 a3] 31)).alloc (.cells #[.int .u64 b0, .int .u64 b1, .int .u64 b2, .int .u64 b3] 31)).alloc (.cells #[.int .u64 0, .int .u64 0, .int .u64 0, .int .u64 0] 31)).alloc (.cells #[.int .u64 (n1 % 18446744073709551616), .int .u64 (n2 % 18446744073709551616), .int .u64 (n3 % 18446744073709551616), .int .u64 0] 31)).drewN m) ∨
   (i = .int .i64 4 ∧ c = .int .u64 (n4 / 18446744073709551616) ∧ wr = ((((w.alloc (.cells #[.int .u64 a0, .int .u64 a1, .int .u64 a2, .int .u64 a3] 31)).alloc (.cells #[.int .u64 b0, .int .u64 b1, .int .u64 b2, .int .u64 b3] 31)).alloc (.cells #[.int .u64 0, .int .u64 0, .int .u64 0, .int .u64 0] 31)).alloc (.cells #[.int .u64 (n1 % 18446744073709551616), .int .u64 (n2 % 18446744073709551616), .int .u64 (n3 % 18446744073709551616), .int .u64 (n4 % 18446744073709551616)] 31)).drewN m)) (fun _ i _ => 4 - (intOf i).toNat)
 case atStart => exact ⟨0, Or.inl ⟨rfl, rfl, rfl⟩⟩
 case round =>
  obtain ⟨m, ⟨rfl, rfl, rfl⟩ | ⟨rfl, rfl, rfl⟩ | ⟨rfl, rfl, rfl⟩ | ⟨rfl, rfl, rfl⟩ | ⟨rfl, rfl, rfl⟩⟩ := hrel
  ·go_wp2
   go_quiet (fail)
   go_wp2
   all_goals
    go_roundw
    case rel =>
     have hn := h1.out
     simp only [IntKind.wrap_u64] at *
     refine ⟨m + nq, Or.inr (Or.inl ⟨by trivial, vint (by omega), ?_⟩)⟩
     exact setl0 _ _ _ _ _ _ _ _ _ (by simp) (vint (by omega))
    case measure => simp [intOf]
  ·go_wp2
   go_quiet (fail)
   go_wp2
   all_goals
    go_roundw
    case rel =>
     have hn := h2.out
     simp only [IntKind.wrap_u64] at *
     refine ⟨m + nq, Or.inr (Or.inr (Or.inl ⟨by trivial, vint (by omega), ?_⟩))⟩
     exact setl1 _ _ _ _ _ _ _ _ _ (by simp) (vint (by omega))
    case measure => simp [intOf]
  ·go_wp2
   go_quiet (fail)
   go_wp2
   all_goals
    go_roundw
    case rel =>
     have hn := h3.out
     simp only [IntKind.wrap_u64] at *
     refine ⟨m + nq, Or.inr (Or.inr (Or.inr (Or.inl ⟨by trivial, vint (by omega), ?_⟩)))⟩
     exact setl2 _ _ _ _ _ _ _ _ _ (by simp) (vint (by omega))
    case measure => simp [intOf]
  ·go_wp2
   go_quiet (fail)
   go_wp2
   all_goals
    go_roundw
    case rel =>
     have hn := h4.out
     simp only [IntKind.wrap_u64] at *
     refine ⟨m + nq, Or.inr (Or.inr (Or.inr (Or.inr ⟨by trivial, vint (by omega), ?_⟩)))⟩
     exact setl3 _ _ _ _ _ _ _ _ _ (by simp) (vint (by omega))
    case measure => simp [intOf]
  ·go_wp2
   refine bodyPost_ret (by simp [results, Try.results93, go_sem]; rfl) rfl ?_
   refine ⟨rfl, ?_⟩
   repeat (first | exact Mo.refl _ | with_reducible apply Mo.drew | with_reducible apply Mo.drewN | with_reducible apply Mo.alloc | with_reducible refine Mo.setCell ?_ (by simp <;> omega) _ | with_reducible refine Mo.trans ?_ (by assumption))

theorem ov_eq {a b c d e f g h : Int} (h1 : U4 a b c d) (h2 : U4 e f g h) : ((vl a b c d + vl e f g h) / MM == 1) = ov (vl a b c d + vl e f g h) := by
 obtain ⟨p, q⟩ := vl_bd h1; obtain ⟨r, s⟩ := vl_bd h2
 unfold ov; unfold MM at *
 rw [Bool.eq_iff_iff]; simp; omega

theorem radd_any (a0 a1 a2 a3 b0 b1 b2 b3 : Int) (w : World) (ha : U4 a0 a1 a2 a3) (hb : U4 b0 b1 b2 b3) :
  Calls Try.prog 93 #[.agg #[.int .u64 a0, .int .u64 a1, .int .u64 a2, .int .u64 a3], .agg #[.int .u64 b0, .int .u64 b1, .int .u64 b2, .int .u64 b3]] w fun e w' =>
   e = .returned (.tuple #[nv (vl a0 a1 a2 a3 + vl b0 b1 b2 b3), .bool (ov (vl a0 a1 a2 a3 + vl b0 b1 b2 b3))]) ∧ Mo w w' := by
 refine (radd_raw a0 a1 a2 a3 b0 b1 b2 b3 _ _ _ _ w ha hb rfl rfl rfl rfl).mono ?_
 rintro e w' ⟨rfl, hm⟩
 obtain ⟨e0, e1, e2, e3, e4⟩ := addc_eq ha hb rfl
 refine ⟨?_, hm⟩
 rw [nv_of e0 e1 e2 e3, e4, ov_eq ha hb]
end Go.Proofs.Ythehmmhnacomkaa

namespace Go.Proofs.Ythehmmhnacomkaa
open Go.RowKit
def SW (w wx : World) (a b : Int) : Prop := Mo w wx ∧ AtN wx w.heap.size a ∧ AtN wx (w.heap.size + 1) b ∧ AtN wx (w.heap.size + 1 + 1) 0
theorem SW.mo {w wx w1 : World} {a b : Int} (v : SW w wx a b) (m : Mo wx w1) : SW w w1 a b := by
 obtain ⟨v1, v2, v3, v4⟩ := v
 exact ⟨v1.trans m, v2.mo m, v3.mo m, v4.mo m⟩
theorem SW.setk {w wx : World} {a b : Int} (v : SW w wx a b) {k : Nat} (hk : w.heap.size + 1 + 1 < k) (z : Int) : SW w (st4 wx k z) a b := by
 obtain ⟨v1, v2, v3, v4⟩ := v
 exact ⟨v1.st4 (by omega) z, v2.other (by omega) z, v3.other (by omega) z, v4.other (by omega) z⟩
theorem SW.start (w : World) (a b : Int) : SW w (((w.alloc (.cells #[.int .u64 (l0 a), .int .u64 (l1 a), .int .u64 (l2 a), .int .u64 (l3 a)] 31)).alloc (.cells #[.int .u64 (l0 b), .int .u64 (l1 b), .int .u64 (l2 b), .int .u64 (l3 b)] 31)).alloc (.cells #[.int .u64 0, .int .u64 0, .int .u64 0, .int .u64 0] 31)) a b := by
 have z0 : l0 0 = 0 := by decide
 have z1 : l1 0 = 0 := by decide
 have z2 : l2 0 = 0 := by decide
 have z3 : l3 0 = 0 := by decide
 refine ⟨(((Mo.refl _).alloc _ _).alloc _ _).alloc _ _, ⟨by simp [At4, go_sem], fun o => by simp [go_sem], by simp <;> omega⟩, ⟨by simp [At4, go_sem], fun o => by simp [go_sem], by simp <;> omega⟩, ⟨by simp [At4, go_sem, z0, z1, z2, z3], fun o => by simp [go_sem], by simp <;> omega⟩⟩

set_option maxHeartbeats 4000000 in
theorem rsub_n (A B : Int) (w : World) (hA0 : 0 ≤ A) (hAM : A < MM) (hB0 : 0 ≤ B) (hBM : B < MM) :
  Calls Try.prog 94 #[nv A, nv B] w fun e w' =>
   e = .returned (.tuple #[nv (A - B), .bool (un (A - B))]) ∧ Mo w w' := by
 have hcm : decide (cm A B < 0) = un (A - B) := by
  unfold cm un
  by_cases h : A < B
  ·rw [if_pos h, decide_eq_true (by decide), decide_eq_true (by omega)]
  ·rw [if_neg h, decide_eq_false (p := A - B < 0) (by omega)]
   split <;> decide
 have Hcm : Hid _ := hcm
 clear hcm
 have v0 := SW.start w A B
 have H1 : Hid (nv (A + (MM - 1 - B) % MM) = nv (A + (MM - 1 - B))) := by
  show _ = _
  rw [← nv_mod (A + (MM - 1 - B) % MM), Int.add_emod_emod, nv_mod]
 have H2 : Hid (nv ((A + (MM - 1 - B)) % MM + 1 % MM) = nv (A - B)) := by
  show _ = _
  rw [nv_add_mod, show A + (MM - 1 - B) + 1 = A - B + MM * 1 from by omega, nv_top]
 go_enter Try.func94, Try.ntmps94
 go_upto_region 1 with fail
 revert v0
 generalize ((w.alloc (.cells #[.int .u64 (l0 A), .int .u64 (l1 A), .int .u64 (l2 A), .int .u64 (l3 A)] 31)).alloc (.cells #[.int .u64 (l0 B), .int .u64 (l1 B), .int .u64 (l2 B), .int .u64 (l3 B)] 31)).alloc (.cells #[.int .u64 0, .int .u64 0, .int .u64 0, .int .u64 0] 31) = W0
 intro v0
 go_cut [6, 7] from 8 to 14 (fun s6 _ wx => ∃ k, s6 = .pointer (some ⟨k, 0, none⟩) ∧ w.heap.size + 1 + 1 < k ∧ SW w wx A B ∧ AtN wx k (A + (MM - 1 - B)))
 case first =>
  have v0z := v0
  obtain ⟨_, ⟨⟨c0, c1, c2, c3⟩, _, x1⟩, ⟨⟨d0, d1, d2, d3⟩, _, x2⟩, _, _, x3⟩ := v0z
  go_region_held3 (fun w' => w'.cell? ⟨w.heap.size, 0, none⟩ = some (.int .u64 (l0 A)) ∧ w'.cell? ⟨w.heap.size, 1, none⟩ = some (.int .u64 (l1 A)) ∧ w'.cell? ⟨w.heap.size, 2, none⟩ = some (.int .u64 (l2 A)) ∧ w'.cell? ⟨w.heap.size, 3, none⟩ = some (.int .u64 (l3 A)) ∧ w'.cell? ⟨w.heap.size + 1, 0, none⟩ = some (.int .u64 (l0 B)) ∧ w'.cell? ⟨w.heap.size + 1, 1, none⟩ = some (.int .u64 (l1 B)) ∧ w'.cell? ⟨w.heap.size + 1, 2, none⟩ = some (.int .u64 (l2 B)) ∧ w'.cell? ⟨w.heap.size + 1, 3, none⟩ = some (.int .u64 (l3 B))) (simp [go_sem, World.cell?_alloc_past, *])
   (first | (go_at_call 106; refine (not_any (l0 B) (l1 B) (l2 B) (l3 B) _ (u4_lb B)).mono ?_; rintro e w1 ⟨rfl, hm1⟩; rw [vl_lb B hB0 hBM]; have v1 := v0.mo (Mo.trans (by repeat (first | with_reducible exact Mo.refl _ | with_reducible apply Mo.drew | with_reducible apply Mo.alloc)) hm1); (try (with_reducible have k1 := At0.mk1 hm1)); have v1z := v1; obtain ⟨_, ⟨⟨e0, e1, e2, e3⟩, _, y1⟩, ⟨⟨f0, f1, f2, f3⟩, _, y2⟩, _, _, y3⟩ := v1z) | (go_at_call 93; refine (radd_any (l0 A) (l1 A) (l2 A) (l3 A) _ _ _ _ _ (u4_lb A) (u4_lb _)).mono ?_; rintro e w2 ⟨rfl, hm2⟩; rw [vl_lb A hA0 hAM, vl_nv, H1.out]; have m2 : Mo w1 w2 := Mo.trans (by repeat (first | with_reducible exact Mo.refl _ | with_reducible apply Mo.drew | with_reducible apply Mo.alloc)) hm2; (try (with_reducible have k2 := At0.mk2 hm2)); (try (with_reducible have k2 := k1.mo m2)); (try have k3 := k2); (try obtain ⟨⟨i0, i1, i2, i3⟩, ff, y9⟩ := k2); (try have ff := fun o => ff o); have v2 := v1.mo m2; have v2z := v2; obtain ⟨_, ⟨⟨g0, g1, g2, g3⟩, _, y4⟩, ⟨⟨h0, h1, h2, h3⟩, _, y5⟩, _, _, y6⟩ := v2z))
  all_goals
   go_wp2
   go_meet
   case rel =>
    have z1 := hm1.size
    have z2 := m2.size
    simp at z1
    refine ⟨_, rfl, by omega, ?_, ?_⟩
    ·first | exact v2.setk (by omega) _ | exact v2.mo ((Mo.refl _).alloc _ _)
    ·first | exact k3.same _ | exact AtN.new _ _
 case rest =>
  clear v0
  obtain ⟨k, rfl, hk, v, n⟩ := hcut
  go_upto_region 2 with fail
  go_cut [] from 15 to 20 (fun wx => SW w wx A B ∧ AtN wx k (A - B))
  case first =>
   have vz := v
   have nz := n
   obtain ⟨⟨i0, i1, i2, i3⟩, _, x0⟩ := nz
   go_region_with
    (first | (go_at_call 64; refine (from34_any 1 _ ⟨by decide, by decide⟩).mono ?_; rintro e w1 ⟨rfl, hm1⟩; have m1 : Mo wc w1 := Mo.trans (by repeat (first | with_reducible exact Mo.refl _ | with_reducible apply Mo.drew | with_reducible apply Mo.alloc)) hm1; obtain ⟨⟨i0, i1, i2, i3⟩, _, x1⟩ := n.mo m1) | (go_at_call 93; refine (radd_any (l0 (A + (MM - 1 - B))) (l1 (A + (MM - 1 - B))) (l2 (A + (MM - 1 - B))) (l3 (A + (MM - 1 - B))) (l0 1) (l1 1) (l2 1) (l3 1) _ (u4_lb _) (u4_lb _)).mono ?_; rintro e w2 ⟨rfl, hm2⟩; rw [vl_nv (A + (MM - 1 - B)), vl_nv 1, H2.out]; have m2 : Mo w1 w2 := Mo.trans (by repeat (first | with_reducible exact Mo.refl _ | with_reducible apply Mo.drew | with_reducible apply Mo.alloc)) hm2; have m3 := m1.trans m2; obtain ⟨⟨i0, i1, i2, i3⟩, ff, x1⟩ := n.mo m3; have ff := fun o => ff o))
   all_goals
    go_wp2
    go_meet
    case rel => exact ⟨(v.mo m3).setk hk _, (n.mo m3).same _⟩
  case rest =>
   clear v n
   obtain ⟨v, n⟩ := hcut
   go_upto_region 3 with fail
   go_cut [5] from 21 to 25 (fun s5 wx => s5 = .bool (un (A - B)) ∧ AtN wx (w.heap.size + 1 + 1) (A - B) ∧ Mo w wx)
   case first =>
    have hcm := Hcm.out
    have vz := v
    have nz := n
    obtain ⟨_, ⟨⟨c0, c1, c2, c3⟩, _, x1⟩, ⟨⟨d0, d1, d2, d3⟩, _, x2⟩, _, _, x3⟩ := vz
    obtain ⟨⟨i0, i1, i2, i3⟩, _, x0⟩ := nz
    have ne : ¬ k = w.heap.size + 1 + 1 := by omega
    go_region_held3 (fun w' => w'.cell? ⟨w.heap.size, 0, none⟩ = some (.int .u64 (l0 A)) ∧ w'.cell? ⟨w.heap.size, 1, none⟩ = some (.int .u64 (l1 A)) ∧ w'.cell? ⟨w.heap.size, 2, none⟩ = some (.int .u64 (l2 A)) ∧ w'.cell? ⟨w.heap.size, 3, none⟩ = some (.int .u64 (l3 A)) ∧ w'.cell? ⟨w.heap.size + 1, 0, none⟩ = some (.int .u64 (l0 B)) ∧ w'.cell? ⟨w.heap.size + 1, 1, none⟩ = some (.int .u64 (l1 B)) ∧ w'.cell? ⟨w.heap.size + 1, 2, none⟩ = some (.int .u64 (l2 B)) ∧ w'.cell? ⟨w.heap.size + 1, 3, none⟩ = some (.int .u64 (l3 B)) ∧ w'.cell? ⟨k, 0, none⟩ = some (.int .u64 (l0 (A - B))) ∧ w'.cell? ⟨k, 1, none⟩ = some (.int .u64 (l1 (A - B))) ∧ w'.cell? ⟨k, 2, none⟩ = some (.int .u64 (l2 (A - B))) ∧ w'.cell? ⟨k, 3, none⟩ = some (.int .u64 (l3 (A - B)))) (simp [go_sem, *])
     (first | (go_at_call 63; refine (cmp16_any (l0 A) (l1 A) (l2 A) (l3 A) (l0 B) (l1 B) (l2 B) (l3 B) _ (u4_lb A) (u4_lb B)).mono ?_; rintro e w1 ⟨rfl, hm1⟩; rw [vl_lb A hA0 hAM, vl_lb B hB0 hBM]; have m1 : Mo wc w1 := Mo.trans (by repeat (first | with_reducible exact Mo.refl _ | with_reducible apply Mo.drew | with_reducible apply Mo.alloc)) hm1; have v1 := v.mo m1; obtain ⟨q1, ⟨⟨c0, c1, c2, c3⟩, _, y1⟩, ⟨⟨d0, d1, d2, d3⟩, _, y2⟩, ⟨⟨e0, e1, e2, e3⟩, fe, y3⟩⟩ := v1; obtain ⟨⟨i0, i1, i2, i3⟩, _, y0⟩ := n.mo m1; have fe := fun o => fe o))
    all_goals
     go_wp2
     go_meet
     case rel =>
      have v1 := v.mo m1
      exact ⟨rfl, v1.2.2.2.same _, v1.1.st4 (by omega) _⟩
   case rest =>
    obtain ⟨rfl, ⟨⟨a0, a1, a2, a3⟩, _, _⟩, hmo⟩ := hcut
    go_wp2
    refine bodyPost_ret (v := .tuple #[nv (A - B), .bool (un (A - B))]) (by simp [results, Try.results94, go_sem, a0, a1, a2, a3]) rfl ?_
    exact ⟨rfl, hmo⟩
end Go.Proofs.Ythehmmhnacomkaa

namespace Go.Proofs.Ythehmmhnacomkaa
open Go.RowKit
theorem radd_n (A B : Int) (w : World) (hA0 : 0 ≤ A) (hAM : A < MM) (hB0 : 0 ≤ B) (hBM : B < MM) :
  Calls Try.prog 93 #[nv A, nv B] w fun e w' => e = .returned (.tuple #[nv (A + B), .bool (ov (A + B))]) ∧ Mo w w' := by
 have h := radd_any (l0 A) (l1 A) (l2 A) (l3 A) (l0 B) (l1 B) (l2 B) (l3 B) w (u4_lb A) (u4_lb B)
 rw [vl_lb A hA0 hAM, vl_lb B hB0 hBM] at h
 exact h
theorem rcmp_n (A B : Int) (w : World) (hA0 : 0 ≤ A) (hAM : A < MM) (hB0 : 0 ≤ B) (hBM : B < MM) :
  Calls Try.prog 63 #[nv A, nv B] w fun e w' => e = .returned (.int .i64 (cm A B)) ∧ Mo w w' := by
 have h := cmp16_any (l0 A) (l1 A) (l2 A) (l3 A) (l0 B) (l1 B) (l2 B) (l3 B) w (u4_lb A) (u4_lb B)
 rw [vl_lb A hA0 hAM, vl_lb B hB0 hBM] at h
 exact h
end Go.Proofs.Ythehmmhnacomkaa

namespace Go.Proofs.Ythehmmhnacomkaa
open Go.RowKit
theorem low_limb (q : Int) (m r : Nat) (hr : r < 64) (_hq : 0 ≤ q) :
  ∃ c : Int, 0 ≤ c ∧ q * 2 ^ (m + r + 1) / 2 ^ m % 18446744073709551616 = c * 2 ^ (r + 1) ∧ c * 2 ^ (r + 1) + 2 ^ r < 18446744073709551616 := by
 have hm : (0 : Int) < 2 ^ m := Int.pow_pos (by decide)
 have hp : (0 : Int) < 2 ^ (r + 1) := Int.pow_pos (by decide)
 have hp0 : (0 : Int) < 2 ^ r := Int.pow_pos (by decide)
 have hp2 : (0 : Int) < 2 ^ (63 - r) := Int.pow_pos (by decide)
 have e1 : q * 2 ^ (m + r + 1) / 2 ^ m = 2 ^ (r + 1) * q := by
  rw [Nat.add_assoc, Int.pow_add, Int.mul_left_comm, Int.mul_ediv_cancel_left _ (by omega), Int.mul_comm]
 have e2 : (18446744073709551616 : Int) = 2 ^ (r + 1) * 2 ^ (63 - r) := by
  rw [← Int.pow_add, show r + 1 + (63 - r) = 64 from by omega]; decide
 have a := Int.emod_nonneg q (show (2 : Int) ^ (63 - r) ≠ 0 by omega)
 have b := Int.emod_lt_of_pos q hp2
 refine ⟨q % 2 ^ (63 - r), a, ?_, ?_⟩
 ·rw [e1, e2, Int.mul_emod_mul_of_pos _ _ hp, Int.mul_comm]
 ·have e3 : q % 2 ^ (63 - r) * 2 ^ (r + 1) ≤ (2 ^ (63 - r) - 1) * 2 ^ (r + 1) := Int.mul_le_mul_of_nonneg_right (by omega) (by omega)
  rw [Int.sub_mul, Int.one_mul, Int.mul_comm (2 ^ (63 - r)), ← e2] at e3
  have e4 : (2 : Int) ^ (r + 1) = 2 ^ r * 2 := Int.pow_succ 2 r
  omega
theorem or_bit {x : Int} {r : Nat} (c : Int) (hc : 0 ≤ c) (h : x = c * 2 ^ (r + 1)) (h2 : c * 2 ^ (r + 1) + 2 ^ r < 18446744073709551616) : bits .or .u64 x (2 ^ r) = x + 2 ^ r := by
 have hp0 : (0 : Int) < 2 ^ r := Int.pow_pos (by decide)
 have e4 : (2 : Int) ^ (r + 1) = 2 ^ r * 2 := Int.pow_succ 2 r
 rw [h]
 exact or_join c (2 ^ r) (r + 1) hc (by omega) (by omega) h2
theorem Qlt {q : Int} {i : Nat} (hi : i < 256) (hq : q < 2 ^ (255 - i)) : q * 2 ^ (i + 1) < MM ∧ q * 2 ^ (i + 1) + 2 ^ i < MM := by
 have hp0 : (0 : Int) < 2 ^ i := Int.pow_pos (by decide)
 have e4 : (2 : Int) ^ (i + 1) = 2 ^ i * 2 := Int.pow_succ 2 i
 have e1 : q * 2 ^ (i + 1) ≤ (2 ^ (255 - i) - 1) * 2 ^ (i + 1) := Int.mul_le_mul_of_nonneg_right (by omega) (by omega)
 rw [Int.sub_mul, Int.one_mul, ← Int.pow_add, show 255 - i + (i + 1) = 256 from by omega, show (2 : Int) ^ 256 = MM from by decide] at e1
 omega
theorem bit_set {q : Int} {i : Nat} (hi : i < 256) (hq0 : 0 ≤ q) (hq : q < 2 ^ (255 - i)) (r : Nat) (hr : r = i % 64) :
  (i / 64 = 0 ∧ bits .or .u64 (l0 (q * 2 ^ (i + 1))) (2 ^ r) = l0 (q * 2 ^ (i + 1) + 2 ^ i) ∧ l1 (q * 2 ^ (i + 1) + 2 ^ i) = l1 (q * 2 ^ (i + 1)) ∧ l2 (q * 2 ^ (i + 1) + 2 ^ i) = l2 (q * 2 ^ (i + 1)) ∧ l3 (q * 2 ^ (i + 1) + 2 ^ i) = l3 (q * 2 ^ (i + 1))) ∨
  (i / 64 = 1 ∧ bits .or .u64 (l1 (q * 2 ^ (i + 1))) (2 ^ r) = l1 (q * 2 ^ (i + 1) + 2 ^ i) ∧ l0 (q * 2 ^ (i + 1) + 2 ^ i) = l0 (q * 2 ^ (i + 1)) ∧ l2 (q * 2 ^ (i + 1) + 2 ^ i) = l2 (q * 2 ^ (i + 1)) ∧ l3 (q * 2 ^ (i + 1) + 2 ^ i) = l3 (q * 2 ^ (i + 1))) ∨
  (i / 64 = 2 ∧ bits .or .u64 (l2 (q * 2 ^ (i + 1))) (2 ^ r) = l2 (q * 2 ^ (i + 1) + 2 ^ i) ∧ l0 (q * 2 ^ (i + 1) + 2 ^ i) = l0 (q * 2 ^ (i + 1)) ∧ l1 (q * 2 ^ (i + 1) + 2 ^ i) = l1 (q * 2 ^ (i + 1)) ∧ l3 (q * 2 ^ (i + 1) + 2 ^ i) = l3 (q * 2 ^ (i + 1))) ∨
  (i / 64 = 3 ∧ bits .or .u64 (l3 (q * 2 ^ (i + 1))) (2 ^ r) = l3 (q * 2 ^ (i + 1) + 2 ^ i) ∧ l0 (q * 2 ^ (i + 1) + 2 ^ i) = l0 (q * 2 ^ (i + 1)) ∧ l1 (q * 2 ^ (i + 1) + 2 ^ i) = l1 (q * 2 ^ (i + 1)) ∧ l2 (q * 2 ^ (i + 1) + 2 ^ i) = l2 (q * 2 ^ (i + 1))) := by
 have hQ := (Qlt hi hq).1
 have hp : (0 : Int) < 2 ^ (i + 1) := Int.pow_pos (by decide)
 have hQ0 : 0 ≤ q * 2 ^ (i + 1) := Int.mul_nonneg hq0 (by omega)
 have hV := vl_lb _ hQ0 hQ
 obtain ⟨u0, u1, u2, u3⟩ := u4_lb (q * 2 ^ (i + 1))
 have hr64 : r < 64 := by omega
 have hp0 : (0 : Int) < 2 ^ r := Int.pow_pos (by decide)
 have hm : i / 64 = 0 ∨ i / 64 = 1 ∨ i / 64 = 2 ∨ i / 64 = 3 := by omega
 rcases hm with hm | hm | hm | hm
 ·refine Or.inl ⟨hm, ?_⟩
  obtain ⟨c, c0, c1, c2⟩ := low_limb q 0 r hr64 hq0
  have e : i = 0 + r := by omega
  have el : l0 (q * 2 ^ (i + 1)) = c * 2 ^ (r + 1) := by rw [← c1, e]; unfold l0; simp
  have ep : (2 : Int) ^ i = 2 ^ r := by rw [e]; simp
  rw [or_bit c c0 el c2]
  have hu : U4 (l0 (q * 2 ^ (i + 1)) + 2 ^ r) (l1 (q * 2 ^ (i + 1))) (l2 (q * 2 ^ (i + 1))) (l3 (q * 2 ^ (i + 1))) := ⟨⟨by have := u0.1; omega, by omega⟩, u1, u2, u3⟩
  have ev : q * 2 ^ (i + 1) + 2 ^ i = vl (l0 (q * 2 ^ (i + 1)) + 2 ^ r) (l1 (q * 2 ^ (i + 1))) (l2 (q * 2 ^ (i + 1))) (l3 (q * 2 ^ (i + 1))) := by
   rw [ep]; unfold vl at *; omega
  rw [ev, l0_vl hu, l1_vl hu, l2_vl hu, l3_vl hu]
  exact ⟨rfl, rfl, rfl, rfl⟩
 ·refine Or.inr (Or.inl ⟨hm, ?_⟩)
  obtain ⟨c, c0, c1, c2⟩ := low_limb q 64 r hr64 hq0
  have e : i = 64 + r := by omega
  have el : l1 (q * 2 ^ (i + 1)) = c * 2 ^ (r + 1) := by rw [← c1, e]; unfold l1; rfl
  have ep : (2 : Int) ^ i = 18446744073709551616 * 2 ^ r := by rw [e, Int.pow_add]; rfl
  rw [or_bit c c0 el c2]
  have hu : U4 (l0 (q * 2 ^ (i + 1))) (l1 (q * 2 ^ (i + 1)) + 2 ^ r) (l2 (q * 2 ^ (i + 1))) (l3 (q * 2 ^ (i + 1))) := ⟨u0, ⟨by have := u1.1; omega, by omega⟩, u2, u3⟩
  have ev : q * 2 ^ (i + 1) + 2 ^ i = vl (l0 (q * 2 ^ (i + 1))) (l1 (q * 2 ^ (i + 1)) + 2 ^ r) (l2 (q * 2 ^ (i + 1))) (l3 (q * 2 ^ (i + 1))) := by
   rw [ep]; unfold vl at *; omega
  rw [ev, l0_vl hu, l1_vl hu, l2_vl hu, l3_vl hu]
  exact ⟨rfl, rfl, rfl, rfl⟩
 ·refine Or.inr (Or.inr (Or.inl ⟨hm, ?_⟩))
  obtain ⟨c, c0, c1, c2⟩ := low_limb q 128 r hr64 hq0
  have e : i = 128 + r := by omega
  have el : l2 (q * 2 ^ (i + 1)) = c * 2 ^ (r + 1) := by rw [← c1, e]; unfold l2; rfl
  have ep : (2 : Int) ^ i = 340282366920938463463374607431768211456 * 2 ^ r := by rw [e, Int.pow_add]; rfl
  rw [or_bit c c0 el c2]
  have hu : U4 (l0 (q * 2 ^ (i + 1))) (l1 (q * 2 ^ (i + 1))) (l2 (q * 2 ^ (i + 1)) + 2 ^ r) (l3 (q * 2 ^ (i + 1))) := ⟨u0, u1, ⟨by have := u2.1; omega, by omega⟩, u3⟩
  have ev : q * 2 ^ (i + 1) + 2 ^ i = vl (l0 (q * 2 ^ (i + 1))) (l1 (q * 2 ^ (i + 1))) (l2 (q * 2 ^ (i + 1)) + 2 ^ r) (l3 (q * 2 ^ (i + 1))) := by
   rw [ep]; unfold vl at *; omega
  rw [ev, l0_vl hu, l1_vl hu, l2_vl hu, l3_vl hu]
  exact ⟨rfl, rfl, rfl, rfl⟩
 ·refine Or.inr (Or.inr (Or.inr ⟨hm, ?_⟩))
  obtain ⟨c, c0, c1, c2⟩ := low_limb q 192 r hr64 hq0
  have e : i = 192 + r := by omega
  have el : l3 (q * 2 ^ (i + 1)) = c * 2 ^ (r + 1) := by rw [← c1, e]; unfold l3; rfl
  have ep : (2 : Int) ^ i = 6277101735386680763835789423207666416102355444464034512896 * 2 ^ r := by rw [e, Int.pow_add]; rfl
  rw [or_bit c c0 el c2]
  have hu : U4 (l0 (q * 2 ^ (i + 1))) (l1 (q * 2 ^ (i + 1))) (l2 (q * 2 ^ (i + 1))) (l3 (q * 2 ^ (i + 1)) + 2 ^ r) := ⟨u0, u1, u2, ⟨by have := u3.1; omega, by omega⟩⟩
  have ev : q * 2 ^ (i + 1) + 2 ^ i = vl (l0 (q * 2 ^ (i + 1))) (l1 (q * 2 ^ (i + 1))) (l2 (q * 2 ^ (i + 1))) (l3 (q * 2 ^ (i + 1)) + 2 ^ r) := by
   rw [ep]; unfold vl at *; omega
  rw [ev, l0_vl hu, l1_vl hu, l2_vl hu, l3_vl hu]
  exact ⟨rfl, rfl, rfl, rfl⟩
def nj (H L : Int) (j : Nat) : Int := H * 2 ^ (256 - j) + L / 2 ^ j
theorem nj_top (H : Int) {L : Int} (h0 : 0 ≤ L) (h : L < MM) : nj H L 256 = H := by
 unfold nj
 rw [show (2 : Int) ^ 256 = MM from by decide, Int.ediv_eq_zero_of_lt h0 h]
 simp
theorem nj_low (H L : Int) : nj H L 0 = H * MM + L := by
 unfold nj
 rw [show (256 - 0 : Nat) = 256 from rfl, show (2 : Int) ^ 256 = MM from by decide]
 simp
theorem nj_step (H L : Int) {i : Nat} (hi : i < 256) : nj H L i = 2 * nj H L (i + 1) + L / 2 ^ i % 2 := by
 unfold nj
 have e1 : (2 : Int) ^ (256 - i) = 2 ^ (256 - (i + 1)) * 2 := by rw [← Int.pow_succ]; congr 1; omega
 have e2 : L / 2 ^ (i + 1) = L / 2 ^ i / 2 := by
  rw [Int.pow_succ, Int.ediv_ediv_of_nonneg (Int.le_of_lt (Int.pow_pos (by decide)))]
 rw [e1, e2, ← Int.mul_assoc]
 omega
theorem div_no_step {q R D H L : Int} {i : Nat} (hi : i < 256) (h : q * D + R = nj H L (i + 1)) : 2 * q * D + (2 * R + L / 2 ^ i % 2) = nj H L i := by
 rw [nj_step H L hi, ← h, Int.mul_assoc]; omega
theorem div_yes_step {q R D H L : Int} {i : Nat} (hi : i < 256) (h : q * D + R = nj H L (i + 1)) : (2 * q + 1) * D + (2 * R + L / 2 ^ i % 2 - D) = nj H L i := by
 rw [nj_step H L hi, ← h, Int.add_mul, Int.mul_assoc]; omega
theorem q_no {q : Int} {i : Nat} (hi : i < 256) (hq : q < 2 ^ (255 - i)) : 2 * q < 2 ^ (256 - i) ∧ 2 * q + 1 < 2 ^ (256 - i) := by
 have e1 : (2 : Int) ^ (256 - i) = 2 ^ (255 - i) * 2 := by rw [← Int.pow_succ]; congr 1; omega
 omega
theorem div_end {q R D H L : Int} (hR0 : 0 ≤ R) (hR : R < D) (h : q * D + R = H * MM + L) : (H * MM + L) / D = q ∧ (H * MM + L) % D = R := by
 rw [← h]
 constructor
 ·rw [Int.add_comm, Int.add_mul_ediv_right _ _ (by omega), Int.ediv_eq_zero_of_lt hR0 hR, Int.zero_add]
 ·rw [Int.add_comm, Int.add_mul_emod_self_right, Int.emod_eq_of_lt hR0 hR]
theorem q_pow (q : Int) (i : Nat) : 2 * q * 2 ^ i = q * 2 ^ (i + 1) := by rw [Int.pow_succ]; grind
theorem q_pow1 (q : Int) (i : Nat) : (2 * q + 1) * 2 ^ i = q * 2 ^ (i + 1) + 2 ^ i := by rw [Int.pow_succ]; grind
end Go.Proofs.Ythehmmhnacomkaa

namespace Go.Proofs.Ythehmmhnacomkaa
open Go.RowKit
theorem and_one (a : Int) (h0 : 0 ≤ a) (h1 : a < 18446744073709551616) : bits .and .u64 a 1 = a % 2 := by
 obtain ⟨x, rfl⟩ := Int.eq_ofNat_of_zero_le h0
 have e := bits_and_u64_nat x 1 (by omega) (by decide)
 rw [Nat.and_one_is_mod] at e
 rw [show ((1 : Nat) : Int) = 1 from rfl] at e
 rw [e]; omega
theorem sh_bd {a : Int} (h : U1 a) (r : Nat) : 0 ≤ a / 2 ^ r ∧ a / 2 ^ r < 18446744073709551616 := by
 obtain ⟨p, q⟩ := h
 have hp : (0 : Int) < 2 ^ r := Int.pow_pos (by decide)
 refine ⟨Int.ediv_nonneg p (by omega), ?_⟩
 have := Int.ediv_le_self (2 ^ r) p
 omega
set_option maxHeartbeats 1000000 in
theorem bit_any (n : Int) (i : Nat) (w : World) (_hn0 : 0 ≤ n) (_hn : n < MM) (hi : i < 256) :
  Calls Try.prog 105 #[nv n, .int .i64 (i : Int)] w fun e w' => e = .returned (.int .u64 (n / 2 ^ i % 2)) ∧ Mo w w' := by
 have fin : ∀ (r : Int) (w' : World), r = n / 2 ^ i % 2 → Mo w w' → (Ending.returned (.int .u64 r) = .returned (.int .u64 (n / 2 ^ i % 2)) ∧ Mo w w') := fun r w' h m => ⟨by rw [h], m⟩
 obtain ⟨r, hr, er⟩ : ∃ r : Nat, r < 64 ∧ (i : Int) % 64 = (r : Int) := ⟨i % 64, by omega, by omega⟩
 have u := u4_lb n
 obtain ⟨u0, u1, u2, u3⟩ := u
 have s0 := sh_bd u0 r
 have s1 := sh_bd u1 r
 have s2 := sh_bd u2 r
 have s3 := sh_bd u3 r
 have t0 := and_one _ s0.1 s0.2
 have t1 := and_one _ s1.1 s1.2
 have t2 := and_one _ s2.1 s2.2
 have t3 := and_one _ s3.1 s3.2
 clear s0 s1 s2 s3
 obtain ⟨p0, q0⟩ := u0
 obtain ⟨p1, q1⟩ := u1
 obtain ⟨p2, q2⟩ := u2
 obtain ⟨p3, q3⟩ := u3
 have hq : (i : Int) / 64 = 0 ∨ (i : Int) / 64 = 1 ∨ (i : Int) / 64 = 2 ∨ (i : Int) / 64 = 3 := by omega
 rcases hq with hq | hq | hq | hq
 ·go_enter Try.func105, Try.ntmps105
  go_wp2
  go_ret
  refine fin _ _ ?_ ((Mo.refl _).alloc _ _)
  rw [show i = r from by omega, ← bit_low (l0 n) (n / 18446744073709551616) r hr, show l0 n + 18446744073709551616 * (n / 18446744073709551616) = n from by unfold l0; omega]
 ·go_enter Try.func105, Try.ntmps105
  go_wp2
  go_ret
  refine fin _ _ ?_ ((Mo.refl _).alloc _ _)
  rw [show i = 64 + r from by omega, div_pow_split, ← bit_low (l1 n) (n / 340282366920938463463374607431768211456) r hr, show l1 n + 18446744073709551616 * (n / 340282366920938463463374607431768211456) = n / 2 ^ 64 from by unfold l1; omega]
 ·go_enter Try.func105, Try.ntmps105
  go_wp2
  go_ret
  refine fin _ _ ?_ ((Mo.refl _).alloc _ _)
  rw [show i = 128 + r from by omega, div_pow_split, ← bit_low (l2 n) (n / 6277101735386680763835789423207666416102355444464034512896) r hr, show l2 n + 18446744073709551616 * (n / 6277101735386680763835789423207666416102355444464034512896) = n / 2 ^ 128 from by unfold l2; omega]
 ·go_enter Try.func105, Try.ntmps105
  go_wp2
  go_ret
  refine fin _ _ ?_ ((Mo.refl _).alloc _ _)
  rw [show i = 192 + r from by omega, div_pow_split, ← bit_low (l3 n) (n / MM) r hr, show l3 n + 18446744073709551616 * (n / MM) = n / 2 ^ 192 from by unfold l3 MM; omega]
end Go.Proofs.Ythehmmhnacomkaa

namespace Go.Proofs.Ythehmmhnacomkaa
open Go.RowKit
def QW (w wx : World) (k : Nat) (H L D R Q : Int) : Prop := Mo w wx ∧ AtN wx w.heap.size H ∧ AtN wx (w.heap.size + 1) L ∧ AtN wx (w.heap.size + 1 + 1) D ∧ AtN wx (w.heap.size + 1 + 1 + 1) 0 ∧ AtN wx (w.heap.size + 1 + 1 + 1 + 1) 0 ∧ AtN wx k R ∧ AtN wx (k + 1) Q ∧ w.heap.size + 1 + 1 + 1 + 1 < k
theorem QW.mo {w wx w1 : World} {k : Nat} {H L D R Q : Int} (v : QW w wx k H L D R Q) (m : Mo wx w1) : QW w w1 k H L D R Q := by
 obtain ⟨h1, h2, h3, h4, h5, h6, h7, h8, h9⟩ := v
 exact ⟨h1.trans m, h2.mo m, h3.mo m, h4.mo m, h5.mo m, h6.mo m, h7.mo m, h8.mo m, h9⟩
theorem QW.other {w wx : World} {k : Nat} {H L D R Q : Int} (v : QW w wx k H L D R Q) {j : Nat} (hj : k + 1 < j) (o : Nat) (x : Value) : QW w (wx.setCell ⟨j, o, none⟩ x) k H L D R Q := by
 obtain ⟨h1, h2, h3, h4, h5, h6, h7, h8, h9⟩ := v
 exact ⟨h1.setCell (by show w.heap.size ≤ j; omega) _, h2.set1 (by omega) _ _, h3.set1 (by omega) _ _, h4.set1 (by omega) _ _, h5.set1 (by omega) _ _, h6.set1 (by omega) _ _, h7.set1 (by omega) _ _, h8.set1 (by omega) _ _, h9⟩
theorem QW.rest {w wx : World} {k : Nat} {H L D R Q : Int} (v : QW w wx k H L D R Q) (z : Int) : QW w (st4 wx k z) k H L D z Q := by
 obtain ⟨h1, h2, h3, h4, h5, h6, h7, h8, h9⟩ := v
 exact ⟨h1.st4 (by omega) _, h2.other (by omega) _, h3.other (by omega) _, h4.other (by omega) _, h5.other (by omega) _, h6.other (by omega) _, h7.same _, h8.other (by omega) _, h9⟩
theorem QW.quo {w wx : World} {k : Nat} {H L D R Q : Int} (v : QW w wx k H L D R Q) {o : Nat} {x : Value} {Z : Int} (h : At4 (wx.setCell ⟨k + 1, o, none⟩ x) (k + 1) (l0 Z) (l1 Z) (l2 Z) (l3 Z)) : QW w (wx.setCell ⟨k + 1, o, none⟩ x) k H L D R Z := by
 obtain ⟨h1, h2, h3, h4, h5, h6, h7, ⟨_, f, s⟩, h9⟩ := v
 exact ⟨h1.setCell (by show w.heap.size ≤ k + 1; omega) _, h2.set1 (by omega) _ _, h3.set1 (by omega) _ _, h4.set1 (by omega) _ _, h5.set1 (by omega) _ _, h6.set1 (by omega) _ _, h7.set1 (by omega) _ _, ⟨h, fun o => by simp [World.frozen?_setCell, f o], by simpa [World.setCell] using s⟩, h9⟩
theorem even_or {x b : Int} (hx : 0 ≤ x) (hx2 : x < 18446744073709551616) (he : x % 2 = 0) (hb : b = 0 ∨ b = 1) : bits .or .u64 x b = x + b := by
 have := or_join (x / 2) b 1 (by omega) (by omega) (by simp; omega) (by simp; omega)
 simp at this
 rw [show x / 2 * 2 = x from by omega] at this
 exact this

set_option maxHeartbeats 4000000 in
theorem rdiv_no (H L D : Int) (w : World) (hH0 : 0 ≤ H) (hHM : H < MM) (hD0 : 0 ≤ D) (hDM : D < MM) (h : D ≤ H) :
  Calls Try.prog 90 #[nv H, nv L, nv D] w fun e w' => e = .returned (.tuple #[nv 0, nv 0, .bool false]) ∧ Mo w w' := by
 have z0 : nv 0 = .agg #[.int .u64 0, .int .u64 0, .int .u64 0, .int .u64 0] := by simp [nv, l0, l1, l2, l3]
 have hc : decide (cm H D ≥ 0) = true := decide_eq_true (by unfold cm; rw [if_neg (by omega)]; split <;> decide)
 rw [z0]
 go_enter Try.func90, Try.ntmps90
 go_wp2_with fail
 refine (rcmp_n H D _ hH0 hHM hD0 hDM).mono ?_
 rintro e w1 ⟨rfl, hm1⟩
 have M1 : Mo w w1 := Mo.trans (by repeat (first | with_reducible exact Mo.refl _ | with_reducible apply Mo.alloc)) hm1
 have Q1 : At0 w1 (w.heap.size + 1 + 1 + 1) := At0.mo ⟨by simp [At4, go_sem], fun o => by simp [go_sem], by simp <;> omega⟩ hm1
 have Q2 : At0 w1 (w.heap.size + 1 + 1 + 1 + 1) := At0.mo ⟨by simp [At4, go_sem], fun o => by simp [go_sem], by simp <;> omega⟩ hm1
 obtain ⟨⟨a0, a1, a2, a3⟩, fa, sa⟩ := Q1
 obtain ⟨⟨b0, b1, b2, b3⟩, fb, sb⟩ := Q2
 have fa := fun o => fa o
 have fb := fun o => fb o
 go_wp2
 refine bodyPost_ret (v := .tuple #[.agg #[.int .u64 0, .int .u64 0, .int .u64 0, .int .u64 0], .agg #[.int .u64 0, .int .u64 0, .int .u64 0, .int .u64 0], .bool false]) (by simp [results, Try.results90, go_sem, *]) rfl ?_
 refine ⟨rfl, ?_⟩
 repeat (first | with_reducible exact M1 | with_reducible apply Mo.drew | with_reducible apply Mo.drewN | with_reducible refine Mo.setCell ?_ (by simp <;> omega) _)

set_option maxRecDepth 100000 in
set_option maxHeartbeats 4000000 in
theorem rdiv_yes (H L D : Int) (w : World) (hH0 : 0 ≤ H) (hL0 : 0 ≤ L) (hLM : L < MM) (hDM : D < MM) (h : H < D) :
  Calls Try.prog 90 #[nv H, nv L, nv D] w fun e w' => e = .returned (.tuple #[nv ((H * MM + L) / D), nv ((H * MM + L) % D), .bool true]) ∧ Mo w w' := by
 have hc : decide (cm H D ≥ 0) = false := decide_eq_false (by unfold cm; rw [if_pos h]; decide)
 go_enter Try.func90, Try.ntmps90
 go_wp2_with fail
 refine (rcmp_n H D _ hH0 (by omega) (by omega) hDM).mono ?_
 rintro e w1 ⟨rfl, hm1⟩
 have M1 : Mo w w1 := Mo.trans (by repeat (first | with_reducible exact Mo.refl _ | with_reducible apply Mo.alloc)) hm1
 have Q0 : AtN w1 w.heap.size H := AtN.mo ⟨by simp [At4, go_sem], fun o => by simp [go_sem], by simp <;> omega⟩ hm1
 have Q1 : AtN w1 (w.heap.size + 1) L := AtN.mo ⟨by simp [At4, go_sem], fun o => by simp [go_sem], by simp <;> omega⟩ hm1
 have Q2 : AtN w1 (w.heap.size + 1 + 1) D := AtN.mo ⟨by simp [At4, go_sem], fun o => by simp [go_sem], by simp <;> omega⟩ hm1
 have Q3 : At0 w1 (w.heap.size + 1 + 1 + 1) := At0.mo ⟨by simp [At4, go_sem], fun o => by simp [go_sem], by simp <;> omega⟩ hm1
 have Q4 : At0 w1 (w.heap.size + 1 + 1 + 1 + 1) := At0.mo ⟨by simp [At4, go_sem], fun o => by simp [go_sem], by simp <;> omega⟩ hm1
 have hS : QW w ((w1.alloc (.cells #[.int .u64 (l0 H), .int .u64 (l1 H), .int .u64 (l2 H), .int .u64 (l3 H)] 31)).alloc (.cells #[.int .u64 0, .int .u64 0, .int .u64 0, .int .u64 0] 31)) w1.heap.size H L D H 0 := by
  have a : Mo w1 ((w1.alloc (.cells #[.int .u64 (l0 H), .int .u64 (l1 H), .int .u64 (l2 H), .int .u64 (l3 H)] 31)).alloc (.cells #[.int .u64 0, .int .u64 0, .int .u64 0, .int .u64 0] 31)) := ((Mo.refl _).alloc _ _).alloc _ _
  exact ⟨M1.trans a, Q0.mo a, Q1.mo a, Q2.mo a, Q3.mo a, Q4.mo a, (AtN.new _ _).al, AtN.at _ 0 (by simp), Q4.2.2⟩
 have HS : Hid _ := hS
 have k0 := Q4.2.2
 obtain ⟨⟨a0, a1, a2, a3⟩, _, sa⟩ := Q0
 clear hm1 M1 Q1 Q2 Q3 Q4 hS
 go_wp2_with fail
 generalize w1.heap.size = kr at *
 go_loopw [11] (fun s wx => ∃ (j : Nat) (q R : Int), j ≤ 256 ∧ s = .int .i64 ((j : Int) - 1) ∧ 0 ≤ q ∧ q < 2 ^ (256 - j) ∧ 0 ≤ R ∧ R < D ∧ q * D + R = nj H L j ∧ QW w wx kr H L D R (q * 2 ^ j)) (fun s _ => (intOf s + 1).toNat)
 case atStart => exact ⟨256, 0, H, by decide, rfl, by decide, by decide, hH0, h, by rw [nj_top H hL0 hLM]; omega, by rw [Int.zero_mul]; exact HS.out⟩
 case round =>
  obtain ⟨j, q, R, hj, rfl, q0, q1, R0, R1, hI, hv⟩ := hrel
  clear HS
  have HI : Hid _ := hI
  have HQ : Hid _ := q1
  clear hI q1
  rcases Nat.eq_zero_or_pos j with hj0 | hj0
  ·subst hj0
   rw [Int.pow_zero, Int.mul_one] at hv
   have hI := HI.out
   rw [nj_low] at hI
   obtain ⟨x1, x2⟩ := div_end R0 R1 hI
   have X1 : Hid _ := x1
   have X2 : Hid _ := x2
   clear hI x1 x2
   obtain ⟨m, _, _, _, ⟨⟨a0, a1, a2, a3⟩, fa, za⟩, ⟨⟨b0, b1, b2, b3⟩, fb, zb⟩, ⟨⟨c0, c1, c2, c3⟩, _, zc⟩, ⟨⟨d0, d1, d2, d3⟩, _, zd⟩, hk⟩ := hv
   have fa := fun o => fa o
   have fb := fun o => fb o
   go_wp2
   go_region
   all_goals
    go_wp2
    refine bodyPost_ret (v := .tuple #[nv q, nv R, .bool true]) (by simp [results, Try.results90, go_sem, *]) rfl ?_
    refine ⟨by rw [X1.out, X2.out], ?_⟩
    repeat (first | with_reducible exact m | with_reducible apply Mo.drew | with_reducible apply Mo.drewN | with_reducible refine Mo.setCell ?_ (by simp <;> omega) _)
  ·obtain ⟨i, rfl⟩ : ∃ i, j = i + 1 := ⟨j - 1, by omega⟩
   rw [show (((i + 1 : Nat)) : Int) - 1 = (i : Int) from by omega]
   have di : decide ((i : Int) ≥ 0) = true := decide_eq_true (by omega)
   have hv0 := hv
   obtain ⟨hm, n0, n1, n2, n3, n4, ⟨⟨c0, c1, c2, c3⟩, _, s1⟩, n6, hk⟩ := hv0
   clear n0 n1 n2 n3 n4 n6 hm
   go_wp2_with fail
   refine (radd_n R R _ R0 (by omega) R0 (by omega)).mono ?_
   rintro e w2 ⟨rfl, hm2⟩
   have hv2 := hv.mo hm2
   have sk : kr + 1 < w2.heap.size := hv2.2.2.2.2.2.2.2.1.2.2
   have v3 := hv2.mo ((Mo.refl _).alloc #[.int .u64 (l0 (R + R)), .int .u64 (l1 (R + R)), .int .u64 (l2 (R + R)), .int .u64 (l3 (R + R))] 31)
   have n3 := AtN.new w2 (R + R)
   clear c0 c1 c2 c3 s1 hv hm2 hv2
   go_upto_region 9 with fail
   generalize w2.alloc (.cells #[.int .u64 (l0 (R + R)), .int .u64 (l1 (R + R)), .int .u64 (l2 (R + R)), .int .u64 (l3 (R + R))] 31) = w3 at *
   generalize w2.heap.size = kx at *
   obtain ⟨b, hb⟩ : ∃ b, b = L / 2 ^ i % 2 := ⟨_, rfl⟩
   have hb2 : b = 0 ∨ b = 1 := by omega
   have eo : bits .or .u64 (l0 (R + R)) b = l0 (R + R + b) := by
    rw [even_or (by unfold l0; omega) (by unfold l0; omega) (by unfold l0; omega) hb2]
    unfold l0; omega
   have e1 : l1 (R + R + b) = l1 (R + R) := by unfold l1; omega
   have e2 : l2 (R + R + b) = l2 (R + R) := by unfold l2; omega
   have e3 : l3 (R + R + b) = l3 (R + R) := by unfold l3; omega
   have HB : Hid _ := hb
   have E1 : Hid _ := e1
   have E2 : Hid _ := e2
   have E3 : Hid _ := e3
   clear e1 e2 e3
   go_cut [] from 31 to 37 (fun wx => QW w wx kr H L D R (q * 2 ^ (i + 1)) ∧ AtN wx kx (R + R + b))
   case first =>
    have v3z := v3
    obtain ⟨_, _, ⟨⟨c0, c1, c2, c3⟩, _, s1⟩, _⟩ := v3z
    have n3z := n3
    obtain ⟨⟨d0, d1, d2, d3⟩, df, sx⟩ := n3z
    have df := fun o => df o
    clear hb
    go_region_with
     (first | (go_at_call 105; refine (bit_any L i _ hL0 hLM (by omega)).mono ?_; rintro e w4 ⟨rfl, hm4⟩; rw [← HB.out]; have m4 : Mo w3 w4 := Mo.trans (by repeat (first | with_reducible exact Mo.refl _ | with_reducible apply Mo.drew | with_reducible apply Mo.alloc)) hm4; have v4 := v3.mo m4; have n4 := n3.mo m4; have n4z := n4; obtain ⟨⟨f0, f1, f2, f3⟩, ff, sf⟩ := n4z; have ff := fun o => ff o))
    all_goals
     go_wp2
     go_meet
     case rel =>
      refine ⟨?_, ?_⟩
      ·exact v4.other sk _ _
      ·refine ⟨?_, fun o => ?_, ?_⟩
       ·rw [E1.out, E2.out, E3.out]
        simp [At4, go_sem, *]
       ·simp [World.frozen?_setCell, ff o]
       ·simpa [World.setCell] using sf
   case rest =>
    clear v3 n3 eo E1 E2 E3
    obtain ⟨v, n⟩ := hcut
    obtain ⟨T, hT⟩ : ∃ T, T = R + R + b := ⟨_, rfl⟩
    rw [← hT] at n
    have T0 : 0 ≤ T := by omega
    have T1 : T < D + D := by omega
    have HT : Hid _ := hT
    go_upto_region 10 with fail
    generalize hO : ov (R + R) = o at *
    have HO : Hid _ := hO
    clear hO
    go_cut [44] from 38 to 44 (fun s44 wx => s44 = .bool (decide (D ≤ T)) ∧ QW w wx kr H L D R (q * 2 ^ (i + 1)) ∧ AtN wx kx T)
    case first =>
     cases o
     case true =>
      have ho : MM ≤ R + R := of_decide_eq_true HO.out
      have o2 : Hid (decide (D ≤ T) = true) := decide_eq_true (by omega)
      clear hT hb ho
      go_wp2
      go_meet
      case rel => exact ⟨by rw [o2.out], v, n⟩
     case false =>
      have ho : ¬ MM ≤ R + R := of_decide_eq_false HO.out
      have tm : T < MM := by unfold MM at *; omega
      have o2 : Hid (decide (cm T D ≥ 0) = decide (D ≤ T)) := by
       show _ = _
       unfold cm
       by_cases hx : T < D
       ·rw [if_pos hx, decide_eq_false (by decide), decide_eq_false (by omega)]
       ·rw [if_neg hx, decide_eq_true (p := D ≤ T) (by omega)]
        split <;> decide
      clear hT hb ho
      have vz := v
      have nz := n
      obtain ⟨_, _, _, ⟨⟨c0, c1, c2, c3⟩, _, s1⟩, _⟩ := vz
      obtain ⟨⟨d0, d1, d2, d3⟩, _, sx⟩ := nz
      go_wp2_with fail
      refine (rcmp_n T D _ T0 tm (by omega) hDM).mono ?_
      rintro e w5 ⟨rfl, hm5⟩
      have v5 := v.mo hm5
      have n5 := n.mo hm5
      go_wp2
      go_meet
      case rel => exact ⟨by rw [o2.out], v5, n5⟩
    case rest =>
     clear v n hT hb
     obtain ⟨rfl, v, n⟩ := hcut
     have vz := v
     have nz := n
     obtain ⟨_, _, _, ⟨⟨c0, c1, c2, c3⟩, _, s1⟩, _⟩ := vz
     obtain ⟨⟨d0, d1, d2, d3⟩, df, sx⟩ := nz
     generalize hdd : decide (D ≤ T) = dd at *
     have HD : Hid _ := hdd
     clear hdd
     cases dd
     case true =>
      have hsub : ∀ wx, Calls Try.prog 94 #[nv T, nv D] wx fun e w' => e = .returned (.tuple #[nv (T - D), .bool (un (T % MM - D))]) ∧ Mo wx w' := by
       intro wx
       have hh := rsub_n (T % MM) D wx (Int.emod_nonneg _ (by decide)) (Int.emod_lt_of_pos _ (by decide)) (by omega) hDM
       rw [nv_mod] at hh
       have e : nv (T % MM - D) = nv (T - D) := by rw [← nv_mod (T % MM - D), ← nv_mod (T - D), Int.emod_sub_emod]
       rw [e] at hh
       exact hh
      clear df
      go_wp2_with fail
      refine (hsub _).mono ?_
      rintro e w6 ⟨rfl, hm6⟩
      have v6 := v.mo hm6
      have n6 := n.mo hm6
      clear c0 c1 c2 c3 s1 d0 d1 d2 d3 sx v n hsub hm6
      have v7 : QW w (st4 w6 kx (T - D)) kr H L D R (q * 2 ^ (i + 1)) := (((v6.other sk _ _).other sk _ _).other sk _ _).other sk _ _
      have n7 : AtN (st4 w6 kx (T - D)) kx (T - D) := n6.same _
      unfold st4 at v7 n7
      obtain ⟨⟨d0, d1, d2, d3⟩, df, sx⟩ := n6
      have df := fun o => df o
      clear v6
      go_upto_region 12 with fail
      generalize (((w6.setCell ⟨kx, 0, none⟩ (.int .u64 (l0 (T - D)))).setCell ⟨kx, 1, none⟩ (.int .u64 (l1 (T - D)))).setCell ⟨kx, 2, none⟩ (.int .u64 (l2 (T - D)))).setCell ⟨kx, 3, none⟩ (.int .u64 (l3 (T - D))) = w8 at *
      clear d0 d1 d2 d3 df sx
      obtain ⟨r, hr⟩ : ∃ r, r = i % 64 := ⟨_, rfl⟩
      have hbs := bit_set (by omega) q0 (by have := HQ.out; rwa [show 256 - (i + 1) = 255 - i from by omega] at this) r hr
      have r64 : r < 64 := by omega
      have er : (i : Int) % 64 = (r : Int) := by omega
      have wp : IntKind.u64.wrap (2 ^ r) = 2 ^ r := by
       rw [IntKind.wrap_u64]
       have h1 : (0 : Int) < 2 ^ r := Int.pow_pos (by decide)
       have h2 : (2 : Int) ^ r < 2 ^ 64 := by
        have := Nat.pow_lt_pow_right (a := 2) (by decide) r64
        rw [← cast_pow, ← cast_pow]
        omega
       exact Int.emod_eq_of_lt (by omega) h2
      clear hr
      obtain ⟨Q, hQ⟩ : ∃ Q, Q = q * 2 ^ (i + 1) := ⟨_, rfl⟩
      obtain ⟨Z, hZ⟩ : ∃ Z, Z = Q + 2 ^ i := ⟨_, rfl⟩
      rw [← hQ, ← hZ] at hbs
      rw [← hQ] at v7
      have HQ2 : Hid _ := hQ
      have HZ : Hid _ := hZ
      clear hQ hZ
      go_cut [] from 51 to 59 (fun wx => QW w wx kr H L D R Z ∧ AtN wx kx (T - D))
      case first =>
       have vz := v7
       obtain ⟨_, _, _, _, _, _, _, ⟨⟨c0, c1, c2, c3⟩, cf, s1⟩, _⟩ := vz
       have cf := fun o => cf o
       rcases hbs with ⟨hm, g0, g1, g2, g3⟩ | ⟨hm, g0, g1, g2, g3⟩ | ⟨hm, g0, g1, g2, g3⟩ | ⟨hm, g0, g1, g2, g3⟩
       ·have hq : (i : Int) / 64 = 0 := by omega
        have HG1 : Hid _ := g1
        have HG2 : Hid _ := g2
        have HG3 : Hid _ := g3
        clear g1 g2 g3 hm
        go_region
        all_goals
         go_wp2
         go_meet
         case rel =>
          refine ⟨(v7.quo ?_).mo (Mo.refl _).drew, (n7.set1 (by omega) _ _).mo (Mo.refl _).drew⟩
          rw [HG1.out, HG2.out, HG3.out]
          simp [At4, go_sem, *]
       ·have hq : (i : Int) / 64 = 1 := by omega
        have HG1 : Hid _ := g1
        have HG2 : Hid _ := g2
        have HG3 : Hid _ := g3
        clear g1 g2 g3 hm
        go_region
        all_goals
         go_wp2
         go_meet
         case rel =>
          refine ⟨(v7.quo ?_).mo (Mo.refl _).drew, (n7.set1 (by omega) _ _).mo (Mo.refl _).drew⟩
          rw [HG1.out, HG2.out, HG3.out]
          simp [At4, go_sem, *]
       ·have hq : (i : Int) / 64 = 2 := by omega
        have HG1 : Hid _ := g1
        have HG2 : Hid _ := g2
        have HG3 : Hid _ := g3
        clear g1 g2 g3 hm
        go_region
        all_goals
         go_wp2
         go_meet
         case rel =>
          refine ⟨(v7.quo ?_).mo (Mo.refl _).drew, (n7.set1 (by omega) _ _).mo (Mo.refl _).drew⟩
          rw [HG1.out, HG2.out, HG3.out]
          simp [At4, go_sem, *]
       ·have hq : (i : Int) / 64 = 3 := by omega
        have HG1 : Hid _ := g1
        have HG2 : Hid _ := g2
        have HG3 : Hid _ := g3
        clear g1 g2 g3 hm
        go_region
        all_goals
         go_wp2
         go_meet
         case rel =>
          refine ⟨(v7.quo ?_).mo (Mo.refl _).drew, (n7.set1 (by omega) _ _).mo (Mo.refl _).drew⟩
          rw [HG1.out, HG2.out, HG3.out]
          simp [At4, go_sem, *]
      case rest =>
       clear v7 n7
       obtain ⟨v7, n7⟩ := hcut
       have v8 := v7.rest (T - D)
       unfold st4 at v8
       obtain ⟨⟨d0, d1, d2, d3⟩, _, sx⟩ := n7
       obtain ⟨_, _, _, _, _, _, ⟨⟨c0, c1, c2, c3⟩, cf, s1⟩, _, _⟩ := v7
       have cf := fun o => cf o
       clear hbs
       go_wp2
       go_roundw
       case rel =>
        have hI := div_yes_step (by omega) HI.out
        have hb := HB.out
        have hT := HT.out
        rw [← hb, show 2 * R + b = T from by omega] at hI
        have hq1 : q < 2 ^ (255 - i) := by have := HQ.out; rwa [show 256 - (i + 1) = 255 - i from by omega] at this
        have hge := of_decide_eq_true HD.out
        refine ⟨i, 2 * q + 1, T - D, by omega, by go_num, by omega, (q_no (by omega) hq1).2, by omega, by omega, hI, ?_⟩
        rw [q_pow1, ← HQ2.out, ← HZ.out]
        exact v8
       case measure => simp [intOf]
     case false =>
      have v8 := v.rest T
      unfold st4 at v8
      obtain ⟨_, _, _, _, _, _, ⟨⟨b0, b1, b2, b3⟩, cf, s2⟩, _, _⟩ := v
      have cf := fun o => cf o
      clear df
      go_wp2
      go_roundw
      case rel =>
       have hI := div_no_step (by omega) HI.out
       have hb := HB.out
       have hT := HT.out
       rw [← hb, show 2 * R + b = T from by omega] at hI
       have hq1 : q < 2 ^ (255 - i) := by have := HQ.out; rwa [show 256 - (i + 1) = 255 - i from by omega] at this
       have hge := of_decide_eq_false HD.out
       refine ⟨i, 2 * q, T, by omega, by go_num, by omega, (q_no (by omega) hq1).1, by omega, by omega, hI, ?_⟩
       rw [q_pow]
       exact v8
      case measure => simp [intOf]
theorem rdiv_n (H L D : Int) (w : World) (hH0 : 0 ≤ H) (hHM : H < MM) (hL0 : 0 ≤ L) (hLM : L < MM) (hD0 : 0 ≤ D) (hDM : D < MM) :
  Calls Try.prog 90 #[nv H, nv L, nv D] w fun e w' => e = .returned (.tuple #[nv (dq H L D), nv (dr H L D), .bool (dok H D)]) ∧ Mo w w' := by
 unfold dq dr dok
 by_cases h : D ≤ H
 ·rw [if_pos h, if_pos h, decide_eq_false (by omega)]
  exact rdiv_no H L D w hH0 hHM hD0 hDM h
 ·rw [if_neg h, if_neg h, decide_eq_true (by omega)]
  exact rdiv_yes H L D w hH0 hL0 hLM hDM (by omega)
end Go.Proofs.Ythehmmhnacomkaa

namespace Go.Proofs.Ythehmmhnacomkaa
open Go.RowKit
theorem nea_run {ty : TypeId} {a b : Array Value} {r : Bool} {w : World} (hg : Try.prog.eqGuardType Try.prog.depth ty = false) (q : (Op.equalIn 10000 ty (.agg a) (.agg b)).run Try.prog w = .ok r w) (x y : Operand) :
  (do eqGuard .neq ty x y (.agg a) (.agg b); binOp .neq ty (.agg a) (.agg b)).run Try.prog w = .ok (.bool (!r)) w := by
 have e : binOp .neq ty (.agg a) (.agg b) = (do pure (.bool (!(← Op.equalIn 10000 ty (.agg a) (.agg b))))) := rfl
 rw [Sem.run_bind, guard_run x y hg, e, Result.andThen_ok, Sem.run_bind, q]; rfl
theorem gt24 : Try.prog.eqGuardType Try.prog.depth 31 = false := by kernel_rfl
theorem eqn_run {n0 n1 n2 n3 m0 m1 m2 m3 : Int} {r : Bool} (h : (n0 == m0 && (n1 == m1 && (n2 == m2 && n3 == m3))) = r) (x y : Operand) (w : World) :
  (do eqGuard .eql 31 x y (.agg #[.int .u64 n0, .int .u64 n1, .int .u64 n2, .int .u64 n3]) (.agg #[.int .u64 m0, .int .u64 m1, .int .u64 m2, .int .u64 m3]); binOp .eql 31 (.agg #[.int .u64 n0, .int .u64 n1, .int .u64 n2, .int .u64 n3]) (.agg #[.int .u64 m0, .int .u64 m1, .int .u64 m2, .int .u64 m3])).run Try.prog w = .ok (.bool r) w :=
 eqa_run gt24 (by rw [← h]; exact eq4 n0 n1 n2 n3 m0 m1 m2 m3 w) x y
theorem nen_run {n0 n1 n2 n3 m0 m1 m2 m3 : Int} {r : Bool} (h : (n0 == m0 && (n1 == m1 && (n2 == m2 && n3 == m3))) = r) (x y : Operand) (w : World) :
  (do eqGuard .neq 31 x y (.agg #[.int .u64 n0, .int .u64 n1, .int .u64 n2, .int .u64 n3]) (.agg #[.int .u64 m0, .int .u64 m1, .int .u64 m2, .int .u64 m3]); binOp .neq 31 (.agg #[.int .u64 n0, .int .u64 n1, .int .u64 n2, .int .u64 n3]) (.agg #[.int .u64 m0, .int .u64 m1, .int .u64 m2, .int .u64 m3])).run Try.prog w = .ok (.bool (!r)) w :=
 nea_run gt24 (by rw [← h]; exact eq4 n0 n1 n2 n3 m0 m1 m2 m3 w) x y
end Go.Proofs.Ythehmmhnacomkaa

namespace Go.Proofs.Ythehmmhnacomkaa
open Go.RowKit
abbrev nvli (n : Int) : List Value := [.int .u64 (l0 n), .int .u64 (l1 n), .int .u64 (l2 n), .int .u64 (l3 n)]
abbrev nvar (n : Int) : Array Value := #[.int .u64 (l0 n), .int .u64 (l1 n), .int .u64 (l2 n), .int .u64 (l3 n)]
end Go.Proofs.Ythehmmhnacomkaa

namespace Go.Proofs.Ythehmmhnacomkaa
open Go.RowKit
set_option maxHeartbeats 4000000 in
theorem rsign_n (b : Bool) (n s : Int) (w : World) (hn0 : 0 ≤ n) (hn : n < MM) : Calls Try.prog 60 #[dc b n s] w fun e w' => e = .returned (.int .i64 (sg b n)) ∧ Mo w w' := by
 have q4 := eq4
 have z4 := zb hn0 hn
 cases hz : decide (n = 0) <;> cases hb : b
 all_goals
  rw [hz] at z4
  have hz2 : Hid _ := hz
  clear hz
  go_enter Try.func60, Try.ntmps60
  go_wp2
  go_ret
  exact ⟨by have := hz2.out; simp at this; simp [sg, this], (Mo.refl _).alloc _ _⟩
theorem may_ok (s p : Int) (w : World) (h : sc s = true) (hp1 : 1 ≤ p) (hp5 : p ≤ 5) : Calls Try.prog 76 #[.int .i64 s, .int .i64 p] w fun e w' => e = .returned (.int .i64 0) ∧ Mo w w' := by
 obtain ⟨h1, h2⟩ := sc_iff.1 h
 clear h
 go_enter Try.func76, Try.ntmps76
 go_wp2
 go_ret
 exact ⟨rfl, Mo.refl _⟩
end Go.Proofs.Ythehmmhnacomkaa

namespace Go.Proofs.Ythehmmhnacomkaa
open Go.RowKit
theorem radd_m (A B : Int) (w : World) : Calls Try.prog 93 #[nv A, nv B] w fun e w' => e = .returned (.tuple #[nv (A % MM + B % MM), .bool (ov (A % MM + B % MM))]) ∧ Mo w w' := by
 have h := radd_any (l0 A) (l1 A) (l2 A) (l3 A) (l0 B) (l1 B) (l2 B) (l3 B) w (u4_lb A) (u4_lb B)
 rw [vl_nv, vl_nv] at h
 exact h
theorem rsub_m (A B : Int) (w : World) : Calls Try.prog 94 #[nv A, nv B] w fun e w' => e = .returned (.tuple #[nv (A % MM - B % MM), .bool (un (A % MM - B % MM))]) ∧ Mo w w' := by
 have h := rsub_n (A % MM) (B % MM) w (Int.emod_nonneg _ (by decide)) (Int.emod_lt_of_pos _ (by decide)) (Int.emod_nonneg _ (by decide)) (Int.emod_lt_of_pos _ (by decide))
 rw [nv_mod A, nv_mod B] at h
 exact h
set_option maxHeartbeats 4000000 in
theorem plus_n (X Y : Int) (w : World) (hX0 : 0 ≤ X) (hX : X < MM * MM) (hY0 : 0 ≤ Y) (hY : Y < MM * MM) :
  Calls Try.prog 79 #[dw X, dw Y] w fun e w' => e = .returned (dw (X + Y)) ∧ Mo w w' := by
 obtain ⟨f1, f2⟩ := dsum hX0 hX hY0 hY
 have F1 : Hid _ := f1
 clear f1
 go_enter Try.func79, Try.ntmps79
 go_wp2_with fail
 refine (radd_m X Y _).mono ?_
 rintro e w1 ⟨rfl, hm1⟩
 have m : Mo w w1 := Mo.trans (by repeat (first | with_reducible exact Mo.refl _ | with_reducible apply Mo.drew | with_reducible apply Mo.alloc)) hm1
 have M := m
 have Qx : AtW w1 (w.heap.size) X := AtW.mo ⟨by simp [go_sem], fun o => by simp [go_sem], by simp <;> omega⟩ hm1
 have Qy : AtW w1 (w.heap.size + 1) Y := AtW.mo ⟨by simp [go_sem], fun o => by simp [go_sem], by simp <;> omega⟩ hm1
 have Qr : AtW w1 (w.heap.size + 1 + 1) 0 := AtW.mo ⟨by simp [go_sem, zl0, zl1, zl2, zl3], fun o => by simp [go_sem], by simp <;> omega⟩ hm1
 clear hm1 m
 have Ox := Qx
 obtain ⟨⟨cx0, cx1, cx2, cx3, cx4, cx5, cx6, cx7⟩, fx, sx⟩ := Ox
 have fx := fun o => fx o
 have sxx : w.heap.size < w1.heap.size + 1 := by omega
 have syx : w.heap.size < w1.heap.size + 1 + 1 := by omega
 have Oy := Qy
 obtain ⟨⟨cy0, cy1, cy2, cy3, cy4, cy5, cy6, cy7⟩, fy, sy⟩ := Oy
 have fy := fun o => fy o
 have sxy : w.heap.size + 1 < w1.heap.size + 1 := by omega
 have syy : w.heap.size + 1 < w1.heap.size + 1 + 1 := by omega
 have Or := Qr
 obtain ⟨⟨cr0, cr1, cr2, cr3, cr4, cr5, cr6, cr7⟩, fr, sr⟩ := Or
 have fr := fun o => fr o
 have sxr : w.heap.size + 1 + 1 < w1.heap.size + 1 := by omega
 have syr : w.heap.size + 1 + 1 < w1.heap.size + 1 + 1 := by omega
 obtain ⟨lo, hlo⟩ : ∃ lo, lo = X % MM + Y % MM := ⟨_, rfl⟩
 rw [← hlo] at f2 F1 ⊢
 have HL : Hid _ := hlo
 clear hlo
 go_wp2_with fail
 refine (radd_m (X / MM) (Y / MM) _).mono ?_
 rintro e w2 ⟨rfl, hm2⟩
 have m : Mo w1 w2 := Mo.trans (by repeat (first | with_reducible exact Mo.refl _ | with_reducible apply Mo.drew | with_reducible apply Mo.alloc)) hm2
 clear cx0 cx1 cx2 cx3 cx4 cx5 cx6 cx7 fx sx sxx syx cy0 cy1 cy2 cy3 cy4 cy5 cy6 cy7 fy sy sxy syy cr0 cr1 cr2 cr3 cr4 cr5 cr6 cr7 fr sr sxr syr
 have Qx := Qx.mo m
 have Qy := Qy.mo m
 have Qr := Qr.mo m
 have M := M.trans m
 have Ql : AtN w2 (w1.heap.size) lo := AtN.mo ⟨by simp [At4, go_sem], fun o => by simp [go_sem], by simp <;> omega⟩ hm2
 clear hm2 m
 have Ox := Qx
 obtain ⟨⟨cx0, cx1, cx2, cx3, cx4, cx5, cx6, cx7⟩, fx, sx⟩ := Ox
 have fx := fun o => fx o
 have sxx : w.heap.size < w2.heap.size + 1 := by omega
 have syx : w.heap.size < w2.heap.size + 1 + 1 := by omega
 have Oy := Qy
 obtain ⟨⟨cy0, cy1, cy2, cy3, cy4, cy5, cy6, cy7⟩, fy, sy⟩ := Oy
 have fy := fun o => fy o
 have sxy : w.heap.size + 1 < w2.heap.size + 1 := by omega
 have syy : w.heap.size + 1 < w2.heap.size + 1 + 1 := by omega
 have Or := Qr
 obtain ⟨⟨cr0, cr1, cr2, cr3, cr4, cr5, cr6, cr7⟩, fr, sr⟩ := Or
 have fr := fun o => fr o
 have sxr : w.heap.size + 1 + 1 < w2.heap.size + 1 := by omega
 have syr : w.heap.size + 1 + 1 < w2.heap.size + 1 + 1 := by omega
 have Ol := Ql
 obtain ⟨⟨cl0, cl1, cl2, cl3⟩, fl, sl⟩ := Ol
 have fl := fun o => fl o
 have sxl : w1.heap.size < w2.heap.size + 1 := by omega
 have syl : w1.heap.size < w2.heap.size + 1 + 1 := by omega
 obtain ⟨hi, hhi⟩ : ∃ hi, hi = X / MM % MM + Y / MM % MM := ⟨_, rfl⟩
 rw [← hhi] at f2 ⊢
 have HH : Hid _ := hhi
 clear hhi
 rcases f2 with ⟨g1, g2⟩ | ⟨g1, g2⟩
 ·have G2 : Hid _ := g2
  clear g2
  have a : Mo w2 ((w2).alloc (.cells #[.int .u64 (l0 (hi)), .int .u64 (l1 (hi)), .int .u64 (l2 (hi)), .int .u64 (l3 (hi))] 31)) := by repeat (first | with_reducible exact Mo.refl _ | with_reducible apply Mo.alloc)
  have zW0x := sx
  have zW0y := sy
  have zW0r := sr
  have zW0l := sl
  clear cx0 cx1 cx2 cx3 cx4 cx5 cx6 cx7 fx sx sxx syx cy0 cy1 cy2 cy3 cy4 cy5 cy6 cy7 fy sy sxy syy cr0 cr1 cr2 cr3 cr4 cr5 cr6 cr7 fr sr sxr syr cl0 cl1 cl2 cl3 fl sl sxl syl
  have Qx := Qx.mo a
  have Qy := Qy.mo a
  have Qr := Qr.mo a
  have Ql := Ql.mo a
  have M := M.trans a
  have Qh : AtN ((w2).alloc (.cells #[.int .u64 (l0 (hi)), .int .u64 (l1 (hi)), .int .u64 (l2 (hi)), .int .u64 (l3 (hi))] 31)) (w2.heap.size) hi := ⟨by simp [At4, go_sem], fun o => by simp [go_sem], by simp <;> omega⟩
  clear a
  go_upto_region 5 with fail
  generalize ((w2).alloc (.cells #[.int .u64 (l0 (hi)), .int .u64 (l1 (hi)), .int .u64 (l2 (hi)), .int .u64 (l3 (hi))] 31)) = W0 at *
  have Ox := Qx
  obtain ⟨⟨cx0, cx1, cx2, cx3, cx4, cx5, cx6, cx7⟩, fx, sx⟩ := Ox
  have fx := fun o => fx o
  have sxx : w.heap.size < W0.heap.size + 1 := by omega
  have syx : w.heap.size < W0.heap.size + 1 + 1 := by omega
  have Oy := Qy
  obtain ⟨⟨cy0, cy1, cy2, cy3, cy4, cy5, cy6, cy7⟩, fy, sy⟩ := Oy
  have fy := fun o => fy o
  have sxy : w.heap.size + 1 < W0.heap.size + 1 := by omega
  have syy : w.heap.size + 1 < W0.heap.size + 1 + 1 := by omega
  have Or := Qr
  obtain ⟨⟨cr0, cr1, cr2, cr3, cr4, cr5, cr6, cr7⟩, fr, sr⟩ := Or
  have fr := fun o => fr o
  have sxr : w.heap.size + 1 + 1 < W0.heap.size + 1 := by omega
  have syr : w.heap.size + 1 + 1 < W0.heap.size + 1 + 1 := by omega
  have Ol := Ql
  obtain ⟨⟨cl0, cl1, cl2, cl3⟩, fl, sl⟩ := Ol
  have fl := fun o => fl o
  have sxl : w1.heap.size < W0.heap.size + 1 := by omega
  have syl : w1.heap.size < W0.heap.size + 1 + 1 := by omega
  have Oh := Qh
  obtain ⟨⟨ch0, ch1, ch2, ch3⟩, fh, sh⟩ := Oh
  have fh := fun o => fh o
  have sxh : w2.heap.size < W0.heap.size + 1 := by omega
  have syh : w2.heap.size < W0.heap.size + 1 + 1 := by omega
  go_wp2
  refine bodyPost_ret (v := .agg #[.int .u64 (l0 (hi)), .int .u64 (l1 (hi)), .int .u64 (l2 (hi)), .int .u64 (l3 (hi)), .int .u64 (l0 (lo)), .int .u64 (l1 (lo)), .int .u64 (l2 (lo)), .int .u64 (l3 (lo))]) (by simp [results, Try.results79, go_sem, *]) rfl ?_
  refine ⟨by rw [dw_of78 G2.out F1.out], ?_⟩
  repeat (first | with_reducible exact M | with_reducible exact Mo.refl _ | with_reducible apply Mo.drew | with_reducible apply Mo.drewN | with_reducible apply Mo.alloc | with_reducible refine Mo.setCell ?_ (by simp <;> omega) _)
 ·have G2 : Hid _ := g2
  clear g2
  have a : Mo w2 ((w2).alloc (.cells #[.int .u64 (l0 (hi)), .int .u64 (l1 (hi)), .int .u64 (l2 (hi)), .int .u64 (l3 (hi))] 31)) := by repeat (first | with_reducible exact Mo.refl _ | with_reducible apply Mo.alloc)
  have zW0x := sx
  have zW0y := sy
  have zW0r := sr
  have zW0l := sl
  clear cx0 cx1 cx2 cx3 cx4 cx5 cx6 cx7 fx sx sxx syx cy0 cy1 cy2 cy3 cy4 cy5 cy6 cy7 fy sy sxy syy cr0 cr1 cr2 cr3 cr4 cr5 cr6 cr7 fr sr sxr syr cl0 cl1 cl2 cl3 fl sl sxl syl
  have Qx := Qx.mo a
  have Qy := Qy.mo a
  have Qr := Qr.mo a
  have Ql := Ql.mo a
  have M := M.trans a
  have Qh : AtN ((w2).alloc (.cells #[.int .u64 (l0 (hi)), .int .u64 (l1 (hi)), .int .u64 (l2 (hi)), .int .u64 (l3 (hi))] 31)) (w2.heap.size) hi := ⟨by simp [At4, go_sem], fun o => by simp [go_sem], by simp <;> omega⟩
  clear a
  go_upto_region 4 with fail
  generalize ((w2).alloc (.cells #[.int .u64 (l0 (hi)), .int .u64 (l1 (hi)), .int .u64 (l2 (hi)), .int .u64 (l3 (hi))] 31)) = W0 at *
  have Ox := Qx
  obtain ⟨⟨cx0, cx1, cx2, cx3, cx4, cx5, cx6, cx7⟩, fx, sx⟩ := Ox
  have fx := fun o => fx o
  have sxx : w.heap.size < W0.heap.size + 1 := by omega
  have syx : w.heap.size < W0.heap.size + 1 + 1 := by omega
  have Oy := Qy
  obtain ⟨⟨cy0, cy1, cy2, cy3, cy4, cy5, cy6, cy7⟩, fy, sy⟩ := Oy
  have fy := fun o => fy o
  have sxy : w.heap.size + 1 < W0.heap.size + 1 := by omega
  have syy : w.heap.size + 1 < W0.heap.size + 1 + 1 := by omega
  have Or := Qr
  obtain ⟨⟨cr0, cr1, cr2, cr3, cr4, cr5, cr6, cr7⟩, fr, sr⟩ := Or
  have fr := fun o => fr o
  have sxr : w.heap.size + 1 + 1 < W0.heap.size + 1 := by omega
  have syr : w.heap.size + 1 + 1 < W0.heap.size + 1 + 1 := by omega
  have Ol := Ql
  obtain ⟨⟨cl0, cl1, cl2, cl3⟩, fl, sl⟩ := Ol
  have fl := fun o => fl o
  have sxl : w1.heap.size < W0.heap.size + 1 := by omega
  have syl : w1.heap.size < W0.heap.size + 1 + 1 := by omega
  have Oh := Qh
  obtain ⟨⟨ch0, ch1, ch2, ch3⟩, fh, sh⟩ := Oh
  have fh := fun o => fh o
  have sxh : w2.heap.size < W0.heap.size + 1 := by omega
  have syh : w2.heap.size < W0.heap.size + 1 + 1 := by omega
  go_cut [] from 26 to 31 (fun wx => Mo w wx ∧ AtN wx w2.heap.size (hi % MM + 1 % MM) ∧ AtN wx w1.heap.size lo ∧ AtW wx (w.heap.size + 1 + 1) 0)
  case first =>
   go_region_with
    (first | (go_at_call 64; refine (from34_any 1 _ ⟨by decide, by decide⟩).mono ?_; rintro e w5 ⟨rfl, hm5⟩; have m5 : Mo W0 w5 := Mo.trans (by repeat (first | with_reducible exact Mo.refl _ | with_reducible apply Mo.drew | with_reducible apply Mo.alloc)) hm5; obtain ⟨⟨x0, x1, x2, x3⟩, _, xs⟩ := Qh.mo m5) | (go_at_call 93; refine (radd_m hi 1 _).mono ?_; rintro e w6 ⟨rfl, hm6⟩; have m6 : Mo w5 w6 := Mo.trans (by repeat (first | with_reducible exact Mo.refl _ | with_reducible apply Mo.drew | with_reducible apply Mo.alloc)) hm6; have m7 := m5.trans m6; obtain ⟨⟨z0, z1, z2, z3⟩, zf, zs⟩ := Qh.mo m7; have zf := fun o => zf o))
   all_goals
    go_wp2
    go_meet
    case rel => exact ⟨(M.trans m7).st4 (by omega) _, (Qh.mo m7).same _, (Ql.mo m7).other (by omega) _, ((((Qr.mo m7).set178 (by omega) _ _).set178 (by omega) _ _).set178 (by omega) _ _).set178 (by omega) _ _⟩
  case rest =>
   clear cx0 cx1 cx2 cx3 cx4 cx5 cx6 cx7 fx sx sxx syx cy0 cy1 cy2 cy3 cy4 cy5 cy6 cy7 fy sy sxy syy cr0 cr1 cr2 cr3 cr4 cr5 cr6 cr7 fr sr sxr syr cl0 cl1 cl2 cl3 fl sl sxl syl ch0 ch1 ch2 ch3 fh sh sxh syh Qx Qy Qr Ql Qh M
   obtain ⟨M, Qh, Ql, Qr⟩ := hcut
   obtain ⟨⟨a0, a1, a2, a3⟩, _, sa⟩ := Qh
   obtain ⟨⟨b0, b1, b2, b3⟩, _, sb⟩ := Ql
   obtain ⟨⟨c0, c1, c2, c3, c4, c5, c6, c7⟩, fc, sc⟩ := Qr
   have fc := fun o => fc o
   go_wp2
   refine bodyPost_ret (v := .agg #[.int .u64 (l0 (hi % MM + 1 % MM)), .int .u64 (l1 (hi % MM + 1 % MM)), .int .u64 (l2 (hi % MM + 1 % MM)), .int .u64 (l3 (hi % MM + 1 % MM)), .int .u64 (l0 (lo)), .int .u64 (l1 (lo)), .int .u64 (l2 (lo)), .int .u64 (l3 (lo))]) (by simp [results, Try.results79, go_sem, *]) rfl ?_
   refine ⟨by rw [dw_of78 G2.out F1.out], ?_⟩
   repeat (first | with_reducible exact M | with_reducible exact Mo.refl _ | with_reducible apply Mo.drew | with_reducible apply Mo.drewN | with_reducible apply Mo.alloc | with_reducible refine Mo.setCell ?_ (by simp <;> omega) _)
set_option maxHeartbeats 4000000 in
theorem minus_n (X Y : Int) (w : World) (hX0 : 0 ≤ X) (hX : X < MM * MM) (hY0 : 0 ≤ Y) (hY : Y < MM * MM) :
  Calls Try.prog 80 #[dw X, dw Y] w fun e w' => e = .returned (dw (X - Y)) ∧ Mo w w' := by
 obtain ⟨f1, f2⟩ := ddif hX0 hX hY0 hY
 have F1 : Hid _ := f1
 clear f1
 go_enter Try.func80, Try.ntmps80
 go_wp2_with fail
 refine (rsub_m X Y _).mono ?_
 rintro e w1 ⟨rfl, hm1⟩
 have m : Mo w w1 := Mo.trans (by repeat (first | with_reducible exact Mo.refl _ | with_reducible apply Mo.drew | with_reducible apply Mo.alloc)) hm1
 have M := m
 have Qx : AtW w1 (w.heap.size) X := AtW.mo ⟨by simp [go_sem], fun o => by simp [go_sem], by simp <;> omega⟩ hm1
 have Qy : AtW w1 (w.heap.size + 1) Y := AtW.mo ⟨by simp [go_sem], fun o => by simp [go_sem], by simp <;> omega⟩ hm1
 have Qr : AtW w1 (w.heap.size + 1 + 1) 0 := AtW.mo ⟨by simp [go_sem, zl0, zl1, zl2, zl3], fun o => by simp [go_sem], by simp <;> omega⟩ hm1
 clear hm1 m
 have Ox := Qx
 obtain ⟨⟨cx0, cx1, cx2, cx3, cx4, cx5, cx6, cx7⟩, fx, sx⟩ := Ox
 have fx := fun o => fx o
 have sxx : w.heap.size < w1.heap.size + 1 := by omega
 have syx : w.heap.size < w1.heap.size + 1 + 1 := by omega
 have Oy := Qy
 obtain ⟨⟨cy0, cy1, cy2, cy3, cy4, cy5, cy6, cy7⟩, fy, sy⟩ := Oy
 have fy := fun o => fy o
 have sxy : w.heap.size + 1 < w1.heap.size + 1 := by omega
 have syy : w.heap.size + 1 < w1.heap.size + 1 + 1 := by omega
 have Or := Qr
 obtain ⟨⟨cr0, cr1, cr2, cr3, cr4, cr5, cr6, cr7⟩, fr, sr⟩ := Or
 have fr := fun o => fr o
 have sxr : w.heap.size + 1 + 1 < w1.heap.size + 1 := by omega
 have syr : w.heap.size + 1 + 1 < w1.heap.size + 1 + 1 := by omega
 obtain ⟨lo, hlo⟩ : ∃ lo, lo = X % MM - Y % MM := ⟨_, rfl⟩
 rw [← hlo] at f2 F1 ⊢
 have HL : Hid _ := hlo
 clear hlo
 go_wp2_with fail
 refine (rsub_m (X / MM) (Y / MM) _).mono ?_
 rintro e w2 ⟨rfl, hm2⟩
 have m : Mo w1 w2 := Mo.trans (by repeat (first | with_reducible exact Mo.refl _ | with_reducible apply Mo.drew | with_reducible apply Mo.alloc)) hm2
 clear cx0 cx1 cx2 cx3 cx4 cx5 cx6 cx7 fx sx sxx syx cy0 cy1 cy2 cy3 cy4 cy5 cy6 cy7 fy sy sxy syy cr0 cr1 cr2 cr3 cr4 cr5 cr6 cr7 fr sr sxr syr
 have Qx := Qx.mo m
 have Qy := Qy.mo m
 have Qr := Qr.mo m
 have M := M.trans m
 have Ql : AtN w2 (w1.heap.size) lo := AtN.mo ⟨by simp [At4, go_sem], fun o => by simp [go_sem], by simp <;> omega⟩ hm2
 clear hm2 m
 have Ox := Qx
 obtain ⟨⟨cx0, cx1, cx2, cx3, cx4, cx5, cx6, cx7⟩, fx, sx⟩ := Ox
 have fx := fun o => fx o
 have sxx : w.heap.size < w2.heap.size + 1 := by omega
 have syx : w.heap.size < w2.heap.size + 1 + 1 := by omega
 have Oy := Qy
 obtain ⟨⟨cy0, cy1, cy2, cy3, cy4, cy5, cy6, cy7⟩, fy, sy⟩ := Oy
 have fy := fun o => fy o
 have sxy : w.heap.size + 1 < w2.heap.size + 1 := by omega
 have syy : w.heap.size + 1 < w2.heap.size + 1 + 1 := by omega
 have Or := Qr
 obtain ⟨⟨cr0, cr1, cr2, cr3, cr4, cr5, cr6, cr7⟩, fr, sr⟩ := Or
 have fr := fun o => fr o
 have sxr : w.heap.size + 1 + 1 < w2.heap.size + 1 := by omega
 have syr : w.heap.size + 1 + 1 < w2.heap.size + 1 + 1 := by omega
 have Ol := Ql
 obtain ⟨⟨cl0, cl1, cl2, cl3⟩, fl, sl⟩ := Ol
 have fl := fun o => fl o
 have sxl : w1.heap.size < w2.heap.size + 1 := by omega
 have syl : w1.heap.size < w2.heap.size + 1 + 1 := by omega
 obtain ⟨hi, hhi⟩ : ∃ hi, hi = X / MM % MM - Y / MM % MM := ⟨_, rfl⟩
 rw [← hhi] at f2 ⊢
 have HH : Hid _ := hhi
 clear hhi
 rcases f2 with ⟨g1, g2⟩ | ⟨g1, g2⟩
 ·have G2 : Hid _ := g2
  clear g2
  have a : Mo w2 ((w2).alloc (.cells #[.int .u64 (l0 (hi)), .int .u64 (l1 (hi)), .int .u64 (l2 (hi)), .int .u64 (l3 (hi))] 31)) := by repeat (first | with_reducible exact Mo.refl _ | with_reducible apply Mo.alloc)
  have zW0x := sx
  have zW0y := sy
  have zW0r := sr
  have zW0l := sl
  clear cx0 cx1 cx2 cx3 cx4 cx5 cx6 cx7 fx sx sxx syx cy0 cy1 cy2 cy3 cy4 cy5 cy6 cy7 fy sy sxy syy cr0 cr1 cr2 cr3 cr4 cr5 cr6 cr7 fr sr sxr syr cl0 cl1 cl2 cl3 fl sl sxl syl
  have Qx := Qx.mo a
  have Qy := Qy.mo a
  have Qr := Qr.mo a
  have Ql := Ql.mo a
  have M := M.trans a
  have Qh : AtN ((w2).alloc (.cells #[.int .u64 (l0 (hi)), .int .u64 (l1 (hi)), .int .u64 (l2 (hi)), .int .u64 (l3 (hi))] 31)) (w2.heap.size) hi := ⟨by simp [At4, go_sem], fun o => by simp [go_sem], by simp <;> omega⟩
  clear a
  go_upto_region 5 with fail
  generalize ((w2).alloc (.cells #[.int .u64 (l0 (hi)), .int .u64 (l1 (hi)), .int .u64 (l2 (hi)), .int .u64 (l3 (hi))] 31)) = W0 at *
  have Ox := Qx
  obtain ⟨⟨cx0, cx1, cx2, cx3, cx4, cx5, cx6, cx7⟩, fx, sx⟩ := Ox
  have fx := fun o => fx o
  have sxx : w.heap.size < W0.heap.size + 1 := by omega
  have syx : w.heap.size < W0.heap.size + 1 + 1 := by omega
  have Oy := Qy
  obtain ⟨⟨cy0, cy1, cy2, cy3, cy4, cy5, cy6, cy7⟩, fy, sy⟩ := Oy
  have fy := fun o => fy o
  have sxy : w.heap.size + 1 < W0.heap.size + 1 := by omega
  have syy : w.heap.size + 1 < W0.heap.size + 1 + 1 := by omega
  have Or := Qr
  obtain ⟨⟨cr0, cr1, cr2, cr3, cr4, cr5, cr6, cr7⟩, fr, sr⟩ := Or
  have fr := fun o => fr o
  have sxr : w.heap.size + 1 + 1 < W0.heap.size + 1 := by omega
  have syr : w.heap.size + 1 + 1 < W0.heap.size + 1 + 1 := by omega
  have Ol := Ql
  obtain ⟨⟨cl0, cl1, cl2, cl3⟩, fl, sl⟩ := Ol
  have fl := fun o => fl o
  have sxl : w1.heap.size < W0.heap.size + 1 := by omega
  have syl : w1.heap.size < W0.heap.size + 1 + 1 := by omega
  have Oh := Qh
  obtain ⟨⟨ch0, ch1, ch2, ch3⟩, fh, sh⟩ := Oh
  have fh := fun o => fh o
  have sxh : w2.heap.size < W0.heap.size + 1 := by omega
  have syh : w2.heap.size < W0.heap.size + 1 + 1 := by omega
  go_wp2
  refine bodyPost_ret (v := .agg #[.int .u64 (l0 (hi)), .int .u64 (l1 (hi)), .int .u64 (l2 (hi)), .int .u64 (l3 (hi)), .int .u64 (l0 (lo)), .int .u64 (l1 (lo)), .int .u64 (l2 (lo)), .int .u64 (l3 (lo))]) (by simp [results, Try.results80, go_sem, *]) rfl ?_
  refine ⟨by rw [dw_of80 G2.out F1.out], ?_⟩
  repeat (first | with_reducible exact M | with_reducible exact Mo.refl _ | with_reducible apply Mo.drew | with_reducible apply Mo.drewN | with_reducible apply Mo.alloc | with_reducible refine Mo.setCell ?_ (by simp <;> omega) _)
 ·have G2 : Hid _ := g2
  clear g2
  have a : Mo w2 ((w2).alloc (.cells #[.int .u64 (l0 (hi)), .int .u64 (l1 (hi)), .int .u64 (l2 (hi)), .int .u64 (l3 (hi))] 31)) := by repeat (first | with_reducible exact Mo.refl _ | with_reducible apply Mo.alloc)
  have zW0x := sx
  have zW0y := sy
  have zW0r := sr
  have zW0l := sl
  clear cx0 cx1 cx2 cx3 cx4 cx5 cx6 cx7 fx sx sxx syx cy0 cy1 cy2 cy3 cy4 cy5 cy6 cy7 fy sy sxy syy cr0 cr1 cr2 cr3 cr4 cr5 cr6 cr7 fr sr sxr syr cl0 cl1 cl2 cl3 fl sl sxl syl
  have Qx := Qx.mo a
  have Qy := Qy.mo a
  have Qr := Qr.mo a
  have Ql := Ql.mo a
  have M := M.trans a
  have Qh : AtN ((w2).alloc (.cells #[.int .u64 (l0 (hi)), .int .u64 (l1 (hi)), .int .u64 (l2 (hi)), .int .u64 (l3 (hi))] 31)) (w2.heap.size) hi := ⟨by simp [At4, go_sem], fun o => by simp [go_sem], by simp <;> omega⟩
  clear a
  go_upto_region 4 with fail
  generalize ((w2).alloc (.cells #[.int .u64 (l0 (hi)), .int .u64 (l1 (hi)), .int .u64 (l2 (hi)), .int .u64 (l3 (hi))] 31)) = W0 at *
  have Ox := Qx
  obtain ⟨⟨cx0, cx1, cx2, cx3, cx4, cx5, cx6, cx7⟩, fx, sx⟩ := Ox
  have fx := fun o => fx o
  have sxx : w.heap.size < W0.heap.size + 1 := by omega
  have syx : w.heap.size < W0.heap.size + 1 + 1 := by omega
  have Oy := Qy
  obtain ⟨⟨cy0, cy1, cy2, cy3, cy4, cy5, cy6, cy7⟩, fy, sy⟩ := Oy
  have fy := fun o => fy o
  have sxy : w.heap.size + 1 < W0.heap.size + 1 := by omega
  have syy : w.heap.size + 1 < W0.heap.size + 1 + 1 := by omega
  have Or := Qr
  obtain ⟨⟨cr0, cr1, cr2, cr3, cr4, cr5, cr6, cr7⟩, fr, sr⟩ := Or
  have fr := fun o => fr o
  have sxr : w.heap.size + 1 + 1 < W0.heap.size + 1 := by omega
  have syr : w.heap.size + 1 + 1 < W0.heap.size + 1 + 1 := by omega
  have Ol := Ql
  obtain ⟨⟨cl0, cl1, cl2, cl3⟩, fl, sl⟩ := Ol
  have fl := fun o => fl o
  have sxl : w1.heap.size < W0.heap.size + 1 := by omega
  have syl : w1.heap.size < W0.heap.size + 1 + 1 := by omega
  have Oh := Qh
  obtain ⟨⟨ch0, ch1, ch2, ch3⟩, fh, sh⟩ := Oh
  have fh := fun o => fh o
  have sxh : w2.heap.size < W0.heap.size + 1 := by omega
  have syh : w2.heap.size < W0.heap.size + 1 + 1 := by omega
  go_cut [] from 26 to 31 (fun wx => Mo w wx ∧ AtN wx w2.heap.size (hi % MM - 1 % MM) ∧ AtN wx w1.heap.size lo ∧ AtW wx (w.heap.size + 1 + 1) 0)
  case first =>
   go_region_with
    (first | (go_at_call 64; refine (from34_any 1 _ ⟨by decide, by decide⟩).mono ?_; rintro e w5 ⟨rfl, hm5⟩; have m5 : Mo W0 w5 := Mo.trans (by repeat (first | with_reducible exact Mo.refl _ | with_reducible apply Mo.drew | with_reducible apply Mo.alloc)) hm5; obtain ⟨⟨x0, x1, x2, x3⟩, _, xs⟩ := Qh.mo m5) | (go_at_call 94; refine (rsub_m hi 1 _).mono ?_; rintro e w6 ⟨rfl, hm6⟩; have m6 : Mo w5 w6 := Mo.trans (by repeat (first | with_reducible exact Mo.refl _ | with_reducible apply Mo.drew | with_reducible apply Mo.alloc)) hm6; have m7 := m5.trans m6; obtain ⟨⟨z0, z1, z2, z3⟩, zf, zs⟩ := Qh.mo m7; have zf := fun o => zf o))
   all_goals
    go_wp2
    go_meet
    case rel => exact ⟨(M.trans m7).st4 (by omega) _, (Qh.mo m7).same _, (Ql.mo m7).other (by omega) _, ((((Qr.mo m7).set180 (by omega) _ _).set180 (by omega) _ _).set180 (by omega) _ _).set180 (by omega) _ _⟩
  case rest =>
   clear cx0 cx1 cx2 cx3 cx4 cx5 cx6 cx7 fx sx sxx syx cy0 cy1 cy2 cy3 cy4 cy5 cy6 cy7 fy sy sxy syy cr0 cr1 cr2 cr3 cr4 cr5 cr6 cr7 fr sr sxr syr cl0 cl1 cl2 cl3 fl sl sxl syl ch0 ch1 ch2 ch3 fh sh sxh syh Qx Qy Qr Ql Qh M
   obtain ⟨M, Qh, Ql, Qr⟩ := hcut
   obtain ⟨⟨a0, a1, a2, a3⟩, _, sa⟩ := Qh
   obtain ⟨⟨b0, b1, b2, b3⟩, _, sb⟩ := Ql
   obtain ⟨⟨c0, c1, c2, c3, c4, c5, c6, c7⟩, fc, sc⟩ := Qr
   have fc := fun o => fc o
   go_wp2
   refine bodyPost_ret (v := .agg #[.int .u64 (l0 (hi % MM - 1 % MM)), .int .u64 (l1 (hi % MM - 1 % MM)), .int .u64 (l2 (hi % MM - 1 % MM)), .int .u64 (l3 (hi % MM - 1 % MM)), .int .u64 (l0 (lo)), .int .u64 (l1 (lo)), .int .u64 (l2 (lo)), .int .u64 (l3 (lo))]) (by simp [results, Try.results80, go_sem, *]) rfl ?_
   refine ⟨by rw [dw_of80 G2.out F1.out], ?_⟩
   repeat (first | with_reducible exact M | with_reducible exact Mo.refl _ | with_reducible apply Mo.drew | with_reducible apply Mo.drewN | with_reducible apply Mo.alloc | with_reducible refine Mo.setCell ?_ (by simp <;> omega) _)
end Go.Proofs.Ythehmmhnacomkaa

