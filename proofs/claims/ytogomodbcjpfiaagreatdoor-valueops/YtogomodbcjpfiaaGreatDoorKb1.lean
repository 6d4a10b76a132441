/-
  A part of the proof.
-/
import Derived.Test.YtogomodbcjpfiaaGreatDoorKa1
import Derived.Test.YtogomodbcjpfiaaGreatDoorProg
import Derived.WalkKit
import Derived.WalkSpells
import Derived.Handy
import Derived.BigQuiet
import Derived.Deep.RegionHeld3
import Derived.Test.YtogomodbcjpfiaaGreatDoorKa3
import Derived.Test.YtogomodbcjpfiaaGreatDoorKa2
import Derived.RegionTactic
import Derived.Deep.MidRow
import Derived.BigCall
import Derived.Test.YtogomodbcjpfiaaGreatDoorKa4
import Derived.Shelf.Small.Bits
import Derived.Shelf.Strconv.Itoa0
import Derived.Shelf.Bits.Mul64
import Derived.Deep.CutBlock
import Derived.Test.YtogomodbcjpfiaaGreatDoorKa5
import Derived.Deep.CutRange
import Derived.Test.YtogomodbcjpfiaaGreatDoorKa6
namespace Go.Proofs.YtogomodbcjpfiaaGreatDoor
open Go.RowKit

theorem nat_not (a : Nat) (h : a < 18446744073709551616) : 18446744073709551615 ^^^ a = 18446744073709551615 - a := by
 apply Nat.eq_of_testBit_eq
 intro i
 have e := Nat.testBit_two_pow_sub_succ (n := 64) (x := a) h i
 have e2 : (18446744073709551615 - a : Nat) = 2 ^ 64 - (a + 1) := by omega
 rw [e2, e, Nat.testBit_xor, show (18446744073709551615 : Nat) = 2 ^ 64 - 1 from rfl, Nat.testBit_two_pow_sub_one]
 by_cases hi : i < 64
 ·simp [hi]
 ·have : a.testBit i = false := Nat.testBit_lt_two_pow (Nat.lt_of_lt_of_le h (Nat.pow_le_pow_right (n := 2) (by decide) (by omega : 64 ≤ i)))
  simp [hi, this]
theorem bnot (a : Int) (h0 : 0 ≤ a) (h1 : a < 18446744073709551616) : bits .xor .u64 IntKind.u64.max a = 18446744073709551615 - a := by
 obtain ⟨x, rfl⟩ := Int.eq_ofNat_of_zero_le h0
 have e := bits_xor_u64_nat 18446744073709551615 x (by omega) (by omega)
 rw [nat_not x (by omega)] at e
 have e2 : IntKind.u64.max = ((18446744073709551615 : Nat) : Int) := by decide
 rw [e2, e]; omega
end Go.Proofs.YtogomodbcjpfiaaGreatDoor

namespace Go.Proofs.YtogomodbcjpfiaaGreatDoor
open Go.RowKit
section
variable {P : Program} {ops : List Oper} {Q : Exit → Act → World → Prop} {n : Nat} {l : List (Nat × Value)}
variable {o : Oper} {w : World} {K : Act → World → Prop}
theorem lp1 {i : Nat} {a b : Value} (h : a = b) : [(i, a)] = [(i, b)] := by rw [h]
theorem lp3 {i j q : Nat} {a b c d e f : Value} (h : a = b) (k : c = d) (m : e = f) : [(i, a), (j, c), (q, e)] = [(i, b), (j, d), (q, f)] := by rw [h, k, m]
end
end Go.Proofs.YtogomodbcjpfiaaGreatDoor

namespace Go.Proofs.YtogomodbcjpfiaaGreatDoor
open Go.RowKit
section
variable {P : Program} {o : Oper} {n : Nat} {l : List (Nat × Value)} {w : World} {ops : Array Oper} {rest : List Oper} {Q : Exit → Act → World → Prop} {K : Act → World → Prop}
theorem wo_pick (c x y : Operand) (t : Bool) (v : Value) (ho : ∀ ρ, execOp ρ o = (do pure (.value (if ← asBool (ρ c) then ρ x else ρ y)))) (hc : evl n l c = .bool t) (hv : evl n l (bif t then x else y) = v) (hk : K (fr n (ext l o.dst v)) w) : WO P o n l w K Q := ⟨o_pick c x y t v ho hc hv hk⟩
theorem wo_build (t : TypeId) (xs : List (Nat × Operand)) (ps : List (Nat × Value)) (v : Value) (ho : o.op = .build t xs.toArray) (hx : xs.map (fun p => (p.1, evl n l p.2)) = ps) (h : (Instr.build t ps.toArray).run P w = .ok v w) (hk : K (fr n (ext l o.dst v)) w) : WO P o n l w K Q := ⟨o_build t xs ps v ho hx h hk⟩
theorem go_pass {ol : List Oper} (hg : wnt n l ol.toArray o = false) (h : K (fr n (ext l o.dst undef)) w) : Go1 P ol Q n l w K o := ⟨Or.inr ⟨hg, h⟩⟩
end
end Go.Proofs.YtogomodbcjpfiaaGreatDoor

namespace Go.Proofs.YtogomodbcjpfiaaGreatDoor

def dg (V : Int) (j : Nat) : Int := V / 2 ^ (32 * j) % 4294967296
theorem dg_bd (V : Int) (j : Nat) : 0 ≤ dg V j ∧ dg V j < 4294967296 := by unfold dg; omega
theorem p32 (j : Nat) : (2 : Int) ^ (32 * (j + 1)) = 2 ^ (32 * j) * 4294967296 := by
 rw [Nat.mul_add, Int.pow_add]; rfl
theorem dg_set {W n : Int} {j : Nat} (hn0 : 0 ≤ n) (hn : n < 4294967296) (m : Nat) :
  dg (W + (n - dg W j) * 2 ^ (32 * j)) m = if m = j then n else dg W m := by
 have hP := pp (32 * j)
 have e1 : (W + (n - dg W j) * 2 ^ (32 * j)) / 2 ^ (32 * j) = W / 2 ^ (32 * j) + (n - dg W j) := Int.add_mul_ediv_right _ _ (by omega)
 rcases Nat.lt_trichotomy m j with h | h | h
 ·rw [if_neg (by omega)]
  obtain ⟨t, rfl⟩ : ∃ t, j = m + 1 + t := ⟨j - (m + 1), by omega⟩
  have e2 : (2 : Int) ^ (32 * (m + 1 + t)) = 4294967296 * 2 ^ (32 * t) * 2 ^ (32 * m) := by
   rw [Nat.mul_add, Int.pow_add, p32, Int.mul_comm (2 ^ (32 * m)), Int.mul_assoc, Int.mul_assoc, Int.mul_comm (2 ^ (32 * m))]
  generalize hc : n - dg W (m + 1 + t) = c
  have hQ := pp (32 * m)
  unfold dg
  rw [e2, ← Int.mul_assoc, Int.add_mul_ediv_right _ _ (by omega), Int.mul_comm 4294967296, ← Int.mul_assoc, Int.add_mul_emod_self_right]
 ·subst h
  rw [if_pos rfl]
  unfold dg at e1 ⊢
  rw [e1]
  omega
 ·rw [if_neg (by omega)]
  obtain ⟨t, rfl⟩ : ∃ t, m = j + 1 + t := ⟨m - (j + 1), by omega⟩
  have e2 : (2 : Int) ^ (32 * (j + 1 + t)) = 2 ^ (32 * j) * 4294967296 * 2 ^ (32 * t) := by
   rw [Nat.mul_add, Int.pow_add, p32]
  have e3 : (W / 2 ^ (32 * j) + (n - dg W j)) / 4294967296 = W / 2 ^ (32 * j) / 4294967296 := by unfold dg; omega
  have hd : ∀ x : Int, x / 2 ^ (32 * (j + 1 + t)) = x / 2 ^ (32 * j) / 4294967296 / 2 ^ (32 * t) := by
   intro x
   rw [e2, ← Int.ediv_ediv_of_nonneg (by omega), ← Int.ediv_ediv_of_nonneg (by omega)]
  rw [dg, hd, e1, e3, ← hd, ← dg]
theorem dg_high {W : Int} {j M : Nat} (h0 : 0 ≤ W) (h : W < 2 ^ (32 * M)) (hj : M ≤ j) : dg W j = 0 := by
 obtain ⟨t, rfl⟩ : ∃ t, j = M + t := ⟨j - M, by omega⟩
 have e : W / 2 ^ (32 * (M + t)) = 0 := by
  apply Int.ediv_eq_zero_of_lt h0
  rw [Nat.mul_add, Int.pow_add]
  have h1 := pp (32 * t)
  have h2 : 2 ^ (32 * M) * 1 ≤ (2 : Int) ^ (32 * M) * 2 ^ (32 * t) := Int.mul_le_mul_of_nonneg_left (by omega) (by omega)
  omega
 unfold dg
 rw [e]
 rfl

theorem inner {W c V x B : Int} {i k : Nat} (h : W + c * 2 ^ (32 * (i + k)) = V + x * 2 ^ (32 * i) * (B % 2 ^ (32 * k))) :
  (W + ((dg W (i + k) + x * dg B k + c) % 4294967296 - dg W (i + k)) * 2 ^ (32 * (i + k))) + (dg W (i + k) + x * dg B k + c) / 4294967296 * 2 ^ (32 * (i + (k + 1))) = V + x * 2 ^ (32 * i) * (B % 2 ^ (32 * (k + 1))) := by
 have e1 : (2 : Int) ^ (32 * (i + (k + 1))) = 2 ^ (32 * (i + k)) * 4294967296 := p32 (i + k)
 have e2 : B % 2 ^ (32 * (k + 1)) = B % 2 ^ (32 * k) + 2 ^ (32 * k) * dg B k := by
  have hP := pp (32 * k)
  rw [p32, dg, Int.emod_def B (2 ^ (32 * k) * 4294967296), Int.emod_def B (2 ^ (32 * k)), Int.emod_def _ 4294967296, ← Int.ediv_ediv_of_nonneg (by omega)]
  generalize (2 : Int) ^ (32 * k) = P
  generalize B / P = u
  rw [Int.mul_sub, Int.mul_assoc]
  omega
 have e3 : (2 : Int) ^ (32 * (i + k)) = 2 ^ (32 * i) * 2 ^ (32 * k) := by rw [Nat.mul_add, Int.pow_add]
 generalize hs : dg W (i + k) + x * dg B k + c = s at *
 have hs2 : s = s % 4294967296 + 4294967296 * (s / 4294967296) := by omega
 generalize hq : s / 4294967296 = q at *
 generalize hr : s % 4294967296 = r at *
 rw [e1, e2]
 rw [e3] at h ⊢
 generalize (2 : Int) ^ (32 * i) = P at *
 generalize (2 : Int) ^ (32 * k) = Q at *
 have hr2 : r = dg W (i + k) + x * dg B k + c - 4294967296 * q := by omega
 rw [hr2]
 generalize dg W (i + k) = d at *
 generalize dg B k = b at *
 generalize B % Q = m at *
 grind

theorem dg_set_bd {W n : Int} {j M : Nat} (h0 : 0 ≤ W) (h : W < 2 ^ (32 * M)) (hj : j < M) (hn0 : 0 ≤ n) (hn : n < 4294967296) :
  0 ≤ W + (n - dg W j) * 2 ^ (32 * j) ∧ W + (n - dg W j) * 2 ^ (32 * j) < 2 ^ (32 * M) := by
 obtain ⟨t, rfl⟩ : ∃ t, M = j + 1 + t := ⟨M - (j + 1), by omega⟩
 have hP := pp (32 * j)
 have hR := pp (32 * t)
 rw [Nat.mul_add, Int.pow_add, p32] at h ⊢
 have e1 : W = 2 ^ (32 * j) * (4294967296 * (W / 2 ^ (32 * j) / 4294967296) + dg W j) + W % 2 ^ (32 * j) := by
  rw [show 4294967296 * (W / 2 ^ (32 * j) / 4294967296) + dg W j = W / 2 ^ (32 * j) from by unfold dg; omega]
  exact (Int.mul_ediv_add_emod W (2 ^ (32 * j))).symm
 have e2 := Int.emod_nonneg W (show (2 : Int) ^ (32 * j) ≠ 0 by omega)
 have e3 := Int.emod_lt_of_pos W hP
 have e4 : 0 ≤ W / 2 ^ (32 * j) / 4294967296 := by
  have := Int.ediv_nonneg h0 (show (0 : Int) ≤ 2 ^ (32 * j) by omega)
  omega
 have e5 : W / 2 ^ (32 * j) / 4294967296 < 2 ^ (32 * t) := by
  rw [Int.ediv_ediv_of_nonneg (by omega)]
  apply Int.ediv_lt_of_lt_mul (by omega)
  rw [Int.mul_comm]
  exact h
 have e6 := dg_bd W j
 generalize dg W j = d at *
 generalize W / 2 ^ (32 * j) / 4294967296 = H at *
 generalize W % 2 ^ (32 * j) = L at *
 generalize (2 : Int) ^ (32 * j) = P at *
 generalize (2 : Int) ^ (32 * t) = R at *
 have e7 : W + (n - d) * P = P * (4294967296 * H + n) + L := by grind
 rw [e7]
 constructor
 ·have := Int.mul_nonneg (show 0 ≤ P by omega) (show 0 ≤ 4294967296 * H + n by omega)
  omega
 ·have a1 : P * (4294967296 * H + n) ≤ P * (4294967296 * R - 1) := Int.mul_le_mul_of_nonneg_left (by omega) (by omega)
  have a2 : P * (4294967296 * R - 1) = P * 4294967296 * R - P := by grind
  omega
theorem carry_bd {d x b c : Int} (hd : 0 ≤ d ∧ d < 4294967296) (hx : 0 ≤ x ∧ x < 4294967296) (hb : 0 ≤ b ∧ b < 4294967296) (hc : 0 ≤ c ∧ c < 4294967296) :
  0 ≤ x * b ∧ x * b ≤ 18446744065119617025 ∧ 0 ≤ d + x * b + c ∧ d + x * b + c < 18446744073709551616 := by
 have h1 := Int.mul_nonneg hx.1 hb.1
 have h2 : x * b ≤ 4294967295 * 4294967295 := Int.mul_le_mul (by omega) (by omega) hb.1 (by decide)
 omega

def vi (A B : Int) (i : Nat) : Int := A % 2 ^ (32 * i) * B
theorem vi_zero (A B : Int) : vi A B 0 = 0 := by
 have : A % 1 = 0 := by omega
 simp [vi, this]
theorem mod_succ (A : Int) (i : Nat) : A % 2 ^ (32 * (i + 1)) = A % 2 ^ (32 * i) + 2 ^ (32 * i) * dg A i := by
 have hP := pp (32 * i)
 rw [p32, dg, Int.emod_def A (2 ^ (32 * i) * 4294967296), Int.emod_def A (2 ^ (32 * i)), Int.emod_def _ 4294967296, ← Int.ediv_ediv_of_nonneg (by omega)]
 generalize (2 : Int) ^ (32 * i) = P
 generalize A / P = u
 rw [Int.mul_sub, Int.mul_assoc]
 omega
theorem vi_succ (A B : Int) (i : Nat) : vi A B (i + 1) = vi A B i + dg A i * 2 ^ (32 * i) * B := by
 unfold vi
 rw [mod_succ, Int.add_mul, Int.mul_comm (2 ^ (32 * i)) (dg A i)]
theorem vi_bd {A B : Int} (i : Nat) (hB0 : 0 ≤ B) (hB : B < 2 ^ (32 * 8)) : 0 ≤ vi A B i ∧ vi A B i < 2 ^ (32 * (i + 8)) := by
 have hP := pp (32 * i)
 have e2 := Int.emod_nonneg A (show (2 : Int) ^ (32 * i) ≠ 0 by omega)
 have e3 := Int.emod_lt_of_pos A hP
 unfold vi
 refine ⟨Int.mul_nonneg e2 hB0, ?_⟩
 rw [Nat.mul_add, Int.pow_add]
 refine Int.lt_of_le_of_lt (Int.mul_le_mul_of_nonneg_right (Int.le_of_lt e3) hB0) ?_
 exact Int.mul_lt_mul_of_pos_left hB hP
theorem vi_last {A B : Int} (h0 : 0 ≤ A) (h : A < 2 ^ (32 * 8)) : vi A B 8 = A * B := by
 unfold vi; rw [Int.emod_eq_of_lt h0 h]
theorem mod_last {B : Int} (h0 : 0 ≤ B) (h : B < 2 ^ (32 * 8)) : B % 2 ^ (32 * 8) = B := Int.emod_eq_of_lt h0 h
theorem outer {W c : Int} {i : Nat} (h0 : 0 ≤ W) (h : W < 2 ^ (32 * (i + 8))) :
  W + (c - dg W (i + 8)) * 2 ^ (32 * (i + 8)) = W + c * 2 ^ (32 * (i + 8)) := by
 rw [dg_high h0 h (Nat.le_refl _), Int.sub_zero]
theorem inner0 (W V x B : Int) (i : Nat) (h : W = V) : W + 0 * 2 ^ (32 * (i + 0)) = V + x * 2 ^ (32 * i) * (B % 2 ^ (32 * 0)) := by
 have : B % 1 = 0 := by omega
 simp [this, h]
end Go.Proofs.YtogomodbcjpfiaaGreatDoor

namespace Go.Proofs.YtogomodbcjpfiaaGreatDoor
open Go.RowKit
set_option maxHeartbeats 1000000 in
theorem half_any (n : Int) (i : Nat) (w : World) (hi : i < 8) :
  Calls Tryz.prog 124 #[nv n, .int .i64 (i : Int)] w fun e w' => e = .returned (.int .u64 (dg n i)) ∧ Mo w w' := by
 have fin : ∀ (r : Int) (w' : World), r = dg n i → Mo w w' → (Ending.returned (.int .u64 r) = .returned (.int .u64 (dg n i)) ∧ Mo w w') := fun r w' h m => ⟨by rw [h], m⟩
 have hq : i = 0 ∨ i = 1 ∨ i = 2 ∨ i = 3 ∨ i = 4 ∨ i = 5 ∨ i = 6 ∨ i = 7 := by omega
 rcases hq with rfl | rfl | rfl | rfl | rfl | rfl | rfl | rfl
 all_goals
  go_enter Tryz.func124, Tryz.ntmps124
  go_wp2
  go_ret
  refine fin _ _ ?_ ((Mo.refl _).alloc _ _)
  simp [dg, l0, l1, l2, l3]
  rw [Int.tmod_eq_emod_of_nonneg (by omega)]
  omega
end Go.Proofs.YtogomodbcjpfiaaGreatDoor

namespace Go.Proofs.YtogomodbcjpfiaaGreatDoor
theorem bit_low (a Z : Int) (r : Nat) (hr : r < 64) : (a + 18446744073709551616 * Z) / 2 ^ r % 2 = a / 2 ^ r % 2 := by
 have e : (18446744073709551616 : Int) = 2 ^ r * (2 * 2 ^ (63 - r)) := by
  rw [show (2 : Int) * 2 ^ (63 - r) = 2 ^ (63 - r + 1) from by rw [Int.pow_succ, Int.mul_comm], ← Int.pow_add, show r + (63 - r + 1) = 64 from by omega]; decide
 have hp : (2 : Int) ^ r ≠ 0 := by have : (0 : Int) < 2 ^ r := Int.pow_pos (by decide); omega
 rw [e, Int.mul_assoc, Int.add_mul_ediv_left _ _ hp, Int.mul_assoc, Int.add_mul_emod_self_left]
theorem div_pow_split (n : Int) (i j : Nat) : n / 2 ^ (i + j) = n / 2 ^ i / 2 ^ j := by
 rw [Int.pow_add, Int.ediv_ediv_of_nonneg (Int.le_of_lt (Int.pow_pos (by decide)))]
end Go.Proofs.YtogomodbcjpfiaaGreatDoor

namespace Go.Proofs.YtogomodbcjpfiaaGreatDoor
open Go.RowKit
def D16 (w : World) (k : Nat) (W : Int) : Prop := (∀ j, j < 16 → w.cell? ⟨k, j, none⟩ = some (.int .u64 (dg W j))) ∧ Fz w k ∧ k < w.heap.size
theorem D16.mo {w w' : World} {k : Nat} {W : Int} (h : D16 w k W) (m : Mo w w') : D16 w' k W :=
 ⟨fun j hj => (m.cell k j h.2.2).trans (h.1 j hj), h.2.1.mo m, by have := m.size; have := h.2.2; omega⟩
theorem D16.set {w : World} {k : Nat} {W n : Int} (h : D16 w k W) {j : Nat} (hj : j < 16) (hn0 : 0 ≤ n) (hn : n < 4294967296) :
  D16 (w.setCell ⟨k, j, none⟩ (.int .u64 n)) k (W + (n - dg W j) * 2 ^ (32 * j)) := by
 obtain ⟨h1, h2, h3⟩ := h
 refine ⟨fun m hm => ?_, fun o => by simp [World.frozen?_setCell, h2 o], by simpa [World.setCell] using h3⟩
 rw [dg_set hn0 hn]
 have e := h1 m hm
 by_cases hmj : m = j
 ·subst hmj
  simp [go_sem, e]
 ·simp [go_sem, e, hmj]
def RM (w wx : World) (a b W : Int) : Prop := Mo w wx ∧ AtN wx w.heap.size a ∧ AtN wx (w.heap.size + 1) b ∧ AtN wx (w.heap.size + 1 + 1) 0 ∧ AtN wx (w.heap.size + 1 + 1 + 1) 0 ∧ D16 wx (w.heap.size + 1 + 1 + 1 + 1) W
theorem RM.mo {w wx w1 : World} {a b W : Int} (v : RM w wx a b W) (m : Mo wx w1) : RM w w1 a b W := by
 obtain ⟨h1, h2, h3, h4, h5, h6⟩ := v
 exact ⟨h1.trans m, h2.mo m, h3.mo m, h4.mo m, h5.mo m, h6.mo m⟩
theorem AtN.set1 {w : World} {k j : Nat} {n : Int} (h : AtN w j n) (hk : j ≠ k) (o : Nat) (v : Value) : AtN (w.setCell ⟨k, o, none⟩ v) j n := by
 obtain ⟨⟨b0, b1, b2, b3⟩, f, s⟩ := h
 refine ⟨by simp [At4, go_sem, *], fun o => by simp [World.frozen?_setCell, f o], by simpa [World.setCell] using s⟩
theorem RM.put {w wx : World} {a b W n : Int} (v : RM w wx a b W) {j : Nat} (hj : j < 16) (hn0 : 0 ≤ n) (hn : n < 4294967296) :
  RM w (wx.setCell ⟨w.heap.size + 1 + 1 + 1 + 1, j, none⟩ (.int .u64 n)) a b (W + (n - dg W j) * 2 ^ (32 * j)) := by
 obtain ⟨h1, h2, h3, h4, h5, h6⟩ := v
 exact ⟨h1.setCell (by show w.heap.size ≤ w.heap.size + 1 + 1 + 1 + 1; omega) _, h2.set1 (by omega) _ _, h3.set1 (by omega) _ _, h4.set1 (by omega) _ _, h5.set1 (by omega) _ _, h6.set hj hn0 hn⟩
def Z16 : Array Value := #[.int .u64 0, .int .u64 0, .int .u64 0, .int .u64 0, .int .u64 0, .int .u64 0, .int .u64 0, .int .u64 0, .int .u64 0, .int .u64 0, .int .u64 0, .int .u64 0, .int .u64 0, .int .u64 0, .int .u64 0, .int .u64 0]
theorem z62 (w : World) : (zeroValue 123).run Tryz.prog w = .ok (.agg Z16) w := by kernel_rfl
theorem AtN.al {w : World} {k : Nat} {n : Int} (h : AtN w k n) {x : Array Value} {t : TypeId} : AtN (w.alloc (.cells x t)) k n := h.mo ((Mo.refl _).alloc _ _)
theorem RM.start (w : World) (a b : Int) : RM w (((((w.alloc (.cells #[.int .u64 (l0 a), .int .u64 (l1 a), .int .u64 (l2 a), .int .u64 (l3 a)] 24)).alloc (.cells #[.int .u64 (l0 b), .int .u64 (l1 b), .int .u64 (l2 b), .int .u64 (l3 b)] 24)).alloc (.cells #[.int .u64 0, .int .u64 0, .int .u64 0, .int .u64 0] 24)).alloc (.cells #[.int .u64 0, .int .u64 0, .int .u64 0, .int .u64 0] 24)).alloc (.cells Z16 123)) a b 0 := by
 refine ⟨by repeat (first | exact Mo.refl _ | with_reducible apply Mo.alloc), (AtN.at _ _ rfl).al.al.al.al, (AtN.at _ _ (by simp)).al.al.al, (AtN.at _ 0 (by simp)).al.al, (AtN.at _ 0 (by simp)).al, ?_, fun o => by simp [go_sem], by simp⟩
 intro j hj
 have h : Z16[j]? = some (.int .u64 (dg 0 j)) := by
  have e : dg 0 j = 0 := by simp [dg]
  rw [e]
  unfold Z16
  have hq : j = 0 ∨ j = 1 ∨ j = 2 ∨ j = 3 ∨ j = 4 ∨ j = 5 ∨ j = 6 ∨ j = 7 ∨ j = 8 ∨ j = 9 ∨ j = 10 ∨ j = 11 ∨ j = 12 ∨ j = 13 ∨ j = 14 ∨ j = 15 := by omega
  rcases hq with rfl | rfl | rfl | rfl | rfl | rfl | rfl | rfl | rfl | rfl | rfl | rfl | rfl | rfl | rfl | rfl <;> rfl
 simp [go_sem, h]

def H4 (w : World) (k : Nat) (n : Int) (i : Nat) : Prop := At4 w k (if 0 < i then l0 n else 0) (if 1 < i then l1 n else 0) (if 2 < i then l2 n else 0) (if 3 < i then l3 n else 0) ∧ Fz w k ∧ k < w.heap.size
def LH (w wx : World) (k : Nat) (a b P : Int) (i : Nat) : Prop := RM w wx a b P ∧ H4 wx k (P / MM) i ∧ H4 wx (k + 1) P i
theorem LH.start {w wr : World} {a b P : Int} (h : RM w wr a b P) : LH w ((wr.alloc (.cells #[.int .u64 0, .int .u64 0, .int .u64 0, .int .u64 0] 24)).alloc (.cells #[.int .u64 0, .int .u64 0, .int .u64 0, .int .u64 0] 24)) wr.heap.size a b P 0 := by
 refine ⟨h.mo (((Mo.refl _).alloc _ _).alloc _ _), ⟨by simp [At4, go_sem], fun o => by simp [go_sem], by simp <;> omega⟩, ⟨by simp [At4, go_sem], fun o => by simp [go_sem], by simp⟩⟩
theorem dg_up (P : Int) (j : Nat) : dg P (8 + j) = dg (P / MM) j := by
 unfold dg
 rw [Nat.mul_add, div_pow_split]
 rfl
theorem H4.put {w : World} {k : Nat} {n : Int} {i i' : Nat} {o : Nat} {v : Int} (h : H4 w k n i) (e : At4 (w.setCell ⟨k, o, none⟩ (.int .u64 v)) k (if 0 < i' then l0 n else 0) (if 1 < i' then l1 n else 0) (if 2 < i' then l2 n else 0) (if 3 < i' then l3 n else 0)) : H4 (w.setCell ⟨k, o, none⟩ (.int .u64 v)) k n i' :=
 ⟨e, fun o => by simp [World.frozen?_setCell, h.2.1 o], by simpa [World.setCell] using h.2.2⟩
theorem H4.set1 {w : World} {k j : Nat} {n : Int} {i : Nat} (h : H4 w k n i) (hk : k ≠ j) (o : Nat) (v : Value) : H4 (w.setCell ⟨j, o, none⟩ v) k n i := by
 obtain ⟨⟨b0, b1, b2, b3⟩, f, s⟩ := h
 refine ⟨by simp [At4, go_sem, *], fun o => by simp [World.frozen?_setCell, f o], by simpa [World.setCell] using s⟩
theorem RM.set1 {w wx : World} {a b W : Int} (h : RM w wx a b W) {k : Nat} (hk : w.heap.size + 1 + 1 + 1 + 1 < k) (o : Nat) (v : Value) : RM w (wx.setCell ⟨k, o, none⟩ v) a b W := by
 obtain ⟨h1, h2, h3, h4, h5, ⟨d, f, s⟩⟩ := h
 refine ⟨h1.setCell (by show w.heap.size ≤ k; omega) _, h2.set1 (by omega) _ _, h3.set1 (by omega) _ _, h4.set1 (by omega) _ _, h5.set1 (by omega) _ _, ⟨fun j hj => ?_, fun o => by simp [World.frozen?_setCell, f o], by simpa [World.setCell] using s⟩⟩
 have e := d j hj
 simp [go_sem, e]
theorem H4.mo {w w' : World} {k : Nat} {n : Int} {i : Nat} (h : H4 w k n i) (m : Mo w w') : H4 w' k n i :=
 ⟨h.1.mo m h.2.2, h.2.1.mo m, by have := m.size; have := h.2.2; omega⟩
theorem LH.put0 {w wr : World} {k : Nat} {a b P : Int} (hk : w.heap.size + 1 + 1 + 1 + 1 < k) (h : LH w wr k a b P 0) : LH w ((wr.setCell ⟨k + 1, 0, none⟩ (.int .u64 (l0 P))).drew.setCell ⟨k, 0, none⟩ (.int .u64 (l0 (P / MM)))).drew k a b P 1 := by
 obtain ⟨h1, h2, h3⟩ := h
 have D := fun (w : World) => (Mo.refl w).drew
 have g3 : H4 (wr.setCell ⟨k + 1, 0, none⟩ (.int .u64 (l0 P))) (k + 1) P 1 := h3.put (by obtain ⟨⟨c0, c1, c2, c3⟩, _, _⟩ := h3; simp at c0 c1 c2 c3; simp [At4, go_sem, *])
 have g2 := h2.set1 (show k ≠ k + 1 by omega) 0 (.int .u64 (l0 P))
 have g1 := h1.set1 (show _ < k + 1 by omega) 0 (.int .u64 (l0 P))
 generalize wr.setCell ⟨k + 1, 0, none⟩ (.int .u64 (l0 P)) = w2 at *
 have k2 : H4 (w2.drew.setCell ⟨k, 0, none⟩ (.int .u64 (l0 (P / MM)))) k (P / MM) 1 := (g2.mo (D _)).put (by obtain ⟨⟨c0, c1, c2, c3⟩, _, _⟩ := g2.mo (D _); simp at c0 c1 c2 c3; simp [At4, go_sem, *])
 exact ⟨((g1.mo (D _)).set1 hk _ _).mo (D _), k2.mo (D _), ((g3.mo (D _)).set1 (by omega) _ _).mo (D _)⟩
theorem LH.put1 {w wr : World} {k : Nat} {a b P : Int} (hk : w.heap.size + 1 + 1 + 1 + 1 < k) (h : LH w wr k a b P 1) : LH w ((wr.setCell ⟨k + 1, 1, none⟩ (.int .u64 (l1 P))).drew.setCell ⟨k, 1, none⟩ (.int .u64 (l1 (P / MM)))).drew k a b P 2 := by
 obtain ⟨h1, h2, h3⟩ := h
 have D := fun (w : World) => (Mo.refl w).drew
 have g3 : H4 (wr.setCell ⟨k + 1, 1, none⟩ (.int .u64 (l1 P))) (k + 1) P 2 := h3.put (by obtain ⟨⟨c0, c1, c2, c3⟩, _, _⟩ := h3; simp at c0 c1 c2 c3; simp [At4, go_sem, *])
 have g2 := h2.set1 (show k ≠ k + 1 by omega) 1 (.int .u64 (l1 P))
 have g1 := h1.set1 (show _ < k + 1 by omega) 1 (.int .u64 (l1 P))
 generalize wr.setCell ⟨k + 1, 1, none⟩ (.int .u64 (l1 P)) = w2 at *
 have k2 : H4 (w2.drew.setCell ⟨k, 1, none⟩ (.int .u64 (l1 (P / MM)))) k (P / MM) 2 := (g2.mo (D _)).put (by obtain ⟨⟨c0, c1, c2, c3⟩, _, _⟩ := g2.mo (D _); simp at c0 c1 c2 c3; simp [At4, go_sem, *])
 exact ⟨((g1.mo (D _)).set1 hk _ _).mo (D _), k2.mo (D _), ((g3.mo (D _)).set1 (by omega) _ _).mo (D _)⟩
theorem LH.put2 {w wr : World} {k : Nat} {a b P : Int} (hk : w.heap.size + 1 + 1 + 1 + 1 < k) (h : LH w wr k a b P 2) : LH w ((wr.setCell ⟨k + 1, 2, none⟩ (.int .u64 (l2 P))).drew.setCell ⟨k, 2, none⟩ (.int .u64 (l2 (P / MM)))).drew k a b P 3 := by
 obtain ⟨h1, h2, h3⟩ := h
 have D := fun (w : World) => (Mo.refl w).drew
 have g3 : H4 (wr.setCell ⟨k + 1, 2, none⟩ (.int .u64 (l2 P))) (k + 1) P 3 := h3.put (by obtain ⟨⟨c0, c1, c2, c3⟩, _, _⟩ := h3; simp at c0 c1 c2 c3; simp [At4, go_sem, *])
 have g2 := h2.set1 (show k ≠ k + 1 by omega) 2 (.int .u64 (l2 P))
 have g1 := h1.set1 (show _ < k + 1 by omega) 2 (.int .u64 (l2 P))
 generalize wr.setCell ⟨k + 1, 2, none⟩ (.int .u64 (l2 P)) = w2 at *
 have k2 : H4 (w2.drew.setCell ⟨k, 2, none⟩ (.int .u64 (l2 (P / MM)))) k (P / MM) 3 := (g2.mo (D _)).put (by obtain ⟨⟨c0, c1, c2, c3⟩, _, _⟩ := g2.mo (D _); simp at c0 c1 c2 c3; simp [At4, go_sem, *])
 exact ⟨((g1.mo (D _)).set1 hk _ _).mo (D _), k2.mo (D _), ((g3.mo (D _)).set1 (by omega) _ _).mo (D _)⟩
theorem LH.put3 {w wr : World} {k : Nat} {a b P : Int} (hk : w.heap.size + 1 + 1 + 1 + 1 < k) (h : LH w wr k a b P 3) : LH w ((wr.setCell ⟨k + 1, 3, none⟩ (.int .u64 (l3 P))).drew.setCell ⟨k, 3, none⟩ (.int .u64 (l3 (P / MM)))).drew k a b P 4 := by
 obtain ⟨h1, h2, h3⟩ := h
 have D := fun (w : World) => (Mo.refl w).drew
 have g3 : H4 (wr.setCell ⟨k + 1, 3, none⟩ (.int .u64 (l3 P))) (k + 1) P 4 := h3.put (by obtain ⟨⟨c0, c1, c2, c3⟩, _, _⟩ := h3; simp at c0 c1 c2 c3; simp [At4, go_sem, *])
 have g2 := h2.set1 (show k ≠ k + 1 by omega) 3 (.int .u64 (l3 P))
 have g1 := h1.set1 (show _ < k + 1 by omega) 3 (.int .u64 (l3 P))
 generalize wr.setCell ⟨k + 1, 3, none⟩ (.int .u64 (l3 P)) = w2 at *
 have k2 : H4 (w2.drew.setCell ⟨k, 3, none⟩ (.int .u64 (l3 (P / MM)))) k (P / MM) 4 := (g2.mo (D _)).put (by obtain ⟨⟨c0, c1, c2, c3⟩, _, _⟩ := g2.mo (D _); simp at c0 c1 c2 c3; simp [At4, go_sem, *])
 exact ⟨((g1.mo (D _)).set1 hk _ _).mo (D _), k2.mo (D _), ((g3.mo (D _)).set1 (by omega) _ _).mo (D _)⟩
set_option maxRecDepth 100000 in
set_option maxHeartbeats 4000000 in
theorem rmul_n (A B : Int) (w : World) (hA0 : 0 ≤ A) (hAM : A < MM) (hB0 : 0 ≤ B) (hBM : B < MM) :
  Calls Tryz.prog 101 #[nv A, nv B] w fun e w' => e = .returned (.tuple #[nv (A * B / MM), nv (A * B)]) ∧ Mo w w' := by
 have hz := z62
 have HS : Hid _ := RM.start w A B
 have HB : Hid (B < 2 ^ (32 * 8)) := hBM
 have HA : Hid (A < 2 ^ (32 * 8)) := hAM
 go_enter Tryz.func101, Tryz.ntmps101
 go_wp2
 go_loopw [7] (fun s7 wr => ∃ i : Nat, i ≤ 8 ∧ s7 = .int .i64 i ∧ RM w wr A B (vi A B i)) (fun s _ => 8 - (intOf s).toNat)
 case atStart => exact ⟨0, by decide, rfl, by rw [vi_zero]; exact HS.out⟩
 case round =>
  obtain ⟨i, hi, rfl, ht⟩ := hrel
  clear HS
  by_cases hlt : i < 8
  ·have di : decide ((i : Int) < 8) = true := decide_eq_true (by omega)
   go_wp2_with fail
   go_loopw [8, 9] (fun s8 s9 wr => ∃ (k : Nat) (c W : Int), k ≤ 8 ∧ s9 = .int .i64 k ∧ s8 = .int .u64 c ∧ 0 ≤ c ∧ c < 4294967296 ∧ 0 ≤ W ∧ W < 2 ^ (32 * (i + 8)) ∧ W + c * 2 ^ (32 * (i + k)) = vi A B i + dg A i * 2 ^ (32 * i) * (B % 2 ^ (32 * k)) ∧ RM w wr A B W) (fun _ s9 _ => 8 - (intOf s9).toNat)
   case atStart => exact ⟨0, 0, vi A B i, by decide, rfl, rfl, by decide, by decide, (vi_bd i hB0 HB.out).1, (vi_bd i hB0 HB.out).2, inner0 _ _ _ _ _ rfl, ht⟩
   case round =>
    obtain ⟨k, c, W, hk, rfl, rfl, c0, c1, W0, W1, hI, hv⟩ := hrel
    clear ht
    have HI : Hid _ := hI
    have HW : Hid _ := W1
    clear hI W1
    by_cases hk8 : k < 8
    ·have dk : decide ((k : Int) < 8) = true := decide_eq_true (by omega)
     obtain ⟨j, hj⟩ : ∃ j : Nat, j = i + k := ⟨_, rfl⟩
     have j16 : j < 16 := by omega
     have hik : (i : Int) + (k : Int) = (j : Int) := by omega
     have wik : IntKind.i64.wrap (j : Int) = (j : Int) := by rw [IntKind.wrap_i64]; omega
     have q1 : (0 : Int) ≤ (j : Int) := by omega
     have q2 : (j : Int) < 16 := by omega
     have HJ : Hid _ := hj
     have bd := carry_bd (dg_bd W j) (dg_bd A i) (dg_bd B k) ⟨c0, c1⟩
     have bw := dg_bd W j
     have u1 : IntKind.u64.wrap (dg A i * dg B k) = dg A i * dg B k := by rw [IntKind.wrap_u64]; omega
     have u2 : IntKind.u64.wrap (dg W j + dg A i * dg B k) = dg W j + dg A i * dg B k := by rw [IntKind.wrap_u64]; omega
     have u3 : IntKind.u64.wrap (dg W j + dg A i * dg B k + c) = dg W j + dg A i * dg B k + c := by rw [IntKind.wrap_u64]; omega
     have BD : Hid _ := bd
     clear hj bd bw
     go_upto_region 9 with fail
     go_cut [10] from 22 to 36 (fun s10 wx => s10 = .int .u64 (dg W j + dg A i * dg B k + c) ∧ RM w wx A B W)
     case first =>
      have hv0 := hv
      obtain ⟨_, ⟨⟨a0, a1, a2, a3⟩, _, y1⟩, ⟨⟨b0, b1, b2, b3⟩, _, y2⟩, _, _, ⟨d, _, y3⟩⟩ := hv0
      have d0 := d j j16
      clear d
      go_region_held3 (fun w' => w'.cell? ⟨w.heap.size, 0, none⟩ = some (.int .u64 (l0 A)) ∧ w'.cell? ⟨w.heap.size, 1, none⟩ = some (.int .u64 (l1 A)) ∧ w'.cell? ⟨w.heap.size, 2, none⟩ = some (.int .u64 (l2 A)) ∧ w'.cell? ⟨w.heap.size, 3, none⟩ = some (.int .u64 (l3 A)) ∧ w'.cell? ⟨w.heap.size + 1, 0, none⟩ = some (.int .u64 (l0 B)) ∧ w'.cell? ⟨w.heap.size + 1, 1, none⟩ = some (.int .u64 (l1 B)) ∧ w'.cell? ⟨w.heap.size + 1, 2, none⟩ = some (.int .u64 (l2 B)) ∧ w'.cell? ⟨w.heap.size + 1, 3, none⟩ = some (.int .u64 (l3 B)) ∧ w'.cell? ⟨w.heap.size + 1 + 1 + 1 + 1, j, none⟩ = some (.int .u64 (dg W j))) (simp [go_sem, *])
       (first | (go_at_call 124; have m40 := m4; refine (half_any _ _ _ (by assumption)).mono ?_; rintro e w5 ⟨rfl, hm5⟩; have m5 : Mo w4 w5 := Mo.trans (by repeat (first | with_reducible exact Mo.refl _ | with_reducible apply Mo.drew | with_reducible apply Mo.alloc)) hm5; have v5 := v4.mo m5; have v5z := v5; obtain ⟨_, ⟨⟨g0, g1, g2, g3⟩, _, z4⟩, ⟨⟨h0, h1, h2, h3⟩, _, z5⟩, _, _, ⟨ee, _, z6⟩⟩ := v5z; have ee := ee j j16) | (go_at_call 124; refine (half_any _ _ _ (by assumption)).mono ?_; rintro e w4 ⟨rfl, hm4⟩; have m4 : Mo wr w4 := Mo.trans (by repeat (first | with_reducible exact Mo.refl _ | with_reducible apply Mo.drew | with_reducible apply Mo.alloc)) hm4; have v4 := hv.mo m4; have v4z := v4; obtain ⟨_, ⟨⟨e0, e1, e2, e3⟩, _, z1⟩, ⟨⟨f0, f1, f2, f3⟩, _, z2⟩, _, _, ⟨dd, _, z3⟩⟩ := v4z; have dd := dd j j16))
      all_goals
       go_wp2
       go_meet
       case rel => exact ⟨rfl, v5⟩
     case rest =>
      clear hv
      obtain ⟨rfl, hv⟩ := hcut
      have bd := BD.out
      obtain ⟨_, _, s0, s1⟩ := bd
      generalize hs : dg W j + dg A i * dg B k + c = s at *
      have hv0 := hv
      obtain ⟨_, _, _, _, _, ⟨d, df, y3⟩⟩ := hv0
      have d0 := d j j16
      have df := fun o => df o
      clear d BD u1 u2 u3
      have v2 := hv.put (j := j) (n := s % 4294967296) j16 (by omega) (by omega)
      have HS2 : Hid _ := hs
      clear hs hv
      go_wp2
      go_roundw
      case rel =>
       have hj := HJ.out
       have hI := inner HI.out
       rw [← hj, HS2.out] at hI
       have b2 := dg_set_bd (n := s % 4294967296) W0 HW.out (show j < i + 8 by omega) (by omega) (by omega)
       refine ⟨k + 1, s / 4294967296, _, by omega, by go_num, by go_num, by omega, by omega, b2.1, b2.2, hI, v2⟩
      case measure => simp [intOf]; omega
    ·have k8 : k = 8 := by omega
     subst k8
     obtain ⟨j, hj⟩ : ∃ j : Nat, j = i + 8 := ⟨_, rfl⟩
     have j16 : j < 16 := by omega
     have hik : (i : Int) + 8 = (j : Int) := by omega
     have wik : IntKind.i64.wrap (j : Int) = (j : Int) := by rw [IntKind.wrap_i64]; omega
     have q1 : (0 : Int) ≤ (j : Int) := by omega
     have q2 : (j : Int) < 16 := by omega
     have HJ : Hid _ := hj
     clear hj
     have hv0 := hv
     obtain ⟨_, _, _, _, _, ⟨d, df, y3⟩⟩ := hv0
     have d0 := d j j16
     have df := fun o => df o
     clear d
     have v2 := hv.put (j := j) (n := c) j16 c0 c1
     go_wp2
     go_roundw
     case rel =>
      have hj := HJ.out
      have hI := HI.out
      rw [mod_last hB0 HB.out, ← vi_succ] at hI
      refine ⟨i + 1, by omega, by go_num, ?_⟩
      rw [← hI, ← outer W0 HW.out, ← hj]
      exact v2
     case measure => simp [intOf]; omega
  ·have i8 : i = 8 := by omega
   subst i8
   rw [vi_last hA0 HA.out] at ht
   obtain ⟨P, hP⟩ : ∃ P, P = A * B := ⟨_, rfl⟩
   rw [← hP] at ht
   have HP : Hid _ := hP
   clear hP
   have ht2 : LH w ((wr.alloc (.cells #[.int .u64 0, .int .u64 0, .int .u64 0, .int .u64 0] 24)).alloc (.cells #[.int .u64 0, .int .u64 0, .int .u64 0, .int .u64 0] 24)) wr.heap.size A B P 0 := LH.start ht
   have HT : Hid _ := ht2
   have hws : w.heap.size + 1 + 1 + 1 + 1 < wr.heap.size := ht.2.2.2.2.2.2.2
   clear ht ht2
   go_wp2_with fail
   go_loopw [13] (fun s13 wx => ∃ i : Nat, i ≤ 4 ∧ s13 = .int .i64 i ∧ LH w wx wr.heap.size A B P i) (fun s _ => 4 - (intOf s).toNat)
   case atStart => exact ⟨0, by decide, rfl, HT.out⟩
   case round =>
    obtain ⟨i, hi, rfl, ht⟩ := hrel
    clear HT
    have hq : i = 0 ∨ i = 1 ∨ i = 2 ∨ i = 3 ∨ i = 4 := by omega
    rcases hq with rfl | rfl | rfl | rfl | rfl
    ·have htz := ht
     obtain ⟨⟨m1, n1, n2, n3, n4, ⟨d, _, y3⟩⟩, ⟨⟨h0, h1, h2, h3⟩, fh, z1⟩, ⟨⟨g0, g1, g2, g3⟩, fg, z2⟩⟩ := ht
     have d0 := d 0 (by decide)
     have d1 := d 1 (by decide)
     have d8 := d 8 (by decide)
     have d9 := d 9 (by decide)
     have fh := fun o => fh o
     have fg := fun o => fg o
     have e0 : dg P 0 + dg P 1 * 4294967296 = l0 P := by simp [dg, l0]; omega
     rw [show dg P 8 = dg (P / MM) 0 from dg_up P 0] at d8
     rw [show dg P 9 = dg (P / MM) 1 from dg_up P 1] at d9
     have e1 : dg (P / MM) 0 + dg (P / MM) 1 * 4294967296 = l0 (P / MM) := by simp [dg, l0]; omega
     simp at h0 h1 h2 h3 g0 g1 g2 g3
     clear d
     have b0 := dg_bd P 0
     have b1 := dg_bd P 1
     have b8 := dg_bd (P / MM) 0
     have b9 := dg_bd (P / MM) 1
     have ht2 := LH.put0 hws htz
     have HT : Hid _ := ht2
     clear htz ht2
     go_wp2
     go_region
     all_goals
      go_wp2
      go_region
      all_goals
       go_wp2
       go_roundw
       case rel => exact ⟨1, by decide, rfl, HT.out⟩
       case measure => decide
    ·have htz := ht
     obtain ⟨⟨m1, n1, n2, n3, n4, ⟨d, _, y3⟩⟩, ⟨⟨h0, h1, h2, h3⟩, fh, z1⟩, ⟨⟨g0, g1, g2, g3⟩, fg, z2⟩⟩ := ht
     have d0 := d 2 (by decide)
     have d1 := d 3 (by decide)
     have d8 := d 10 (by decide)
     have d9 := d 11 (by decide)
     have fh := fun o => fh o
     have fg := fun o => fg o
     have e0 : dg P 2 + dg P 3 * 4294967296 = l1 P := by simp [dg, l1]; omega
     rw [show dg P 10 = dg (P / MM) 2 from dg_up P 2] at d8
     rw [show dg P 11 = dg (P / MM) 3 from dg_up P 3] at d9
     have e1 : dg (P / MM) 2 + dg (P / MM) 3 * 4294967296 = l1 (P / MM) := by simp [dg, l1]; omega
     simp at h0 h1 h2 h3 g0 g1 g2 g3
     clear d
     have b0 := dg_bd P 2
     have b1 := dg_bd P 3
     have b8 := dg_bd (P / MM) 2
     have b9 := dg_bd (P / MM) 3
     have ht2 := LH.put1 hws htz
     have HT : Hid _ := ht2
     clear htz ht2
     go_wp2
     go_region
     all_goals
      go_wp2
      go_region
      all_goals
       go_wp2
       go_roundw
       case rel => exact ⟨2, by decide, rfl, HT.out⟩
       case measure => decide
    ·have htz := ht
     obtain ⟨⟨m1, n1, n2, n3, n4, ⟨d, _, y3⟩⟩, ⟨⟨h0, h1, h2, h3⟩, fh, z1⟩, ⟨⟨g0, g1, g2, g3⟩, fg, z2⟩⟩ := ht
     have d0 := d 4 (by decide)
     have d1 := d 5 (by decide)
     have d8 := d 12 (by decide)
     have d9 := d 13 (by decide)
     have fh := fun o => fh o
     have fg := fun o => fg o
     have e0 : dg P 4 + dg P 5 * 4294967296 = l2 P := by simp [dg, l2]; omega
     rw [show dg P 12 = dg (P / MM) 4 from dg_up P 4] at d8
     rw [show dg P 13 = dg (P / MM) 5 from dg_up P 5] at d9
     have e1 : dg (P / MM) 4 + dg (P / MM) 5 * 4294967296 = l2 (P / MM) := by simp [dg, l2]; omega
     simp at h0 h1 h2 h3 g0 g1 g2 g3
     clear d
     have b0 := dg_bd P 4
     have b1 := dg_bd P 5
     have b8 := dg_bd (P / MM) 4
     have b9 := dg_bd (P / MM) 5
     have ht2 := LH.put2 hws htz
     have HT : Hid _ := ht2
     clear htz ht2
     go_wp2
     go_region
     all_goals
      go_wp2
      go_region
      all_goals
       go_wp2
       go_roundw
       case rel => exact ⟨3, by decide, rfl, HT.out⟩
       case measure => decide
    ·have htz := ht
     obtain ⟨⟨m1, n1, n2, n3, n4, ⟨d, _, y3⟩⟩, ⟨⟨h0, h1, h2, h3⟩, fh, z1⟩, ⟨⟨g0, g1, g2, g3⟩, fg, z2⟩⟩ := ht
     have d0 := d 6 (by decide)
     have d1 := d 7 (by decide)
     have d8 := d 14 (by decide)
     have d9 := d 15 (by decide)
     have fh := fun o => fh o
     have fg := fun o => fg o
     have e0 : dg P 6 + dg P 7 * 4294967296 = l3 P := by simp [dg, l3]; omega
     rw [show dg P 14 = dg (P / MM) 6 from dg_up P 6] at d8
     rw [show dg P 15 = dg (P / MM) 7 from dg_up P 7] at d9
     have e1 : dg (P / MM) 6 + dg (P / MM) 7 * 4294967296 = l3 (P / MM) := by simp [dg, l3]; omega
     simp at h0 h1 h2 h3 g0 g1 g2 g3
     clear d
     have b0 := dg_bd P 6
     have b1 := dg_bd P 7
     have b8 := dg_bd (P / MM) 6
     have b9 := dg_bd (P / MM) 7
     have ht2 := LH.put3 hws htz
     have HT : Hid _ := ht2
     clear htz ht2
     go_wp2
     go_region
     all_goals
      go_wp2
      go_region
      all_goals
       go_wp2
       go_roundw
       case rel => exact ⟨4, by decide, rfl, HT.out⟩
       case measure => decide
    ·obtain ⟨⟨m1, n1, n2, ⟨⟨x0, x1, x2, x3⟩, fx, z4⟩, ⟨⟨y0, y1, y2, y3⟩, fy, z5⟩, _⟩, ⟨⟨h0, h1, h2, h3⟩, _, z1⟩, ⟨⟨g0, g1, g2, g3⟩, _, z2⟩⟩ := ht
     simp at h0 h1 h2 h3 g0 g1 g2 g3
     have fx := fun o => fx o
     have fy := fun o => fy o
     clear n1 n2
     go_wp2
     go_region
     all_goals
      go_wp2
      refine bodyPost_ret (v := .tuple #[nv (P / MM), nv P]) (by simp [results, Tryz.results101, go_sem, *]) rfl ?_
      refine ⟨by rw [← HP.out], ?_⟩
      repeat (first | with_reducible exact m1 | with_reducible apply Mo.drew | with_reducible apply Mo.drewN | with_reducible refine Mo.setCell ?_ (by simp <;> omega) _)
end Go.Proofs.YtogomodbcjpfiaaGreatDoor

namespace Go.Proofs.YtogomodbcjpfiaaGreatDoor
open Go.RowKit

set_option maxHeartbeats 400000 in
theorem from34_any (u : Int) (w : World) (h : U1 u) :
  Calls Tryz.prog 107 #[.int .u64 u] w fun e w' => e = .returned (nv u) ∧ Mo w w' := by
 have e0 : l0 u = u := by unfold U1 at h; unfold l0; omega
 have e1 : l1 u = 0 := by unfold U1 at h; unfold l1; omega
 have e2 : l2 u = 0 := by unfold U1 at h; unfold l2; omega
 have e3 : l3 u = 0 := by unfold U1 at h; unfold l3; omega
 rw [nv, e0, e1, e2, e3]
 clear e0 e1 e2 e3
 go_enter Tryz.func107, Tryz.ntmps107
 go_wp2
 refine bodyPost_ret (by simp [results, Tryz.results107, go_sem]; rfl) rfl ?_
 refine ⟨rfl, ?_⟩
 repeat (first | exact Mo.refl _ | with_reducible apply Mo.drew | with_reducible apply Mo.drewN | with_reducible apply Mo.alloc | with_reducible refine Mo.setCell ?_ (by simp <;> omega) _ | with_reducible refine Mo.trans ?_ (by assumption))

set_option maxHeartbeats 400000 in
theorem not_any (a0 a1 a2 a3 : Int) (w : World) (ha : U4 a0 a1 a2 a3) :
  Calls Tryz.prog 146 #[.agg #[.int .u64 a0, .int .u64 a1, .int .u64 a2, .int .u64 a3]] w fun e w' => e = .returned (nv (MM - 1 - vl a0 a1 a2 a3)) ∧ Mo w w' := by
 have e0 : 18446744073709551615 - a0 = l0 (MM - 1 - vl a0 a1 a2 a3) := by unfold U4 U1 at ha; unfold l0 MM vl; omega
 have e1 : 18446744073709551615 - a1 = l1 (MM - 1 - vl a0 a1 a2 a3) := by unfold U4 U1 at ha; unfold l1 MM vl; omega
 have e2 : 18446744073709551615 - a2 = l2 (MM - 1 - vl a0 a1 a2 a3) := by unfold U4 U1 at ha; unfold l2 MM vl; omega
 have e3 : 18446744073709551615 - a3 = l3 (MM - 1 - vl a0 a1 a2 a3) := by unfold U4 U1 at ha; unfold l3 MM vl; omega
 rw [nv, ← e0, ← e1, ← e2, ← e3]
 clear e0 e1 e2 e3
 obtain ⟨⟨p0, q0⟩, ⟨p1, q1⟩, ⟨p2, q2⟩, ⟨p3, q3⟩⟩ := ha
 go_enter Tryz.func146, Tryz.ntmps146
 go_wp2
 simp only [bnot a0 p0 q0, bnot a1 p1 q1, bnot a2 p2 q2, bnot a3 p3 q3]
 refine bodyPost_ret (by simp [results, Tryz.results146, go_sem]; rfl) rfl ?_
 refine ⟨rfl, ?_⟩
 repeat (first | exact Mo.refl _ | with_reducible apply Mo.drew | with_reducible apply Mo.drewN | with_reducible apply Mo.alloc | with_reducible refine Mo.setCell ?_ (by simp <;> omega) _ | with_reducible refine Mo.trans ?_ (by assumption))
end Go.Proofs.YtogomodbcjpfiaaGreatDoor

namespace Go.Proofs.YtogomodbcjpfiaaGreatDoor
open Go.RowKit

set_option maxHeartbeats 4000000 in
theorem cmp16_any (a0 a1 a2 a3 b0 b1 b2 b3 : Int) (w : World) (ha : U4 a0 a1 a2 a3) (hb : U4 b0 b1 b2 b3) :
  Calls Tryz.prog 122 #[.agg #[.int .u64 a0, .int .u64 a1, .int .u64 a2, .int .u64 a3], .agg #[.int .u64 b0, .int .u64 b1, .int .u64 b2, .int .u64 b3]] w fun e w' =>
   e = .returned (.int .i64 (cm (vl a0 a1 a2 a3) (vl b0 b1 b2 b3))) ∧ Mo w w' := by
 have fin : ∀ (r : Int) (w' : World), r = cm (vl a0 a1 a2 a3) (vl b0 b1 b2 b3) → Mo w w' → (Ending.returned (.int .i64 r) = .returned (.int .i64 (cm (vl a0 a1 a2 a3) (vl b0 b1 b2 b3))) ∧ Mo w w') := fun r w' h m => ⟨ret_int h, m⟩
 obtain ⟨⟨p0, q0⟩, ⟨p1, q1⟩, ⟨p2, q2⟩, ⟨p3, q3⟩⟩ := ha
 obtain ⟨⟨r0, s0⟩, ⟨r1, s1⟩, ⟨r2, s2⟩, ⟨r3, s3⟩⟩ := hb
 go_enter Tryz.func122, Tryz.ntmps122
 go_wp2
 refine wp_loop_rounds 5 ?_
 rw [rounds_succ]
 by_cases h3 : a3 < b3
 ·go_wp2
  go_quiet (fail)
  go_wp2
  go_ret
  refine fin _ _ (by unfold cm vl; split <;> (try split) <;> omega) ?_
  repeat (first | exact Mo.refl _ | apply Mo.drew | apply Mo.drewN | apply Mo.alloc)
 by_cases h3' : b3 < a3
 ·go_wp2
  go_quiet (fail)
  go_wp2
  go_quiet (fail)
  go_wp2
  go_ret
  refine fin _ _ (by unfold cm vl; split <;> (try split) <;> omega) ?_
  repeat (first | exact Mo.refl _ | apply Mo.drew | apply Mo.drewN | apply Mo.alloc)
 go_wp2
 go_quiet (fail)
 go_wp2
 go_quiet (fail)
 go_wp2
 rw [rounds_succ]
 by_cases h2 : a2 < b2
 ·go_wp2
  go_quiet (fail)
  go_wp2
  go_ret
  refine fin _ _ (by unfold cm vl; split <;> (try split) <;> omega) ?_
  repeat (first | exact Mo.refl _ | apply Mo.drew | apply Mo.drewN | apply Mo.alloc)
 by_cases h2' : b2 < a2
 ·go_wp2
  go_quiet (fail)
  go_wp2
  go_quiet (fail)
  go_wp2
  go_ret
  refine fin _ _ (by unfold cm vl; split <;> (try split) <;> omega) ?_
  repeat (first | exact Mo.refl _ | apply Mo.drew | apply Mo.drewN | apply Mo.alloc)
 go_wp2
 go_quiet (fail)
 go_wp2
 go_quiet (fail)
 go_wp2
 rw [rounds_succ]
 by_cases h1 : a1 < b1
 ·go_wp2
  go_quiet (fail)
  go_wp2
  go_ret
  refine fin _ _ (by unfold cm vl; split <;> (try split) <;> omega) ?_
  repeat (first | exact Mo.refl _ | apply Mo.drew | apply Mo.drewN | apply Mo.alloc)
 by_cases h1' : b1 < a1
 ·go_wp2
  go_quiet (fail)
  go_wp2
  go_quiet (fail)
  go_wp2
  go_ret
  refine fin _ _ (by unfold cm vl; split <;> (try split) <;> omega) ?_
  repeat (first | exact Mo.refl _ | apply Mo.drew | apply Mo.drewN | apply Mo.alloc)
 go_wp2
 go_quiet (fail)
 go_wp2
 go_quiet (fail)
 go_wp2
 rw [rounds_succ]
 by_cases h0 : a0 < b0
 ·go_wp2
  go_quiet (fail)
  go_wp2
  go_ret
  refine fin _ _ (by unfold cm vl; split <;> (try split) <;> omega) ?_
  repeat (first | exact Mo.refl _ | apply Mo.drew | apply Mo.drewN | apply Mo.alloc)
 by_cases h0' : b0 < a0
 ·go_wp2
  go_quiet (fail)
  go_wp2
  go_quiet (fail)
  go_wp2
  go_ret
  refine fin _ _ (by unfold cm vl; split <;> (try split) <;> omega) ?_
  repeat (first | exact Mo.refl _ | apply Mo.drew | apply Mo.drewN | apply Mo.alloc)
 go_wp2
 go_quiet (fail)
 go_wp2
 go_quiet (fail)
 go_wp2
 rw [rounds_succ]
 go_wp2
 go_ret
 refine fin _ _ (by unfold cm vl; split <;> (try split) <;> omega) ?_
 repeat (first | exact Mo.refl _ | apply Mo.drew | apply Mo.drewN | apply Mo.alloc)
end Go.Proofs.YtogomodbcjpfiaaGreatDoor

