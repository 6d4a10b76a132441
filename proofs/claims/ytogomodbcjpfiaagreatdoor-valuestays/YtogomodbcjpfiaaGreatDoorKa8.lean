/-
  A part of the proof.
-/
import Derived.Test.YtogomodbcjpfiaaGreatDoorKa5
import Derived.Test.YtogomodbcjpfiaaGreatDoorKa1
import Derived.Test.YtogomodbcjpfiaaGreatDoorProg
import Derived.WalkKit
import Derived.WalkSpells
import Derived.Handy
import Derived.BigQuiet
import Derived.Deep.RegionHeld3
import Derived.Shelf.Small.Bits
import Derived.Shelf.Strconv.Itoa0
import Derived.Shelf.Bits.Mul64
import Derived.Test.YtogomodbcjpfiaaGreatDoorKa4
import Derived.Deep.CutBlock
import Derived.Test.YtogomodbcjpfiaaGreatDoorKa7
import Derived.ChangeKeysEq
import Derived.ScopeJumps
import Derived.WalkMore
import Derived.Deep.CutRange
import Derived.Test.YtogomodbcjpfiaaGreatDoorKa6
import Derived.Laws.StructEq
namespace Go.Proofs.YtogomodbcjpfiaaGreatDoor
open Go.RowKit
theorem nv_mul_mod (n c : Int) : nv (n % MM * c) = nv (n * c) := by
 rw [← nv_mod (n % MM * c), ← nv_mod (n * c), Int.mul_emod, Int.emod_emod, ← Int.mul_emod]
def TT (w wr : World) (b : Nat) (n : Int) : Prop := Mo w wr ∧ w.heap.size < b ∧ b < wr.heap.size ∧ At4 wr w.heap.size 0 0 0 0 ∧ Fz wr w.heap.size ∧ At4 wr b (l0 n) (l1 n) (l2 n) (l3 n) ∧ Fz wr b
theorem TT.mo {w wr w1 : World} {b : Nat} {n : Int} (h : TT w wr b n) (m : Mo wr w1) : TT w w1 b n := by
 obtain ⟨h1, h2, h3, h4, h5, h6, h7⟩ := h
 have := m.size
 exact ⟨h1.trans m, h2, by omega, h4.mo m (by omega), h5.mo m, h6.mo m h3, h7.mo m⟩
theorem TT.put {w w1 : World} {b : Nat} {n q : Int} (h : TT w w1 b n) : TT w ((((w1.setCell ⟨b, 0, none⟩ (.int .u64 (l0 q))).setCell ⟨b, 1, none⟩ (.int .u64 (l1 q))).setCell ⟨b, 2, none⟩ (.int .u64 (l2 q))).setCell ⟨b, 3, none⟩ (.int .u64 (l3 q))) b q := by
 obtain ⟨h1, h2, h3, ⟨c0, c1, c2, c3⟩, h5, ⟨b0, b1, b2, b3⟩, h7⟩ := h
 have ne : ¬ w.heap.size = b := by omega
 have le : w.heap.size ≤ b := by omega
 refine ⟨(((h1.setCell le _).setCell le _).setCell le _).setCell le _, h2, by simpa [World.setCell] using h3, ?_, ?_, ?_, ?_⟩
 ·simp [At4, go_sem, *]
 ·intro o; simp [World.frozen?_setCell, h5 o]
 ·simp [At4, go_sem, *]
 ·intro o; simp [World.frozen?_setCell, h7 o]

set_option maxHeartbeats 1000000 in
theorem ten_yes (n : Nat) (w : World) (h7 : n ≤ 77) :
  Calls Tryz.prog 119 #[.int .i64 n] w fun e w' => e = .returned (.tuple #[nv (10 ^ n), .bool true]) ∧ Mo w w' := by
 have e1 : nv 1 = .agg #[.int .u64 1, .int .u64 0, .int .u64 0, .int .u64 0] := by simp [nv, l0, l1, l2, l3]
 have hn : ¬ ((n : Int) < 0) := by omega
 have hn7 : ¬ (77 < (n : Int)) := by omega
 go_enter Tryz.func119, Tryz.ntmps119
 go_wp2_with fail
 refine (from20_any 1 _ ⟨by decide, by decide⟩).mono ?_
 rintro e w1 ⟨rfl, hm⟩
 have hz := hm.size
 simp only [World.size_alloc] at hz
 have hA : At4 w1 w.heap.size 0 0 0 0 := At4.mo (by simp [At4, go_sem]) hm (by simp)
 have hF : Fz w1 w.heap.size := Fz.mo (fun o => by simp [go_sem]) hm
 have hM : Mo w w1 := ((Mo.refl _).alloc _ _).trans hm
 have hS : TT w (w1.alloc (.cells #[.int .u64 (l0 1), .int .u64 (l1 1), .int .u64 (l2 1), .int .u64 (l3 1)] 24)) w1.heap.size 1 := by
  have z : w.heap.size < w1.heap.size := by omega
  exact ⟨hM.alloc _ _, z, by simp, hA.mo ((Mo.refl _).alloc _ _) z, hF.mo ((Mo.refl _).alloc _ _), by simp [At4, go_sem], fun o => by simp [go_sem]⟩
 have HS : Hid _ := hS
 clear hS hA hF e1
 go_wp2
 go_loopw [14] (fun i wr => ∃ k : Nat, k ≤ n ∧ i = .int .i64 k ∧ TT w wr w1.heap.size (10 ^ k)) (fun i _ => n - (intOf i).toNat)
 case atStart => exact ⟨0, Nat.zero_le _, rfl, HS.out⟩
 case round =>
  obtain ⟨k, hk, rfl, ht⟩ := hrel
  by_cases hlt : k < n
  ·have ht0 := ht
   obtain ⟨g1, g2, g3, ⟨c0, c1, c2, c3⟩, g5, ⟨b0, b1, b2, b3⟩, g7⟩ := ht
   clear g5 g7
   go_wp2_with fail
   refine (mulLimb_any (l0 (10 ^ k)) (l1 (10 ^ k)) (l2 (10 ^ k)) (l3 (10 ^ k)) 10 _ (u4_lb _) ⟨by decide, by decide⟩).mono ?_
   rintro e w2 ⟨rfl, hm2⟩
   rw [vl_nv, nv_mul_mod, ← Int.pow_succ]
   have t1 := ht0.mo hm2
   have t3 := t1.put (q := 10 ^ (k + 1))
   clear b0 b1 b2 b3 c0 c1 c2 c3 g1 g2 g3
   obtain ⟨g1, g2, g3, ⟨c0, c1, c2, c3⟩, g5, ⟨b0, b1, b2, b3⟩, g7⟩ := t1
   have g7 := fun o => g7 o
   clear g5
   go_wp2
   go_roundw
   case rel => exact ⟨k + 1, by omega, by go_num, t3⟩
   case measure => simp [intOf]; omega
  ·have hkn : k = n := by omega
   subst hkn
   obtain ⟨g1, g2, g3, ⟨c0, c1, c2, c3⟩, g5, ⟨b0, b1, b2, b3⟩, g7⟩ := ht
   have g5 := fun o => g5 o
   go_wp2
   refine bodyPost_ret (v := .tuple #[nv (10 ^ k), .bool true]) (by simp [results, Tryz.results119, go_sem, c0, c1, c2, c3]) rfl ?_
   refine ⟨rfl, ?_⟩
   exact (((g1.setCell (Nat.le_refl _) _).setCell (Nat.le_refl _) _).setCell (Nat.le_refl _) _).setCell (Nat.le_refl _) _
end Go.Proofs.YtogomodbcjpfiaaGreatDoor

namespace Go.Proofs.YtogomodbcjpfiaaGreatDoor
open Go.RowKit
theorem zero4 {q : Int} (h0 : 0 ≤ q) (h : q < MM) : (l0 q == 0 && (l1 q == 0 && (l2 q == 0 && l3 q == 0))) = decide (q = 0) := by
 have e := vl_lb q h0 h
 rw [Bool.eq_iff_iff]
 simp
 constructor
 ·rintro ⟨a, b, c, d⟩; rw [a, b, c, d] at e; rw [← e]; rfl
 ·rintro rfl; decide
end Go.Proofs.YtogomodbcjpfiaaGreatDoor

namespace Go.Proofs.YtogomodbcjpfiaaGreatDoor
open Go.RowKit
theorem mul_n (A B : Int) (w : World) (hA0 : 0 ≤ A) (hAM : A < MM) (hB0 : 0 ≤ B) (hBM : B < MM) :
  Calls Tryz.prog 116 #[nv A, nv B] w fun e w' => e = .returned (.tuple #[nv (A * B / MM), nv (A * B)]) ∧ Mo w w' := by
 have h := mul_any (l0 A) (l1 A) (l2 A) (l3 A) (l0 B) (l1 B) (l2 B) (l3 B) w (u4_lb A) (u4_lb B)
 rw [vl_lb A hA0 hAM, vl_lb B hB0 hBM] at h
 exact h
theorem add_n (A B : Int) (w : World) (hA0 : 0 ≤ A) (hAM : A < MM) (hB0 : 0 ≤ B) (hBM : B < MM) :
  Calls Tryz.prog 113 #[nv A, nv B] w fun e w' => e = .returned (.tuple #[nv (A + B), .bool (ov (A + B))]) ∧ Mo w w' := by
 have h := add_any (l0 A) (l1 A) (l2 A) (l3 A) (l0 B) (l1 B) (l2 B) (l3 B) w (u4_lb A) (u4_lb B)
 rw [vl_lb A hA0 hAM, vl_lb B hB0 hBM] at h
 exact h
theorem cmp_n (A B : Int) (w : World) (hA0 : 0 ≤ A) (hAM : A < MM) (hB0 : 0 ≤ B) (hBM : B < MM) :
  Calls Tryz.prog 114 #[nv A, nv B] w fun e w' => e = .returned (.int .i64 (cm A B)) ∧ Mo w w' := by
 have h := cmp15_any (l0 A) (l1 A) (l2 A) (l3 A) (l0 B) (l1 B) (l2 B) (l3 B) w (u4_lb A) (u4_lb B)
 rw [vl_lb A hA0 hAM, vl_lb B hB0 hBM] at h
 exact h
theorem div_n (H L D : Int) (w : World) (hH0 : 0 ≤ H) (hHM : H < MM) (hL0 : 0 ≤ L) (hLM : L < MM) (hD0 : 0 ≤ D) (hDM : D < MM) :
  Calls Tryz.prog 117 #[nv H, nv L, nv D] w fun e w' => e = .returned (.tuple #[nv (dq H L D), nv (dr H L D), .bool (dok H D)]) ∧ Mo w w' := by
 have h := div_any (l0 H) (l1 H) (l2 H) (l3 H) (l0 L) (l1 L) (l2 L) (l3 L) (l0 D) (l1 D) (l2 D) (l3 D) w (u4_lb H) (u4_lb L) (u4_lb D)
 rw [vl_lb H hH0 hHM, vl_lb L hL0 hLM, vl_lb D hD0 hDM] at h
 exact h
end Go.Proofs.YtogomodbcjpfiaaGreatDoor

namespace Go.Proofs.YtogomodbcjpfiaaGreatDoor
open Go.RowKit
abbrev dc (b : Bool) (n s : Int) : Value := .agg #[.bool b, .int .u64 (l0 n), .int .u64 (l1 n), .int .u64 (l2 n), .int .u64 (l3 n), .int .i64 s]
abbrev dw (X : Int) : Value := .agg #[.int .u64 (l0 (X / MM)), .int .u64 (l1 (X / MM)), .int .u64 (l2 (X / MM)), .int .u64 (l3 (X / MM)), .int .u64 (l0 X), .int .u64 (l1 X), .int .u64 (l2 X), .int .u64 (l3 X)]
def AtD (w : World) (k : Nat) (b : Bool) (n s : Int) : Prop := (w.cell? ⟨k, 0, none⟩ = some (.bool b) ∧ w.cell? ⟨k, 1, none⟩ = some (.int .u64 (l0 n)) ∧ w.cell? ⟨k, 2, none⟩ = some (.int .u64 (l1 n)) ∧ w.cell? ⟨k, 3, none⟩ = some (.int .u64 (l2 n)) ∧ w.cell? ⟨k, 4, none⟩ = some (.int .u64 (l3 n)) ∧ w.cell? ⟨k, 5, none⟩ = some (.int .i64 s)) ∧ Fz w k ∧ k < w.heap.size
theorem AtD.mo {w w' : World} {k : Nat} {b : Bool} {n s : Int} (h : AtD w k b n s) (m : Mo w w') : AtD w' k b n s := by
 obtain ⟨c, f, z⟩ := h
 refine ⟨?_, f.mo m, Nat.lt_of_lt_of_le z m.size⟩
 simp only [m.cell k _ z]; exact c
def AtW (w : World) (k : Nat) (X : Int) : Prop := (w.cell? ⟨k, 0, none⟩ = some (.int .u64 (l0 (X / MM))) ∧ w.cell? ⟨k, 1, none⟩ = some (.int .u64 (l1 (X / MM))) ∧ w.cell? ⟨k, 2, none⟩ = some (.int .u64 (l2 (X / MM))) ∧ w.cell? ⟨k, 3, none⟩ = some (.int .u64 (l3 (X / MM))) ∧ w.cell? ⟨k, 4, none⟩ = some (.int .u64 (l0 X)) ∧ w.cell? ⟨k, 5, none⟩ = some (.int .u64 (l1 X)) ∧ w.cell? ⟨k, 6, none⟩ = some (.int .u64 (l2 X)) ∧ w.cell? ⟨k, 7, none⟩ = some (.int .u64 (l3 X))) ∧ Fz w k ∧ k < w.heap.size
theorem AtW.mo {w w' : World} {k : Nat} {X : Int} (h : AtW w k X) (m : Mo w w') : AtW w' k X := by
 obtain ⟨c, f, z⟩ := h
 refine ⟨?_, f.mo m, Nat.lt_of_lt_of_le z m.size⟩
 simp only [m.cell k _ z]; exact c

def sc (s : Int) : Bool := decide (0 ≤ s) && decide (s ≤ 18)
set_option maxHeartbeats 1000000 in
theorem isScale_n (s : Int) (w : World) : Calls Tryz.prog 102 #[.int .i64 s] w fun e w' => e = .returned (.bool (sc s)) ∧ Mo w w' := by
 by_cases h : 0 ≤ s
 ·have h1 : decide (s ≥ 0) = true := decide_eq_true h
  have e : sc s = decide (s ≤ 18) := by unfold sc; rw [decide_eq_true h]; rfl
  rw [e]
  go_enter Tryz.func102, Tryz.ntmps102
  go_wp2
  go_ret
  exact ⟨rfl, Mo.refl _⟩
 ·have h1 : decide (s ≥ 0) = false := decide_eq_false h
  have e : sc s = false := by unfold sc; rw [decide_eq_false h]; rfl
  rw [e]
  go_enter Tryz.func102, Tryz.ntmps102
  go_wp2
  go_ret
  exact ⟨rfl, Mo.refl _⟩
theorem zb {n : Int} (h0 : 0 ≤ n) (h : n < MM) : (l0 n == 0 && (l1 n == 0 && (l2 n == 0 && l3 n == 0))) = decide (n = 0) := zero4 h0 h
def ck (b : Bool) (n s : Int) : Int := if sc s && !(b && decide (n = 0)) then 0 else 20
set_option maxHeartbeats 2000000 in
theorem check_n (b : Bool) (n s : Int) (w : World) (hn0 : 0 ≤ n) (hn : n < MM) : Calls Tryz.prog 68 #[dc b n s] w fun e w' => e = .returned (.int .i64 (ck b n s)) ∧ Mo w w' := by
 have q4 := eq4
 have z4 := zb hn0 hn
 have Q : AtD (w.alloc (.cells #[.bool b, .int .u64 (l0 n), .int .u64 (l1 n), .int .u64 (l2 n), .int .u64 (l3 n), .int .i64 s] 26)) w.heap.size b n s := ⟨by simp [go_sem], fun o => by simp [go_sem], by simp⟩
 go_enter Tryz.func68, Tryz.ntmps68
 go_wp2_with fail
 refine (isScale_n s _).mono ?_
 rintro e w1 ⟨rfl, hm1⟩
 have M1 : Mo w w1 := ((Mo.refl _).alloc _ _).trans hm1
 obtain ⟨⟨a0, a1, a2, a3, a4, a5⟩, _, sz⟩ := Q.mo hm1
 clear Q hm1
 cases hs : sc s <;> cases hb : b <;> cases hz : decide (n = 0)
 all_goals
  rw [hz] at z4
  go_wp2
  go_ret
  exact ⟨by simp [ck, *], M1⟩
end Go.Proofs.YtogomodbcjpfiaaGreatDoor

namespace Go.Proofs.YtogomodbcjpfiaaGreatDoor
open Go.RowKit
set_option maxHeartbeats 2000000 in
theorem signed_n (b : Bool) (n s : Int) (w : World) (hn0 : 0 ≤ n) (hn : n < MM) :
  Calls Tryz.prog 69 #[.bool b, nv n, .int .i64 s] w fun e w' => e = .returned (dc (b && !decide (n = 0)) n s) ∧ Mo w w' := by
 have q4 := eq4
 have z4 := zb hn0 hn
 go_enter Tryz.func69, Tryz.ntmps69
 cases hb : b <;> cases hz : decide (n = 0)
 all_goals
  rw [hz] at z4
  go_wp2
  go_region
  all_goals
   go_wp2
   refine bodyPost_ret (by simp [results, Tryz.results69, go_sem]; rfl) rfl ?_
   refine ⟨by simp, ?_⟩
   repeat (first | with_reducible exact Mo.refl _ | with_reducible apply Mo.drew | with_reducible apply Mo.drewN | with_reducible apply Mo.alloc | with_reducible refine Mo.setCell ?_ (by simp <;> omega) _)
set_option maxHeartbeats 2000000 in
theorem dten_n (k : Nat) (w : World) (hk : k ≤ 77) : Calls Tryz.prog 93 #[.int .i64 (k : Int)] w fun e w' => e = .returned (nv (10 ^ k)) ∧ Mo w w' := by
 go_enter Tryz.func93, Tryz.ntmps93
 go_wp2_with fail
 refine (ten_yes k _ hk).mono ?_
 rintro e w1 ⟨rfl, hm1⟩
 have M1 : Mo w w1 := ((Mo.refl _).alloc _ _).trans hm1
 have Q1 : At0 w1 w.heap.size := At0.mo ⟨by simp [At4, go_sem], fun o => by simp [go_sem], by simp <;> omega⟩ hm1
 obtain ⟨⟨a0, a1, a2, a3⟩, fa, sa⟩ := Q1
 have fa := fun o => fa o
 go_wp2
 refine bodyPost_ret (v := nv (10 ^ k)) (by simp [results, Tryz.results93, go_sem, *]) rfl ?_
 refine ⟨rfl, ?_⟩
 repeat (first | with_reducible exact M1 | with_reducible apply Mo.drew | with_reducible apply Mo.drewN | with_reducible apply Mo.alloc | with_reducible refine Mo.setCell ?_ (by simp <;> omega) _)
theorem zl0 : l0 0 = 0 := rfl
theorem zl1 : l1 0 = 0 := rfl
theorem zl2 : l2 0 = 0 := rfl
theorem zl3 : l3 0 = 0 := rfl
set_option maxHeartbeats 2000000 in
theorem mulDouble_n (A B : Int) (w : World) (hA0 : 0 ≤ A) (hAM : A < MM) (hB0 : 0 ≤ B) (hBM : B < MM) :
  Calls Tryz.prog 91 #[nv A, nv B] w fun e w' => e = .returned (dw (A * B)) ∧ Mo w w' := by
 go_enter Tryz.func91, Tryz.ntmps91
 go_wp2_with fail
 refine (mul_n A B _ hA0 hAM hB0 hBM).mono ?_
 rintro e w1 ⟨rfl, hm1⟩
 have m : Mo w w1 := Mo.trans (by repeat (first | with_reducible exact Mo.refl _ | with_reducible apply Mo.drew | with_reducible apply Mo.alloc)) hm1
 have M := m
 have Qr : AtW w1 (w.heap.size + 1 + 1) 0 := AtW.mo ⟨by simp [go_sem, zl0, zl1, zl2, zl3], fun o => by simp [go_sem], by simp <;> omega⟩ hm1
 clear hm1 m
 have Or := Qr
 obtain ⟨⟨cr0, cr1, cr2, cr3, cr4, cr5, cr6, cr7⟩, fr, sr⟩ := Or
 have fr := fun o => fr o
 have sxr : w.heap.size + 1 + 1 < w1.heap.size + 1 := by omega
 have syr : w.heap.size + 1 + 1 < w1.heap.size + 1 + 1 := by omega
 have a : Mo w1 ((((w1).alloc (.cells #[.int .u64 (l0 (A * B / MM)), .int .u64 (l1 (A * B / MM)), .int .u64 (l2 (A * B / MM)), .int .u64 (l3 (A * B / MM))] 24))).alloc (.cells #[.int .u64 (l0 (A * B)), .int .u64 (l1 (A * B)), .int .u64 (l2 (A * B)), .int .u64 (l3 (A * B))] 24)) := by repeat (first | with_reducible exact Mo.refl _ | with_reducible apply Mo.alloc)
 clear cr0 cr1 cr2 cr3 cr4 cr5 cr6 cr7 fr sr sxr syr
 have Qr := Qr.mo a
 have M := M.trans a
 have Qh : AtN ((((w1).alloc (.cells #[.int .u64 (l0 (A * B / MM)), .int .u64 (l1 (A * B / MM)), .int .u64 (l2 (A * B / MM)), .int .u64 (l3 (A * B / MM))] 24))).alloc (.cells #[.int .u64 (l0 (A * B)), .int .u64 (l1 (A * B)), .int .u64 (l2 (A * B)), .int .u64 (l3 (A * B))] 24)) (w1.heap.size) (A * B / MM) := ⟨by simp [At4, go_sem], fun o => by simp [go_sem], by simp <;> omega⟩
 have Ql : AtN ((((w1).alloc (.cells #[.int .u64 (l0 (A * B / MM)), .int .u64 (l1 (A * B / MM)), .int .u64 (l2 (A * B / MM)), .int .u64 (l3 (A * B / MM))] 24))).alloc (.cells #[.int .u64 (l0 (A * B)), .int .u64 (l1 (A * B)), .int .u64 (l2 (A * B)), .int .u64 (l3 (A * B))] 24)) (w1.heap.size + 1) (A * B) := ⟨by simp [At4, go_sem], fun o => by simp [go_sem], by simp <;> omega⟩
 clear a
 go_upto_region 2 with fail
 generalize ((((w1).alloc (.cells #[.int .u64 (l0 (A * B / MM)), .int .u64 (l1 (A * B / MM)), .int .u64 (l2 (A * B / MM)), .int .u64 (l3 (A * B / MM))] 24))).alloc (.cells #[.int .u64 (l0 (A * B)), .int .u64 (l1 (A * B)), .int .u64 (l2 (A * B)), .int .u64 (l3 (A * B))] 24)) = W0 at *
 have Or := Qr
 obtain ⟨⟨cr0, cr1, cr2, cr3, cr4, cr5, cr6, cr7⟩, fr, sr⟩ := Or
 have fr := fun o => fr o
 have sxr : w.heap.size + 1 + 1 < W0.heap.size + 1 := by omega
 have syr : w.heap.size + 1 + 1 < W0.heap.size + 1 + 1 := by omega
 have Oh := Qh
 obtain ⟨⟨ch0, ch1, ch2, ch3⟩, fh, sh⟩ := Oh
 have fh := fun o => fh o
 have sxh : w1.heap.size < W0.heap.size + 1 := by omega
 have syh : w1.heap.size < W0.heap.size + 1 + 1 := by omega
 have Ol := Ql
 obtain ⟨⟨cl0, cl1, cl2, cl3⟩, fl, sl⟩ := Ol
 have fl := fun o => fl o
 have sxl : w1.heap.size + 1 < W0.heap.size + 1 := by omega
 have syl : w1.heap.size + 1 < W0.heap.size + 1 + 1 := by omega
 go_wp2
 refine bodyPost_ret (v := dw (A * B)) (by simp [results, Tryz.results91, go_sem, *]) rfl ?_
 refine ⟨rfl, ?_⟩
 repeat (first | with_reducible exact M | with_reducible exact Mo.refl _ | with_reducible apply Mo.drew | with_reducible apply Mo.drewN | with_reducible apply Mo.alloc | with_reducible refine Mo.setCell ?_ (by simp <;> omega) _)
end Go.Proofs.YtogomodbcjpfiaaGreatDoor

namespace Go.Proofs.YtogomodbcjpfiaaGreatDoor
open Go.RowKit
theorem eq4d (d : Nat) (a b c e f g h i : Int) (w : World) : (Op.equalIn (d + 1 + 1) 24 (.agg #[.int .u64 a, .int .u64 b, .int .u64 c, .int .u64 e]) (.agg #[.int .u64 f, .int .u64 g, .int .u64 h, .int .u64 i])).run Tryz.prog w = .ok (a == f && (b == g && (c == h && e == i))) w := by
 obtain ⟨j, hj⟩ := info22
 rw [run_equalIn_array w (d + 1) _ _ Tryz.underlying24 hj, cells22]
 have q : ∀ (x y : Int), (Op.equalIn (d + 1) 22 (.int .u64 x) (.int .u64 y)).run Tryz.prog w = .ok (x == y) w := fun x y => run_equalIn_int w d 22 .u64 .u64 x y Tryz.underlying22
 rw [show List.range 4 = [0, 1, 2, 3] from rfl]
 cases ha : a == f <;> cases hb : b == g <;> cases hc : c == h <;> cases hd : e == i <;> simp [Op.eqItems, Sem.run_bind, part0, part1, part2, part3, Result.andThen_ok, q, ha, hb, hc, hd, Sem.run_pure]
theorem ht81 : Tryz.prog.underlying 94 = some (.struct (Tryz.prog.fieldsOf 94)) := by kernel_rfl
theorem hp81 : Tryz.prog.stoodInHeld 94 = false := by kernel_rfl
theorem fo81 : (Tryz.prog.fieldsOf 94).toList.map (fun f => (f.name, f.type, f.offset)) = [("high", 24, 0), ("low", 24, 4)] := by kernel_rfl
theorem pt80 (x0 x1 x2 x3 x4 x5 x6 x7 : Value) (w : World) : (part 24 #[x0, x1, x2, x3, x4, x5, x6, x7] 0).run Tryz.prog w = .ok (.agg #[x0, x1, x2, x3]) w := by kernel_rfl
theorem pt84 (x0 x1 x2 x3 x4 x5 x6 x7 : Value) (w : World) : (part 24 #[x0, x1, x2, x3, x4, x5, x6, x7] 4).run Tryz.prog w = .ok (.agg #[x4, x5, x6, x7]) w := by kernel_rfl
theorem eq81n (a0 a1 a2 a3 a4 a5 a6 a7 b0 b1 b2 b3 b4 b5 b6 b7 : Int) (w : World) : (Op.equalIn 10000 94 (.agg #[.int .u64 a0, .int .u64 a1, .int .u64 a2, .int .u64 a3, .int .u64 a4, .int .u64 a5, .int .u64 a6, .int .u64 a7]) (.agg #[.int .u64 b0, .int .u64 b1, .int .u64 b2, .int .u64 b3, .int .u64 b4, .int .u64 b5, .int .u64 b6, .int .u64 b7])).run Tryz.prog w = .ok ((a0 == b0 && (a1 == b1 && (a2 == b2 && a3 == b3))) && (a4 == b4 && (a5 == b5 && (a6 == b6 && a7 == b7)))) w := by
 rw [show (10000 : Nat) = 9999 + 1 from rfl, run_equalIn_struct w 9999 94 _ _ ht81 hp81]
 have h := fo81
 generalize (Tryz.prog.fieldsOf 94).toList = L at h
 have hl : L.length = 2 := by have := congrArg List.length h; simpa using this
 match L, hl with
 | [f0, f1], _ =>
  simp at h
  obtain ⟨⟨x0, x1, x2⟩, ⟨y0, y1, y2⟩⟩ := h
  have q1 := eq4d 9997 a0 a1 a2 a3 b0 b1 b2 b3 w
  have q2 := eq4d 9997 a4 a5 a6 a7 b4 b5 b6 b7 w
  generalize hz : (a0 == b0 && (a1 == b1 && (a2 == b2 && a3 == b3))) = z at q1 ⊢
  generalize hz : (a4 == b4 && (a5 == b5 && (a6 == b6 && a7 == b7))) = y at q2 ⊢
  simp only [Op.eqFields, x0, x1, x2, y0, y1, y2]
  cases z <;> cases y <;> simp [Sem.run_bind, pt80, pt84, Result.andThen_ok, q1, q2, Sem.run_pure]
theorem limbs_eq {n m : Int} (hn0 : 0 ≤ n) (hn : n < MM) (hm0 : 0 ≤ m) (hm : m < MM) : (l0 n == l0 m && (l1 n == l1 m && (l2 n == l2 m && l3 n == l3 m))) = decide (n = m) := by
 rw [Bool.eq_iff_iff]
 simp
 constructor
 ·rintro ⟨a, b, c, d⟩; exact nv_inj hn0 hn hm0 hm ⟨a, b, c, d⟩
 ·rintro rfl; exact ⟨rfl, rfl, rfl, rfl⟩
theorem l0_mod (n : Int) : l0 (n % MM) = l0 n := by unfold l0 MM; omega
theorem l1_mod (n : Int) : l1 (n % MM) = l1 n := by unfold l1 MM; omega
theorem l2_mod (n : Int) : l2 (n % MM) = l2 n := by unfold l2 MM; omega
theorem l3_mod (n : Int) : l3 (n % MM) = l3 n := by unfold l3 MM; omega
theorem wide_eqn {X Y : Int} (hX0 : 0 ≤ X) (hX : X < MM * MM) (hY0 : 0 ≤ Y) (hY : Y < MM * MM) : ((l0 (X / MM) == l0 (Y / MM) && (l1 (X / MM) == l1 (Y / MM) && (l2 (X / MM) == l2 (Y / MM) && l3 (X / MM) == l3 (Y / MM)))) && (l0 X == l0 Y && (l1 X == l1 Y && (l2 X == l2 Y && l3 X == l3 Y)))) = decide (X = Y) := by
 have p : (0 : Int) < MM := by decide
 rw [limbs_eq (Int.ediv_nonneg hX0 (by omega)) (Int.ediv_lt_of_lt_mul p hX) (Int.ediv_nonneg hY0 (by omega)) (Int.ediv_lt_of_lt_mul p hY), ← l0_mod X, ← l1_mod X, ← l2_mod X, ← l3_mod X, ← l0_mod Y, ← l1_mod Y, ← l2_mod Y, ← l3_mod Y, limbs_eq (Int.emod_nonneg _ (by omega)) (Int.emod_lt_of_pos _ p) (Int.emod_nonneg _ (by omega)) (Int.emod_lt_of_pos _ p)]
 rw [Bool.eq_iff_iff]
 simp
 constructor
 ·rintro ⟨a, b⟩
  rw [← Int.mul_ediv_add_emod X MM, ← Int.mul_ediv_add_emod Y MM, a, b]
 ·rintro rfl; exact ⟨rfl, rfl⟩
theorem eq81 (a0 a1 a2 a3 a4 a5 a6 a7 b0 b1 b2 b3 b4 b5 b6 b7 : Int) (w : World) : (Op.equalIn 10000 94 (.agg #[.int .u64 a0, .int .u64 a1, .int .u64 a2, .int .u64 a3, .int .u64 a4, .int .u64 a5, .int .u64 a6, .int .u64 a7]) (.agg #[.int .u64 b0, .int .u64 b1, .int .u64 b2, .int .u64 b3, .int .u64 b4, .int .u64 b5, .int .u64 b6, .int .u64 b7])).run Tryz.prog w = .ok (a0 == b0 && (a1 == b1 && (a2 == b2 && (a3 == b3 && (a4 == b4 && (a5 == b5 && (a6 == b6 && a7 == b7))))))) w := by
 rw [eq81n]; simp only [Bool.and_assoc]
theorem wide_eq {X Y : Int} (hX0 : 0 ≤ X) (hX : X < MM * MM) (hY0 : 0 ≤ Y) (hY : Y < MM * MM) : (l0 (X / MM) == l0 (Y / MM) && (l1 (X / MM) == l1 (Y / MM) && (l2 (X / MM) == l2 (Y / MM) && (l3 (X / MM) == l3 (Y / MM) && (l0 X == l0 Y && (l1 X == l1 Y && (l2 X == l2 Y && l3 X == l3 Y))))))) = decide (X = Y) := by
 rw [← wide_eqn hX0 hX hY0 hY]; simp only [Bool.and_assoc]
end Go.Proofs.YtogomodbcjpfiaaGreatDoor

namespace Go.Proofs.YtogomodbcjpfiaaGreatDoor
open Go.RowKit
abbrev er (c : Int) : Value := .tuple #[.agg #[.bool false, .int .u64 0, .int .u64 0, .int .u64 0, .int .u64 0, .int .i64 0], .int .i64 c]
theorem cmp_m (A B : Int) (w : World) : Calls Tryz.prog 114 #[nv A, nv B] w fun e w' => e = .returned (.int .i64 (cm (A % MM) (B % MM))) ∧ Mo w w' := by
 have h := cmp15_any (l0 A) (l1 A) (l2 A) (l3 A) (l0 B) (l1 B) (l2 B) (l3 B) w (u4_lb A) (u4_lb B)
 rw [vl_nv, vl_nv] at h
 exact h
set_option maxHeartbeats 4000000 in
theorem fit_yes (b : Bool) (X s : Int) (w : World) (hX0 : 0 ≤ X) (hX : X < MM) :
  Calls Tryz.prog 86 #[.bool b, dw X, .int .i64 s] w fun e w' => e = .returned (.tuple #[dc (b && !decide (X = 0)) X s, .int .i64 0]) ∧ Mo w w' := by
 have q4 := eq4
 have e0 : X / MM = 0 := Int.ediv_eq_zero_of_lt hX0 hX
 have y0 : l0 0 = 0 := rfl
 have y1 : l1 0 = 0 := rfl
 have y2 : l2 0 = 0 := rfl
 have y3 : l3 0 = 0 := rfl
 rw [dw, e0, y0, y1, y2, y3]
 clear e0 y0 y1 y2 y3
 go_enter Tryz.func86, Tryz.ntmps86
 go_wp2_with fail
 refine (signed_n b X s _ hX0 hX).mono ?_
 rintro e w1 ⟨rfl, hm1⟩
 have m : Mo w w1 := Mo.trans (by repeat (first | with_reducible exact Mo.refl _ | with_reducible apply Mo.drew | with_reducible apply Mo.alloc)) hm1
 have M := m
 have Qr : AtD w1 (w.heap.size + 1) false 0 0 := AtD.mo ⟨by simp [go_sem, zl0, zl1, zl2, zl3], fun o => by simp [go_sem], by simp <;> omega⟩ hm1
 clear hm1 m
 have Or := Qr
 obtain ⟨⟨cr0, cr1, cr2, cr3, cr4, cr5⟩, fr, sr⟩ := Or
 have fr := fun o => fr o
 have sxr : w.heap.size + 1 < w1.heap.size + 1 := by omega
 have syr : w.heap.size + 1 < w1.heap.size + 1 + 1 := by omega
 go_wp2
 refine bodyPost_ret (v := .tuple #[dc (b && !decide (X = 0)) X s, .int .i64 0]) (by simp [results, Tryz.results86, go_sem, *]) rfl ?_
 refine ⟨rfl, ?_⟩
 repeat (first | with_reducible exact M | with_reducible exact Mo.refl _ | with_reducible apply Mo.drew | with_reducible apply Mo.drewN | with_reducible apply Mo.alloc | with_reducible refine Mo.setCell ?_ (by simp <;> omega) _)
set_option maxHeartbeats 4000000 in
theorem fit_no (b : Bool) (X s : Int) (w : World) (hX0 : MM ≤ X) (hX : X < MM * MM) :
  Calls Tryz.prog 86 #[.bool b, dw X, .int .i64 s] w fun e w' => e = .returned (er 7) ∧ Mo w w' := by
 have q4 := eq4
 have p : (0 : Int) < MM := by decide
 have z4 : (l0 (X / MM) == 0 && (l1 (X / MM) == 0 && (l2 (X / MM) == 0 && l3 (X / MM) == 0))) = false := by
  rw [zero4 (Int.ediv_nonneg (by omega) (by omega)) (Int.ediv_lt_of_lt_mul p hX)]
  refine decide_eq_false fun h => ?_
  have := Int.lt_mul_of_ediv_lt p (show X / MM < 1 by omega)
  omega
 clear p
 go_enter Tryz.func86, Tryz.ntmps86
 go_wp2
 refine bodyPost_ret (v := er 7) (by simp [results, Tryz.results86, go_sem, *]) rfl ?_
 refine ⟨rfl, ?_⟩
 repeat (first | with_reducible exact Mo.refl _ | with_reducible apply Mo.drew | with_reducible apply Mo.drewN | with_reducible apply Mo.alloc | with_reducible refine Mo.setCell ?_ (by simp <;> omega) _)
theorem cm_wide {X Y : Int} : cm X Y = if cm (X / MM) (Y / MM) = 0 then cm (X % MM) (Y % MM) else cm (X / MM) (Y / MM) := by
 have p : (0 : Int) < MM := by decide
 have eX := Int.mul_ediv_add_emod X MM
 have eY := Int.mul_ediv_add_emod Y MM
 have cX := Int.emod_nonneg X (show MM ≠ 0 by omega)
 have dX := Int.emod_lt_of_pos X p
 have cY := Int.emod_nonneg Y (show MM ≠ 0 by omega)
 have dY := Int.emod_lt_of_pos Y p
 unfold cm
 unfold MM at *
 split <;> split <;> split <;> (try split) <;> (try split) <;> (try split) <;> omega
set_option maxHeartbeats 4000000 in
theorem cmpDouble_n (X Y : Int) (w : World) (hX0 : 0 ≤ X) (hX : X < MM * MM) (hY0 : 0 ≤ Y) (hY : Y < MM * MM) :
  Calls Tryz.prog 88 #[dw X, dw Y] w fun e w' => e = .returned (.int .i64 (cm X Y)) ∧ Mo w w' := by
 have q8 := eq81
 have we := wide_eq hX0 hX hY0 hY
 have p : (0 : Int) < MM := by decide
 have a1 : X / MM % MM = X / MM := Int.emod_eq_of_lt (Int.ediv_nonneg hX0 (by omega)) (Int.ediv_lt_of_lt_mul p hX)
 have b1 : Y / MM % MM = Y / MM := Int.emod_eq_of_lt (Int.ediv_nonneg hY0 (by omega)) (Int.ediv_lt_of_lt_mul p hY)
 have A1 : Hid _ := a1
 have B1 : Hid _ := b1
 clear a1 b1 p
 by_cases h : X = Y
 ·rw [decide_eq_true h] at we
  have e : Hid (cm X Y = 0) := by show _ = _; subst h; unfold cm; simp
  clear h
  go_enter Tryz.func88, Tryz.ntmps88
  go_wp2
  go_ret
  exact ⟨by rw [e.out]; rfl, ((Mo.refl _).alloc _ _).alloc _ _⟩
 ·rw [decide_eq_false h] at we
  have e : Hid _ := cm_wide (X := X) (Y := Y)
  clear h
  go_enter Tryz.func88, Tryz.ntmps88
  go_wp2_with fail
  refine (cmp_m (X / MM) (Y / MM) _).mono ?_
  rintro e w1 ⟨rfl, hm1⟩
  rw [A1.out, B1.out]
  have m : Mo w w1 := Mo.trans (by repeat (first | with_reducible exact Mo.refl _ | with_reducible apply Mo.drew | with_reducible apply Mo.alloc)) hm1
  have M := m
  have Qx : AtW w1 (w.heap.size) X := AtW.mo ⟨by simp [go_sem], fun o => by simp [go_sem], by simp <;> omega⟩ hm1
  have Qy : AtW w1 (w.heap.size + 1) Y := AtW.mo ⟨by simp [go_sem], fun o => by simp [go_sem], by simp <;> omega⟩ hm1
  clear hm1 m
  have Ox := Qx
  obtain ⟨⟨cx0, cx1, cx2, cx3, cx4, cx5, cx6, cx7⟩, fx, sx⟩ := Ox
  have fx := fun o => fx o
  have sxx : w.heap.size < w1.heap.size + 1 := by omega
  have syx : w.heap.size < w1.heap.size + 1 + 1 := by omega
  have Oy := Qy
  obtain ⟨⟨cy0, cy1, cy2, cy3, cy4, cy5, cy6, cy7⟩, fy, sy⟩ := Oy
  have fy := fun o => fy o
  have sxy : w.heap.size + 1 < w1.heap.size + 1 := by omega
  have syy : w.heap.size + 1 < w1.heap.size + 1 + 1 := by omega
  by_cases hz : cm (X / MM) (Y / MM) = 0
  ·have hb : (cm (X / MM) (Y / MM) == 0) = true := by rw [hz]; rfl
   have e2 := e.out
   rw [if_pos hz] at e2
   have E2 : Hid _ := e2
   clear e2 hz
   go_wp2_with fail
   refine (cmp_m X Y _).mono ?_
   rintro e w2 ⟨rfl, hm2⟩
   have m : Mo w1 w2 := Mo.trans (by repeat (first | with_reducible exact Mo.refl _ | with_reducible apply Mo.drew | with_reducible apply Mo.alloc)) hm2
   clear cx0 cx1 cx2 cx3 cx4 cx5 cx6 cx7 fx sx sxx syx cy0 cy1 cy2 cy3 cy4 cy5 cy6 cy7 fy sy sxy syy
   have Qx := Qx.mo m
   have Qy := Qy.mo m
   have M := M.trans m
   clear hm2 m
   have Ox := Qx
   obtain ⟨⟨cx0, cx1, cx2, cx3, cx4, cx5, cx6, cx7⟩, fx, sx⟩ := Ox
   have fx := fun o => fx o
   have sxx : w.heap.size < w2.heap.size + 1 := by omega
   have syx : w.heap.size < w2.heap.size + 1 + 1 := by omega
   have Oy := Qy
   obtain ⟨⟨cy0, cy1, cy2, cy3, cy4, cy5, cy6, cy7⟩, fy, sy⟩ := Oy
   have fy := fun o => fy o
   have sxy : w.heap.size + 1 < w2.heap.size + 1 := by omega
   have syy : w.heap.size + 1 < w2.heap.size + 1 + 1 := by omega
   go_wp2
   go_ret
   exact ⟨by rw [E2.out]; rfl, M⟩
  ·have hb : (cm (X / MM) (Y / MM) == 0) = false := by simp [hz]
   have e2 := e.out
   rw [if_neg hz] at e2
   have E2 : Hid _ := e2
   clear e2 hz
   go_wp2
   go_ret
   exact ⟨by rw [E2.out]; rfl, M⟩
end Go.Proofs.YtogomodbcjpfiaaGreatDoor

namespace Go.Proofs.YtogomodbcjpfiaaGreatDoor
open Go.RowKit
theorem check_ok (b : Bool) (n s : Int) (w : World) (hn0 : 0 ≤ n) (hn : n < MM) (h : ck b n s = 0) : Calls Tryz.prog 68 #[dc b n s] w fun e w' => e = .returned (.int .i64 0) ∧ Mo w w' := by
 have := check_n b n s w hn0 hn
 rw [h] at this
 exact this
set_option maxHeartbeats 4000000 in
theorem both_ok (b : Bool) (n s : Int) (c : Bool) (m t : Int) (w : World) (hn0 : 0 ≤ n) (hn : n < MM) (hm0 : 0 ≤ m) (hm : m < MM) (h1 : ck b n s = 0) (h2 : ck c m t = 0) :
  Calls Tryz.prog 84 #[dc b n s, dc c m t] w fun e w' => e = .returned (.int .i64 0) ∧ Mo w w' := by
 go_enter Tryz.func84, Tryz.ntmps84
 go_wp2_with fail
 refine (check_ok b n s _ hn0 hn h1).mono ?_
 rintro e w1 ⟨rfl, hm1⟩
 have mz : Mo w w1 := Mo.trans (by repeat (first | with_reducible exact Mo.refl _ | with_reducible apply Mo.drew | with_reducible apply Mo.alloc)) hm1
 have M := mz
 have Qa : AtD w1 (w.heap.size) b n s := AtD.mo ⟨by simp [go_sem], fun o => by simp [go_sem], by simp <;> omega⟩ hm1
 have Qb : AtD w1 (w.heap.size + 1) c m t := AtD.mo ⟨by simp [go_sem], fun o => by simp [go_sem], by simp <;> omega⟩ hm1
 clear hm1 mz
 have Oa := Qa
 obtain ⟨⟨ca0, ca1, ca2, ca3, ca4, ca5⟩, fa, sa⟩ := Oa
 have fa := fun o => fa o
 have sxa : w.heap.size < w1.heap.size + 1 := by omega
 have sya : w.heap.size < w1.heap.size + 1 + 1 := by omega
 have Ob := Qb
 obtain ⟨⟨cb0, cb1, cb2, cb3, cb4, cb5⟩, fb, sb⟩ := Ob
 have fb := fun o => fb o
 have sxb : w.heap.size + 1 < w1.heap.size + 1 := by omega
 have syb : w.heap.size + 1 < w1.heap.size + 1 + 1 := by omega
 go_wp2_with fail
 refine (check_ok c m t _ hm0 hm h2).mono ?_
 rintro e w2 ⟨rfl, hm2⟩
 have mz : Mo w1 w2 := Mo.trans (by repeat (first | with_reducible exact Mo.refl _ | with_reducible apply Mo.drew | with_reducible apply Mo.alloc)) hm2
 clear ca0 ca1 ca2 ca3 ca4 ca5 fa sa sxa sya cb0 cb1 cb2 cb3 cb4 cb5 fb sb sxb syb
 have Qa := Qa.mo mz
 have Qb := Qb.mo mz
 have M := M.trans mz
 clear hm2 mz
 have Oa := Qa
 obtain ⟨⟨ca0, ca1, ca2, ca3, ca4, ca5⟩, fa, sa⟩ := Oa
 have fa := fun o => fa o
 have sxa : w.heap.size < w2.heap.size + 1 := by omega
 have sya : w.heap.size < w2.heap.size + 1 + 1 := by omega
 have Ob := Qb
 obtain ⟨⟨cb0, cb1, cb2, cb3, cb4, cb5⟩, fb, sb⟩ := Ob
 have fb := fun o => fb o
 have sxb : w.heap.size + 1 < w2.heap.size + 1 := by omega
 have syb : w.heap.size + 1 < w2.heap.size + 1 + 1 := by omega
 go_wp2
 go_ret
 exact ⟨rfl, M⟩
set_option maxHeartbeats 4000000 in
theorem neg_ok (b : Bool) (n s : Int) (w : World) (hn0 : 0 ≤ n) (hn : n < MM) (h : ck b n s = 0) :
  Calls Tryz.prog 46 #[dc b n s] w fun e w' => e = .returned (.tuple #[dc (!b && !decide (n = 0)) n s, .int .i64 0]) ∧ Mo w w' := by
 go_enter Tryz.func46, Tryz.ntmps46
 go_wp2_with fail
 refine (check_ok b n s _ hn0 hn h).mono ?_
 rintro e w1 ⟨rfl, hm1⟩
 have mz : Mo w w1 := Mo.trans (by repeat (first | with_reducible exact Mo.refl _ | with_reducible apply Mo.drew | with_reducible apply Mo.alloc)) hm1
 have M := mz
 have Qa : AtD w1 (w.heap.size) b n s := AtD.mo ⟨by simp [go_sem], fun o => by simp [go_sem], by simp <;> omega⟩ hm1
 have Qr : AtD w1 (w.heap.size + 1) false 0 0 := AtD.mo ⟨by simp [go_sem, zl0, zl1, zl2, zl3], fun o => by simp [go_sem], by simp <;> omega⟩ hm1
 clear hm1 mz
 have Oa := Qa
 obtain ⟨⟨ca0, ca1, ca2, ca3, ca4, ca5⟩, fa, sa⟩ := Oa
 have fa := fun o => fa o
 have sxa : w.heap.size < w1.heap.size + 1 := by omega
 have sya : w.heap.size < w1.heap.size + 1 + 1 := by omega
 have Or := Qr
 obtain ⟨⟨cr0, cr1, cr2, cr3, cr4, cr5⟩, fr, sr⟩ := Or
 have fr := fun o => fr o
 have sxr : w.heap.size + 1 < w1.heap.size + 1 := by omega
 have syr : w.heap.size + 1 < w1.heap.size + 1 + 1 := by omega
 go_wp2_with fail
 refine (signed_n (!b) n s _ hn0 hn).mono ?_
 rintro e w2 ⟨rfl, hm2⟩
 have mz : Mo w1 w2 := Mo.trans (by repeat (first | with_reducible exact Mo.refl _ | with_reducible apply Mo.drew | with_reducible apply Mo.alloc)) hm2
 clear ca0 ca1 ca2 ca3 ca4 ca5 fa sa sxa sya cr0 cr1 cr2 cr3 cr4 cr5 fr sr sxr syr
 have Qa := Qa.mo mz
 have Qr := Qr.mo mz
 have M := M.trans mz
 clear hm2 mz
 have Oa := Qa
 obtain ⟨⟨ca0, ca1, ca2, ca3, ca4, ca5⟩, fa, sa⟩ := Oa
 have fa := fun o => fa o
 have sxa : w.heap.size < w2.heap.size + 1 := by omega
 have sya : w.heap.size < w2.heap.size + 1 + 1 := by omega
 have Or := Qr
 obtain ⟨⟨cr0, cr1, cr2, cr3, cr4, cr5⟩, fr, sr⟩ := Or
 have fr := fun o => fr o
 have sxr : w.heap.size + 1 < w2.heap.size + 1 := by omega
 have syr : w.heap.size + 1 < w2.heap.size + 1 + 1 := by omega
 go_wp2
 refine bodyPost_ret (v := .tuple #[dc (!b && !decide (n = 0)) n s, .int .i64 0]) (by simp [results, Tryz.results46, go_sem, *]) rfl ?_
 refine ⟨rfl, ?_⟩
 repeat (first | with_reducible exact M | with_reducible exact Mo.refl _ | with_reducible apply Mo.drew | with_reducible apply Mo.drewN | with_reducible apply Mo.alloc | with_reducible refine Mo.setCell ?_ (by simp <;> omega) _)
def sg (b : Bool) (n : Int) : Int := if n = 0 then 0 else if b then -1 else 1
set_option maxHeartbeats 4000000 in
theorem sign_n (b : Bool) (n s : Int) (w : World) (hn0 : 0 ≤ n) (hn : n < MM) : Calls Tryz.prog 95 #[dc b n s] w fun e w' => e = .returned (.int .i64 (sg b n)) ∧ Mo w w' := by
 have q4 := eq4
 have z4 := zb hn0 hn
 cases hz : decide (n = 0) <;> cases hb : b
 all_goals
  rw [hz] at z4
  have hz2 : Hid _ := hz
  clear hz
  go_enter Tryz.func95, Tryz.ntmps95
  go_wp2
  go_ret
  exact ⟨by have := hz2.out; simp at this; simp [sg, this], (Mo.refl _).alloc _ _⟩
end Go.Proofs.YtogomodbcjpfiaaGreatDoor

namespace Go.Proofs.YtogomodbcjpfiaaGreatDoor
open Go.RowKit
theorem ten_bd (k : Nat) (h : k ≤ 77) : (0 : Int) < 10 ^ k ∧ (10 : Int) ^ k < MM := by
 refine ⟨Int.pow_pos (by decide), ?_⟩
 have h1 : (10 : Nat) ^ k ≤ 10 ^ 77 := Nat.pow_le_pow_right (by decide) h
 have h2 : (10 : Nat) ^ 77 < 115792089237316195423570985008687907853269984665640564039457584007913129639936 := by decide
 have h3 : ((10 ^ k : Nat) : Int) = (10 : Int) ^ k := by rw [Int.natCast_pow]; rfl
 rw [← h3]
 unfold MM
 omega
set_option maxHeartbeats 4000000 in
theorem lift_n (b : Bool) (n s S : Int) (k : Nat) (w : World) (hn0 : 0 ≤ n) (hn : n < MM) (hk : S - s = (k : Int)) (hk7 : k ≤ 77) :
  Calls Tryz.prog 85 #[dc b n s, .int .i64 S] w fun e w' => e = .returned (dw (n * 10 ^ k)) ∧ Mo w w' := by
 have wk : IntKind.i64.wrap (k : Int) = (k : Int) := by rw [IntKind.wrap_i64]; omega
 have t0 := (ten_bd k hk7).1
 have t1 := (ten_bd k hk7).2
 go_enter Tryz.func85, Tryz.ntmps85
 have a : Mo w ((((w).alloc (.cells #[.bool b, .int .u64 (l0 (n)), .int .u64 (l1 (n)), .int .u64 (l2 (n)), .int .u64 (l3 (n)), .int .i64 (s)] 26))).alloc (.cells #[.int .u64 0, .int .u64 0, .int .u64 0, .int .u64 0, .int .u64 0, .int .u64 0, .int .u64 0, .int .u64 0] 94)) := by repeat (first | with_reducible exact Mo.refl _ | with_reducible apply Mo.alloc)
 have M := a
 have Qd : AtD ((((w).alloc (.cells #[.bool b, .int .u64 (l0 (n)), .int .u64 (l1 (n)), .int .u64 (l2 (n)), .int .u64 (l3 (n)), .int .i64 (s)] 26))).alloc (.cells #[.int .u64 0, .int .u64 0, .int .u64 0, .int .u64 0, .int .u64 0, .int .u64 0, .int .u64 0, .int .u64 0] 94)) (w.heap.size) b n s := ⟨by simp [go_sem], fun o => by simp [go_sem], by simp <;> omega⟩
 have Qr : AtW ((((w).alloc (.cells #[.bool b, .int .u64 (l0 (n)), .int .u64 (l1 (n)), .int .u64 (l2 (n)), .int .u64 (l3 (n)), .int .i64 (s)] 26))).alloc (.cells #[.int .u64 0, .int .u64 0, .int .u64 0, .int .u64 0, .int .u64 0, .int .u64 0, .int .u64 0, .int .u64 0] 94)) (w.heap.size + 1) 0 := ⟨by simp [go_sem, zl0, zl1, zl2, zl3], fun o => by simp [go_sem], by simp <;> omega⟩
 clear a
 go_upto_region 1 with fail
 generalize ((((w).alloc (.cells #[.bool b, .int .u64 (l0 (n)), .int .u64 (l1 (n)), .int .u64 (l2 (n)), .int .u64 (l3 (n)), .int .i64 (s)] 26))).alloc (.cells #[.int .u64 0, .int .u64 0, .int .u64 0, .int .u64 0, .int .u64 0, .int .u64 0, .int .u64 0, .int .u64 0] 94)) = W0 at *
 have Od := Qd
 obtain ⟨⟨cd0, cd1, cd2, cd3, cd4, cd5⟩, fd, sd⟩ := Od
 have fd := fun o => fd o
 have sxd : w.heap.size < W0.heap.size + 1 := by omega
 have syd : w.heap.size < W0.heap.size + 1 + 1 := by omega
 have Or := Qr
 obtain ⟨⟨cr0, cr1, cr2, cr3, cr4, cr5, cr6, cr7⟩, fr, sr⟩ := Or
 have fr := fun o => fr o
 have sxr : w.heap.size + 1 < W0.heap.size + 1 := by omega
 have syr : w.heap.size + 1 < W0.heap.size + 1 + 1 := by omega
 go_region_with
  (first | (go_at_call 93; refine (dten_n k _ hk7).mono ?_; rintro e w1 ⟨rfl, hm1⟩; have m1 : Mo W0 w1 := Mo.trans (by repeat (first | with_reducible exact Mo.refl _ | with_reducible apply Mo.drew | with_reducible apply Mo.alloc)) hm1; have d1 := Qd.mo m1; obtain ⟨⟨x0, x1, x2, x3, x4, x5⟩, _, xs⟩ := d1; have r1 := Qr.mo m1; obtain ⟨⟨y0, y1, y2, y3, y4, y5, y6, y7⟩, yf, ys⟩ := r1; have yf := fun o => yf o) | (go_at_call 91; refine (mulDouble_n n (10 ^ k) _ hn0 hn (by omega) t1).mono ?_; rintro e w2 ⟨rfl, hm2⟩; have m2 : Mo w1 w2 := Mo.trans (by repeat (first | with_reducible exact Mo.refl _ | with_reducible apply Mo.drew | with_reducible apply Mo.alloc)) hm2; have m3 := m1.trans m2; have r2 := Qr.mo m3; obtain ⟨⟨z0, z1, z2, z3, z4, z5, z6, z7⟩, zf, zs⟩ := r2; have zf := fun o => zf o))
 all_goals
  go_wp2
  refine bodyPost_ret (v := dw (n * 10 ^ k)) (by simp [results, Tryz.results85, go_sem, *]) rfl ?_
  have M := M.trans m3
  refine ⟨rfl, ?_⟩
  repeat (first | with_reducible exact M | with_reducible exact Mo.refl _ | with_reducible apply Mo.drew | with_reducible apply Mo.drewN | with_reducible apply Mo.alloc | with_reducible refine Mo.setCell ?_ (by simp <;> omega) _)
end Go.Proofs.YtogomodbcjpfiaaGreatDoor

