/-
  A part of the proof.
-/
import Derived.Test.YtogomodbcjpfiaaGreatDoorKa8
import Derived.Test.YtogomodbcjpfiaaGreatDoorKa5
import Derived.Test.YtogomodbcjpfiaaGreatDoorKa4
import Derived.Test.YtogomodbcjpfiaaGreatDoorKa1
import Derived.Test.YtogomodbcjpfiaaGreatDoorProg
import Derived.WalkKit
import Derived.WalkSpells
import Derived.Handy
import Derived.BigQuiet
import Derived.Deep.RegionHeld3
import Derived.Shelf.Small.Bits
import Derived.Shelf.Strconv.Itoa0
import Derived.Shelf.Bits.Mul64
import Derived.Deep.CutBlock
import Derived.Deep.CutRange
import Derived.Test.YtogomodbcjpfiaaGreatDoorKa7
import Derived.Test.YtogomodbcjpfiaaGreatDoorKa6
import Derived.ChangeKeysEq
import Derived.ScopeJumps
import Derived.WalkMore
import Derived.Laws.StructEq
import Derived.Deep.MidRow
import Derived.Test.YtogomodbcjpfiaaGreatDoorKa3
import Derived.Test.YtogomodbcjpfiaaGreatDoorKa2
import Derived.RegionTactic
import Derived.BigCall
namespace Go.Proofs.YtogomodbcjpfiaaGreatDoor
open Go.RowKit
theorem add_m (A B : Int) (w : World) : Calls Tryz.prog 113 #[nv A, nv B] w fun e w' => e = .returned (.tuple #[nv (A % MM + B % MM), .bool (ov (A % MM + B % MM))]) ∧ Mo w w' := by
 have h := add_any (l0 A) (l1 A) (l2 A) (l3 A) (l0 B) (l1 B) (l2 B) (l3 B) w (u4_lb A) (u4_lb B)
 rw [vl_nv, vl_nv] at h
 exact h
theorem dsum {X Y : Int} (hX0 : 0 ≤ X) (hX : X < MM * MM) (hY0 : 0 ≤ Y) (hY : Y < MM * MM) :
  nv (X % MM + Y % MM) = nv (X + Y) ∧ ((ov (X % MM + Y % MM) = false ∧ nv (X / MM % MM + Y / MM % MM) = nv ((X + Y) / MM)) ∨ (ov (X % MM + Y % MM) = true ∧ nv ((X / MM % MM + Y / MM % MM) % MM + 1 % MM) = nv ((X + Y) / MM))) := by
 have p : (0 : Int) < MM := by decide
 have a1 := Int.ediv_nonneg hX0 (show (0 : Int) ≤ MM by omega)
 have a2 := Int.ediv_lt_of_lt_mul p hX
 have b1 := Int.ediv_nonneg hY0 (show (0 : Int) ≤ MM by omega)
 have b2 := Int.ediv_lt_of_lt_mul p hY
 rw [Int.emod_eq_of_lt a1 a2, Int.emod_eq_of_lt b1 b2]
 refine ⟨nv_add_mod X Y, ?_⟩
 have eX := Int.mul_ediv_add_emod X MM
 have eY := Int.mul_ediv_add_emod Y MM
 have cX := Int.emod_nonneg X (show MM ≠ 0 by omega)
 have dX := Int.emod_lt_of_pos X p
 have cY := Int.emod_nonneg Y (show MM ≠ 0 by omega)
 have dY := Int.emod_lt_of_pos Y p
 by_cases h : MM ≤ X % MM + Y % MM
 ·refine Or.inr ⟨decide_eq_true h, ?_⟩
  rw [nv_add_mod]
  congr 1
  unfold MM at *
  omega
 ·refine Or.inl ⟨decide_eq_false h, ?_⟩
  congr 1
  unfold MM at *
  omega
theorem AtW.set178 {w : World} {k j : Nat} {X : Int} (h : AtW w j X) (hk : j ≠ k) (o : Nat) (v : Value) : AtW (w.setCell ⟨k, o, none⟩ v) j X := by
 obtain ⟨⟨b0, b1, b2, b3, b4, b5, b6, b7⟩, f, s⟩ := h
 refine ⟨by simp [go_sem, *], fun o => by simp [World.frozen?_setCell, f o], by simpa [World.setCell] using s⟩
theorem dw_of78 {h l Z : Int} (h1 : nv h = nv (Z / MM)) (h2 : nv l = nv Z) : (Value.agg #[.int .u64 (l0 (h)), .int .u64 (l1 (h)), .int .u64 (l2 (h)), .int .u64 (l3 (h)), .int .u64 (l0 (l)), .int .u64 (l1 (l)), .int .u64 (l2 (l)), .int .u64 (l3 (l))]) = dw Z := by
 simp [nv] at h1 h2
 simp [h1, h2]
set_option maxHeartbeats 4000000 in
theorem addDouble_n (X Y : Int) (w : World) (hX0 : 0 ≤ X) (hX : X < MM * MM) (hY0 : 0 ≤ Y) (hY : Y < MM * MM) :
  Calls Tryz.prog 87 #[dw X, dw Y] w fun e w' => e = .returned (dw (X + Y)) ∧ Mo w w' := by
 obtain ⟨f1, f2⟩ := dsum hX0 hX hY0 hY
 have F1 : Hid _ := f1
 clear f1
 go_enter Tryz.func87, Tryz.ntmps87
 go_wp2_with fail
 refine (add_m X Y _).mono ?_
 rintro e w1 ⟨rfl, hm1⟩
 have m : Mo w w1 := Mo.trans (by repeat (first | with_reducible exact Mo.refl _ | with_reducible apply Mo.drew | with_reducible apply Mo.alloc)) hm1
 have M := m
 have Qx : AtW w1 (w.heap.size) X := AtW.mo ⟨by simp [go_sem], fun o => by simp [go_sem], by simp <;> omega⟩ hm1
 have Qy : AtW w1 (w.heap.size + 1) Y := AtW.mo ⟨by simp [go_sem], fun o => by simp [go_sem], by simp <;> omega⟩ hm1
 have Qr : AtW w1 (w.heap.size + 1 + 1) 0 := AtW.mo ⟨by simp [go_sem, zl0, zl1, zl2, zl3], fun o => by simp [go_sem], by simp <;> omega⟩ hm1
 clear hm1 m
 have Ox := Qx
 obtain ⟨⟨cx0, cx1, cx2, cx3, cx4, cx5, cx6, cx7⟩, fx, sx⟩ := Ox
 have fx := fun o => fx o
 have sxx : w.heap.size < w1.heap.size + 1 := by omega
 have syx : w.heap.size < w1.heap.size + 1 + 1 := by omega
 have Oy := Qy
 obtain ⟨⟨cy0, cy1, cy2, cy3, cy4, cy5, cy6, cy7⟩, fy, sy⟩ := Oy
 have fy := fun o => fy o
 have sxy : w.heap.size + 1 < w1.heap.size + 1 := by omega
 have syy : w.heap.size + 1 < w1.heap.size + 1 + 1 := by omega
 have Or := Qr
 obtain ⟨⟨cr0, cr1, cr2, cr3, cr4, cr5, cr6, cr7⟩, fr, sr⟩ := Or
 have fr := fun o => fr o
 have sxr : w.heap.size + 1 + 1 < w1.heap.size + 1 := by omega
 have syr : w.heap.size + 1 + 1 < w1.heap.size + 1 + 1 := by omega
 obtain ⟨lo, hlo⟩ : ∃ lo, lo = X % MM + Y % MM := ⟨_, rfl⟩
 rw [← hlo] at f2 F1 ⊢
 have HL : Hid _ := hlo
 clear hlo
 go_wp2_with fail
 refine (add_m (X / MM) (Y / MM) _).mono ?_
 rintro e w2 ⟨rfl, hm2⟩
 have m : Mo w1 w2 := Mo.trans (by repeat (first | with_reducible exact Mo.refl _ | with_reducible apply Mo.drew | with_reducible apply Mo.alloc)) hm2
 clear cx0 cx1 cx2 cx3 cx4 cx5 cx6 cx7 fx sx sxx syx cy0 cy1 cy2 cy3 cy4 cy5 cy6 cy7 fy sy sxy syy cr0 cr1 cr2 cr3 cr4 cr5 cr6 cr7 fr sr sxr syr
 have Qx := Qx.mo m
 have Qy := Qy.mo m
 have Qr := Qr.mo m
 have M := M.trans m
 have Ql : AtN w2 (w1.heap.size) lo := AtN.mo ⟨by simp [At4, go_sem], fun o => by simp [go_sem], by simp <;> omega⟩ hm2
 clear hm2 m
 have Ox := Qx
 obtain ⟨⟨cx0, cx1, cx2, cx3, cx4, cx5, cx6, cx7⟩, fx, sx⟩ := Ox
 have fx := fun o => fx o
 have sxx : w.heap.size < w2.heap.size + 1 := by omega
 have syx : w.heap.size < w2.heap.size + 1 + 1 := by omega
 have Oy := Qy
 obtain ⟨⟨cy0, cy1, cy2, cy3, cy4, cy5, cy6, cy7⟩, fy, sy⟩ := Oy
 have fy := fun o => fy o
 have sxy : w.heap.size + 1 < w2.heap.size + 1 := by omega
 have syy : w.heap.size + 1 < w2.heap.size + 1 + 1 := by omega
 have Or := Qr
 obtain ⟨⟨cr0, cr1, cr2, cr3, cr4, cr5, cr6, cr7⟩, fr, sr⟩ := Or
 have fr := fun o => fr o
 have sxr : w.heap.size + 1 + 1 < w2.heap.size + 1 := by omega
 have syr : w.heap.size + 1 + 1 < w2.heap.size + 1 + 1 := by omega
 have Ol := Ql
 obtain ⟨⟨cl0, cl1, cl2, cl3⟩, fl, sl⟩ := Ol
 have fl := fun o => fl o
 have sxl : w1.heap.size < w2.heap.size + 1 := by omega
 have syl : w1.heap.size < w2.heap.size + 1 + 1 := by omega
 obtain ⟨hi, hhi⟩ : ∃ hi, hi = X / MM % MM + Y / MM % MM := ⟨_, rfl⟩
 rw [← hhi] at f2 ⊢
 have HH : Hid _ := hhi
 clear hhi
 rcases f2 with ⟨g1, g2⟩ | ⟨g1, g2⟩
 ·have G2 : Hid _ := g2
  clear g2
  have a : Mo w2 ((w2).alloc (.cells #[.int .u64 (l0 (hi)), .int .u64 (l1 (hi)), .int .u64 (l2 (hi)), .int .u64 (l3 (hi))] 24)) := by repeat (first | with_reducible exact Mo.refl _ | with_reducible apply Mo.alloc)
  have zW0x := sx
  have zW0y := sy
  have zW0r := sr
  have zW0l := sl
  clear cx0 cx1 cx2 cx3 cx4 cx5 cx6 cx7 fx sx sxx syx cy0 cy1 cy2 cy3 cy4 cy5 cy6 cy7 fy sy sxy syy cr0 cr1 cr2 cr3 cr4 cr5 cr6 cr7 fr sr sxr syr cl0 cl1 cl2 cl3 fl sl sxl syl
  have Qx := Qx.mo a
  have Qy := Qy.mo a
  have Qr := Qr.mo a
  have Ql := Ql.mo a
  have M := M.trans a
  have Qh : AtN ((w2).alloc (.cells #[.int .u64 (l0 (hi)), .int .u64 (l1 (hi)), .int .u64 (l2 (hi)), .int .u64 (l3 (hi))] 24)) (w2.heap.size) hi := ⟨by simp [At4, go_sem], fun o => by simp [go_sem], by simp <;> omega⟩
  clear a
  go_upto_region 5 with fail
  generalize ((w2).alloc (.cells #[.int .u64 (l0 (hi)), .int .u64 (l1 (hi)), .int .u64 (l2 (hi)), .int .u64 (l3 (hi))] 24)) = W0 at *
  have Ox := Qx
  obtain ⟨⟨cx0, cx1, cx2, cx3, cx4, cx5, cx6, cx7⟩, fx, sx⟩ := Ox
  have fx := fun o => fx o
  have sxx : w.heap.size < W0.heap.size + 1 := by omega
  have syx : w.heap.size < W0.heap.size + 1 + 1 := by omega
  have Oy := Qy
  obtain ⟨⟨cy0, cy1, cy2, cy3, cy4, cy5, cy6, cy7⟩, fy, sy⟩ := Oy
  have fy := fun o => fy o
  have sxy : w.heap.size + 1 < W0.heap.size + 1 := by omega
  have syy : w.heap.size + 1 < W0.heap.size + 1 + 1 := by omega
  have Or := Qr
  obtain ⟨⟨cr0, cr1, cr2, cr3, cr4, cr5, cr6, cr7⟩, fr, sr⟩ := Or
  have fr := fun o => fr o
  have sxr : w.heap.size + 1 + 1 < W0.heap.size + 1 := by omega
  have syr : w.heap.size + 1 + 1 < W0.heap.size + 1 + 1 := by omega
  have Ol := Ql
  obtain ⟨⟨cl0, cl1, cl2, cl3⟩, fl, sl⟩ := Ol
  have fl := fun o => fl o
  have sxl : w1.heap.size < W0.heap.size + 1 := by omega
  have syl : w1.heap.size < W0.heap.size + 1 + 1 := by omega
  have Oh := Qh
  obtain ⟨⟨ch0, ch1, ch2, ch3⟩, fh, sh⟩ := Oh
  have fh := fun o => fh o
  have sxh : w2.heap.size < W0.heap.size + 1 := by omega
  have syh : w2.heap.size < W0.heap.size + 1 + 1 := by omega
  go_wp2
  refine bodyPost_ret (v := .agg #[.int .u64 (l0 (hi)), .int .u64 (l1 (hi)), .int .u64 (l2 (hi)), .int .u64 (l3 (hi)), .int .u64 (l0 (lo)), .int .u64 (l1 (lo)), .int .u64 (l2 (lo)), .int .u64 (l3 (lo))]) (by simp [results, Tryz.results87, go_sem, *]) rfl ?_
  refine ⟨by rw [dw_of78 G2.out F1.out], ?_⟩
  repeat (first | with_reducible exact M | with_reducible exact Mo.refl _ | with_reducible apply Mo.drew | with_reducible apply Mo.drewN | with_reducible apply Mo.alloc | with_reducible refine Mo.setCell ?_ (by simp <;> omega) _)
 ·have G2 : Hid _ := g2
  clear g2
  have a : Mo w2 ((w2).alloc (.cells #[.int .u64 (l0 (hi)), .int .u64 (l1 (hi)), .int .u64 (l2 (hi)), .int .u64 (l3 (hi))] 24)) := by repeat (first | with_reducible exact Mo.refl _ | with_reducible apply Mo.alloc)
  have zW0x := sx
  have zW0y := sy
  have zW0r := sr
  have zW0l := sl
  clear cx0 cx1 cx2 cx3 cx4 cx5 cx6 cx7 fx sx sxx syx cy0 cy1 cy2 cy3 cy4 cy5 cy6 cy7 fy sy sxy syy cr0 cr1 cr2 cr3 cr4 cr5 cr6 cr7 fr sr sxr syr cl0 cl1 cl2 cl3 fl sl sxl syl
  have Qx := Qx.mo a
  have Qy := Qy.mo a
  have Qr := Qr.mo a
  have Ql := Ql.mo a
  have M := M.trans a
  have Qh : AtN ((w2).alloc (.cells #[.int .u64 (l0 (hi)), .int .u64 (l1 (hi)), .int .u64 (l2 (hi)), .int .u64 (l3 (hi))] 24)) (w2.heap.size) hi := ⟨by simp [At4, go_sem], fun o => by simp [go_sem], by simp <;> omega⟩
  clear a
  go_upto_region 4 with fail
  generalize ((w2).alloc (.cells #[.int .u64 (l0 (hi)), .int .u64 (l1 (hi)), .int .u64 (l2 (hi)), .int .u64 (l3 (hi))] 24)) = W0 at *
  have Ox := Qx
  obtain ⟨⟨cx0, cx1, cx2, cx3, cx4, cx5, cx6, cx7⟩, fx, sx⟩ := Ox
  have fx := fun o => fx o
  have sxx : w.heap.size < W0.heap.size + 1 := by omega
  have syx : w.heap.size < W0.heap.size + 1 + 1 := by omega
  have Oy := Qy
  obtain ⟨⟨cy0, cy1, cy2, cy3, cy4, cy5, cy6, cy7⟩, fy, sy⟩ := Oy
  have fy := fun o => fy o
  have sxy : w.heap.size + 1 < W0.heap.size + 1 := by omega
  have syy : w.heap.size + 1 < W0.heap.size + 1 + 1 := by omega
  have Or := Qr
  obtain ⟨⟨cr0, cr1, cr2, cr3, cr4, cr5, cr6, cr7⟩, fr, sr⟩ := Or
  have fr := fun o => fr o
  have sxr : w.heap.size + 1 + 1 < W0.heap.size + 1 := by omega
  have syr : w.heap.size + 1 + 1 < W0.heap.size + 1 + 1 := by omega
  have Ol := Ql
  obtain ⟨⟨cl0, cl1, cl2, cl3⟩, fl, sl⟩ := Ol
  have fl := fun o => fl o
  have sxl : w1.heap.size < W0.heap.size + 1 := by omega
  have syl : w1.heap.size < W0.heap.size + 1 + 1 := by omega
  have Oh := Qh
  obtain ⟨⟨ch0, ch1, ch2, ch3⟩, fh, sh⟩ := Oh
  have fh := fun o => fh o
  have sxh : w2.heap.size < W0.heap.size + 1 := by omega
  have syh : w2.heap.size < W0.heap.size + 1 + 1 := by omega
  go_cut [] from 26 to 31 (fun wx => Mo w wx ∧ AtN wx w2.heap.size (hi % MM + 1 % MM) ∧ AtN wx w1.heap.size lo ∧ AtW wx (w.heap.size + 1 + 1) 0)
  case first =>
   go_region_with
    (first | (go_at_call 72; refine (from20_any 1 _ ⟨by decide, by decide⟩).mono ?_; rintro e w5 ⟨rfl, hm5⟩; have m5 : Mo W0 w5 := Mo.trans (by repeat (first | with_reducible exact Mo.refl _ | with_reducible apply Mo.drew | with_reducible apply Mo.alloc)) hm5; obtain ⟨⟨x0, x1, x2, x3⟩, _, xs⟩ := Qh.mo m5) | (go_at_call 113; refine (add_m hi 1 _).mono ?_; rintro e w6 ⟨rfl, hm6⟩; have m6 : Mo w5 w6 := Mo.trans (by repeat (first | with_reducible exact Mo.refl _ | with_reducible apply Mo.drew | with_reducible apply Mo.alloc)) hm6; have m7 := m5.trans m6; obtain ⟨⟨z0, z1, z2, z3⟩, zf, zs⟩ := Qh.mo m7; have zf := fun o => zf o))
   all_goals
    go_wp2
    go_meet
    case rel => exact ⟨(M.trans m7).st4 (by omega) _, (Qh.mo m7).same _, (Ql.mo m7).other (by omega) _, ((((Qr.mo m7).set178 (by omega) _ _).set178 (by omega) _ _).set178 (by omega) _ _).set178 (by omega) _ _⟩
  case rest =>
   clear cx0 cx1 cx2 cx3 cx4 cx5 cx6 cx7 fx sx sxx syx cy0 cy1 cy2 cy3 cy4 cy5 cy6 cy7 fy sy sxy syy cr0 cr1 cr2 cr3 cr4 cr5 cr6 cr7 fr sr sxr syr cl0 cl1 cl2 cl3 fl sl sxl syl ch0 ch1 ch2 ch3 fh sh sxh syh Qx Qy Qr Ql Qh M
   obtain ⟨M, Qh, Ql, Qr⟩ := hcut
   obtain ⟨⟨a0, a1, a2, a3⟩, _, sa⟩ := Qh
   obtain ⟨⟨b0, b1, b2, b3⟩, _, sb⟩ := Ql
   obtain ⟨⟨c0, c1, c2, c3, c4, c5, c6, c7⟩, fc, sc⟩ := Qr
   have fc := fun o => fc o
   go_wp2
   refine bodyPost_ret (v := .agg #[.int .u64 (l0 (hi % MM + 1 % MM)), .int .u64 (l1 (hi % MM + 1 % MM)), .int .u64 (l2 (hi % MM + 1 % MM)), .int .u64 (l3 (hi % MM + 1 % MM)), .int .u64 (l0 (lo)), .int .u64 (l1 (lo)), .int .u64 (l2 (lo)), .int .u64 (l3 (lo))]) (by simp [results, Tryz.results87, go_sem, *]) rfl ?_
   refine ⟨by rw [dw_of78 G2.out F1.out], ?_⟩
   repeat (first | with_reducible exact M | with_reducible exact Mo.refl _ | with_reducible apply Mo.drew | with_reducible apply Mo.drewN | with_reducible apply Mo.alloc | with_reducible refine Mo.setCell ?_ (by simp <;> omega) _)
end Go.Proofs.YtogomodbcjpfiaaGreatDoor

namespace Go.Proofs.YtogomodbcjpfiaaGreatDoor
open Go.RowKit
theorem sub_m (A B : Int) (w : World) : Calls Tryz.prog 115 #[nv A, nv B] w fun e w' => e = .returned (.tuple #[nv (A % MM - B % MM), .bool (un (A % MM - B % MM))]) ∧ Mo w w' := by
 have h := sub_any (l0 A) (l1 A) (l2 A) (l3 A) (l0 B) (l1 B) (l2 B) (l3 B) w (u4_lb A) (u4_lb B)
 rw [vl_nv, vl_nv, nv_mod] at h
 exact h
theorem ddif {X Y : Int} (hX0 : 0 ≤ X) (hX : X < MM * MM) (hY0 : 0 ≤ Y) (hY : Y < MM * MM) :
  nv (X % MM - Y % MM) = nv (X - Y) ∧ ((un (X % MM - Y % MM) = false ∧ nv (X / MM % MM - Y / MM % MM) = nv ((X - Y) / MM)) ∨ (un (X % MM - Y % MM) = true ∧ nv ((X / MM % MM - Y / MM % MM) % MM - 1 % MM) = nv ((X - Y) / MM))) := by
 have p : (0 : Int) < MM := by decide
 have a1 := Int.ediv_nonneg hX0 (show (0 : Int) ≤ MM by omega)
 have a2 := Int.ediv_lt_of_lt_mul p hX
 have b1 := Int.ediv_nonneg hY0 (show (0 : Int) ≤ MM by omega)
 have b2 := Int.ediv_lt_of_lt_mul p hY
 have em : ∀ a b : Int, nv (a % MM - b % MM) = nv (a - b) := fun a b => by rw [← nv_mod (a % MM - b % MM), ← nv_mod (a - b), ← Int.sub_emod]
 rw [Int.emod_eq_of_lt a1 a2, Int.emod_eq_of_lt b1 b2]
 refine ⟨em X Y, ?_⟩
 have eX := Int.mul_ediv_add_emod X MM
 have eY := Int.mul_ediv_add_emod Y MM
 have cX := Int.emod_nonneg X (show MM ≠ 0 by omega)
 have dX := Int.emod_lt_of_pos X p
 have cY := Int.emod_nonneg Y (show MM ≠ 0 by omega)
 have dY := Int.emod_lt_of_pos Y p
 by_cases h : X % MM - Y % MM < 0
 ·refine Or.inr ⟨decide_eq_true h, ?_⟩
  rw [em]
  congr 1
  unfold MM at *
  omega
 ·refine Or.inl ⟨decide_eq_false h, ?_⟩
  congr 1
  unfold MM at *
  omega
theorem AtW.set180 {w : World} {k j : Nat} {X : Int} (h : AtW w j X) (hk : j ≠ k) (o : Nat) (v : Value) : AtW (w.setCell ⟨k, o, none⟩ v) j X := by
 obtain ⟨⟨b0, b1, b2, b3, b4, b5, b6, b7⟩, f, s⟩ := h
 refine ⟨by simp [go_sem, *], fun o => by simp [World.frozen?_setCell, f o], by simpa [World.setCell] using s⟩
theorem dw_of80 {h l Z : Int} (h1 : nv h = nv (Z / MM)) (h2 : nv l = nv Z) : (Value.agg #[.int .u64 (l0 (h)), .int .u64 (l1 (h)), .int .u64 (l2 (h)), .int .u64 (l3 (h)), .int .u64 (l0 (l)), .int .u64 (l1 (l)), .int .u64 (l2 (l)), .int .u64 (l3 (l))]) = dw Z := by
 simp [nv] at h1 h2
 simp [h1, h2]
set_option maxHeartbeats 4000000 in
theorem subDouble_n (X Y : Int) (w : World) (hX0 : 0 ≤ X) (hX : X < MM * MM) (hY0 : 0 ≤ Y) (hY : Y < MM * MM) :
  Calls Tryz.prog 89 #[dw X, dw Y] w fun e w' => e = .returned (dw (X - Y)) ∧ Mo w w' := by
 obtain ⟨f1, f2⟩ := ddif hX0 hX hY0 hY
 have F1 : Hid _ := f1
 clear f1
 go_enter Tryz.func89, Tryz.ntmps89
 go_wp2_with fail
 refine (sub_m X Y _).mono ?_
 rintro e w1 ⟨rfl, hm1⟩
 have m : Mo w w1 := Mo.trans (by repeat (first | with_reducible exact Mo.refl _ | with_reducible apply Mo.drew | with_reducible apply Mo.alloc)) hm1
 have M := m
 have Qx : AtW w1 (w.heap.size) X := AtW.mo ⟨by simp [go_sem], fun o => by simp [go_sem], by simp <;> omega⟩ hm1
 have Qy : AtW w1 (w.heap.size + 1) Y := AtW.mo ⟨by simp [go_sem], fun o => by simp [go_sem], by simp <;> omega⟩ hm1
 have Qr : AtW w1 (w.heap.size + 1 + 1) 0 := AtW.mo ⟨by simp [go_sem, zl0, zl1, zl2, zl3], fun o => by simp [go_sem], by simp <;> omega⟩ hm1
 clear hm1 m
 have Ox := Qx
 obtain ⟨⟨cx0, cx1, cx2, cx3, cx4, cx5, cx6, cx7⟩, fx, sx⟩ := Ox
 have fx := fun o => fx o
 have sxx : w.heap.size < w1.heap.size + 1 := by omega
 have syx : w.heap.size < w1.heap.size + 1 + 1 := by omega
 have Oy := Qy
 obtain ⟨⟨cy0, cy1, cy2, cy3, cy4, cy5, cy6, cy7⟩, fy, sy⟩ := Oy
 have fy := fun o => fy o
 have sxy : w.heap.size + 1 < w1.heap.size + 1 := by omega
 have syy : w.heap.size + 1 < w1.heap.size + 1 + 1 := by omega
 have Or := Qr
 obtain ⟨⟨cr0, cr1, cr2, cr3, cr4, cr5, cr6, cr7⟩, fr, sr⟩ := Or
 have fr := fun o => fr o
 have sxr : w.heap.size + 1 + 1 < w1.heap.size + 1 := by omega
 have syr : w.heap.size + 1 + 1 < w1.heap.size + 1 + 1 := by omega
 obtain ⟨lo, hlo⟩ : ∃ lo, lo = X % MM - Y % MM := ⟨_, rfl⟩
 rw [← hlo] at f2 F1 ⊢
 have HL : Hid _ := hlo
 clear hlo
 go_wp2_with fail
 refine (sub_m (X / MM) (Y / MM) _).mono ?_
 rintro e w2 ⟨rfl, hm2⟩
 have m : Mo w1 w2 := Mo.trans (by repeat (first | with_reducible exact Mo.refl _ | with_reducible apply Mo.drew | with_reducible apply Mo.alloc)) hm2
 clear cx0 cx1 cx2 cx3 cx4 cx5 cx6 cx7 fx sx sxx syx cy0 cy1 cy2 cy3 cy4 cy5 cy6 cy7 fy sy sxy syy cr0 cr1 cr2 cr3 cr4 cr5 cr6 cr7 fr sr sxr syr
 have Qx := Qx.mo m
 have Qy := Qy.mo m
 have Qr := Qr.mo m
 have M := M.trans m
 have Ql : AtN w2 (w1.heap.size) lo := AtN.mo ⟨by simp [At4, go_sem], fun o => by simp [go_sem], by simp <;> omega⟩ hm2
 clear hm2 m
 have Ox := Qx
 obtain ⟨⟨cx0, cx1, cx2, cx3, cx4, cx5, cx6, cx7⟩, fx, sx⟩ := Ox
 have fx := fun o => fx o
 have sxx : w.heap.size < w2.heap.size + 1 := by omega
 have syx : w.heap.size < w2.heap.size + 1 + 1 := by omega
 have Oy := Qy
 obtain ⟨⟨cy0, cy1, cy2, cy3, cy4, cy5, cy6, cy7⟩, fy, sy⟩ := Oy
 have fy := fun o => fy o
 have sxy : w.heap.size + 1 < w2.heap.size + 1 := by omega
 have syy : w.heap.size + 1 < w2.heap.size + 1 + 1 := by omega
 have Or := Qr
 obtain ⟨⟨cr0, cr1, cr2, cr3, cr4, cr5, cr6, cr7⟩, fr, sr⟩ := Or
 have fr := fun o => fr o
 have sxr : w.heap.size + 1 + 1 < w2.heap.size + 1 := by omega
 have syr : w.heap.size + 1 + 1 < w2.heap.size + 1 + 1 := by omega
 have Ol := Ql
 obtain ⟨⟨cl0, cl1, cl2, cl3⟩, fl, sl⟩ := Ol
 have fl := fun o => fl o
 have sxl : w1.heap.size < w2.heap.size + 1 := by omega
 have syl : w1.heap.size < w2.heap.size + 1 + 1 := by omega
 obtain ⟨hi, hhi⟩ : ∃ hi, hi = X / MM % MM - Y / MM % MM := ⟨_, rfl⟩
 rw [← hhi] at f2 ⊢
 have HH : Hid _ := hhi
 clear hhi
 rcases f2 with ⟨g1, g2⟩ | ⟨g1, g2⟩
 ·have G2 : Hid _ := g2
  clear g2
  have a : Mo w2 ((w2).alloc (.cells #[.int .u64 (l0 (hi)), .int .u64 (l1 (hi)), .int .u64 (l2 (hi)), .int .u64 (l3 (hi))] 24)) := by repeat (first | with_reducible exact Mo.refl _ | with_reducible apply Mo.alloc)
  have zW0x := sx
  have zW0y := sy
  have zW0r := sr
  have zW0l := sl
  clear cx0 cx1 cx2 cx3 cx4 cx5 cx6 cx7 fx sx sxx syx cy0 cy1 cy2 cy3 cy4 cy5 cy6 cy7 fy sy sxy syy cr0 cr1 cr2 cr3 cr4 cr5 cr6 cr7 fr sr sxr syr cl0 cl1 cl2 cl3 fl sl sxl syl
  have Qx := Qx.mo a
  have Qy := Qy.mo a
  have Qr := Qr.mo a
  have Ql := Ql.mo a
  have M := M.trans a
  have Qh : AtN ((w2).alloc (.cells #[.int .u64 (l0 (hi)), .int .u64 (l1 (hi)), .int .u64 (l2 (hi)), .int .u64 (l3 (hi))] 24)) (w2.heap.size) hi := ⟨by simp [At4, go_sem], fun o => by simp [go_sem], by simp <;> omega⟩
  clear a
  go_upto_region 5 with fail
  generalize ((w2).alloc (.cells #[.int .u64 (l0 (hi)), .int .u64 (l1 (hi)), .int .u64 (l2 (hi)), .int .u64 (l3 (hi))] 24)) = W0 at *
  have Ox := Qx
  obtain ⟨⟨cx0, cx1, cx2, cx3, cx4, cx5, cx6, cx7⟩, fx, sx⟩ := Ox
  have fx := fun o => fx o
  have sxx : w.heap.size < W0.heap.size + 1 := by omega
  have syx : w.heap.size < W0.heap.size + 1 + 1 := by omega
  have Oy := Qy
  obtain ⟨⟨cy0, cy1, cy2, cy3, cy4, cy5, cy6, cy7⟩, fy, sy⟩ := Oy
  have fy := fun o => fy o
  have sxy : w.heap.size + 1 < W0.heap.size + 1 := by omega
  have syy : w.heap.size + 1 < W0.heap.size + 1 + 1 := by omega
  have Or := Qr
  obtain ⟨⟨cr0, cr1, cr2, cr3, cr4, cr5, cr6, cr7⟩, fr, sr⟩ := Or
  have fr := fun o => fr o
  have sxr : w.heap.size + 1 + 1 < W0.heap.size + 1 := by omega
  have syr : w.heap.size + 1 + 1 < W0.heap.size + 1 + 1 := by omega
  have Ol := Ql
  obtain ⟨⟨cl0, cl1, cl2, cl3⟩, fl, sl⟩ := Ol
  have fl := fun o => fl o
  have sxl : w1.heap.size < W0.heap.size + 1 := by omega
  have syl : w1.heap.size < W0.heap.size + 1 + 1 := by omega
  have Oh := Qh
  obtain ⟨⟨ch0, ch1, ch2, ch3⟩, fh, sh⟩ := Oh
  have fh := fun o => fh o
  have sxh : w2.heap.size < W0.heap.size + 1 := by omega
  have syh : w2.heap.size < W0.heap.size + 1 + 1 := by omega
  go_wp2
  refine bodyPost_ret (v := .agg #[.int .u64 (l0 (hi)), .int .u64 (l1 (hi)), .int .u64 (l2 (hi)), .int .u64 (l3 (hi)), .int .u64 (l0 (lo)), .int .u64 (l1 (lo)), .int .u64 (l2 (lo)), .int .u64 (l3 (lo))]) (by simp [results, Tryz.results89, go_sem, *]) rfl ?_
  refine ⟨by rw [dw_of80 G2.out F1.out], ?_⟩
  repeat (first | with_reducible exact M | with_reducible exact Mo.refl _ | with_reducible apply Mo.drew | with_reducible apply Mo.drewN | with_reducible apply Mo.alloc | with_reducible refine Mo.setCell ?_ (by simp <;> omega) _)
 ·have G2 : Hid _ := g2
  clear g2
  have a : Mo w2 ((w2).alloc (.cells #[.int .u64 (l0 (hi)), .int .u64 (l1 (hi)), .int .u64 (l2 (hi)), .int .u64 (l3 (hi))] 24)) := by repeat (first | with_reducible exact Mo.refl _ | with_reducible apply Mo.alloc)
  have zW0x := sx
  have zW0y := sy
  have zW0r := sr
  have zW0l := sl
  clear cx0 cx1 cx2 cx3 cx4 cx5 cx6 cx7 fx sx sxx syx cy0 cy1 cy2 cy3 cy4 cy5 cy6 cy7 fy sy sxy syy cr0 cr1 cr2 cr3 cr4 cr5 cr6 cr7 fr sr sxr syr cl0 cl1 cl2 cl3 fl sl sxl syl
  have Qx := Qx.mo a
  have Qy := Qy.mo a
  have Qr := Qr.mo a
  have Ql := Ql.mo a
  have M := M.trans a
  have Qh : AtN ((w2).alloc (.cells #[.int .u64 (l0 (hi)), .int .u64 (l1 (hi)), .int .u64 (l2 (hi)), .int .u64 (l3 (hi))] 24)) (w2.heap.size) hi := ⟨by simp [At4, go_sem], fun o => by simp [go_sem], by simp <;> omega⟩
  clear a
  go_upto_region 4 with fail
  generalize ((w2).alloc (.cells #[.int .u64 (l0 (hi)), .int .u64 (l1 (hi)), .int .u64 (l2 (hi)), .int .u64 (l3 (hi))] 24)) = W0 at *
  have Ox := Qx
  obtain ⟨⟨cx0, cx1, cx2, cx3, cx4, cx5, cx6, cx7⟩, fx, sx⟩ := Ox
  have fx := fun o => fx o
  have sxx : w.heap.size < W0.heap.size + 1 := by omega
  have syx : w.heap.size < W0.heap.size + 1 + 1 := by omega
  have Oy := Qy
  obtain ⟨⟨cy0, cy1, cy2, cy3, cy4, cy5, cy6, cy7⟩, fy, sy⟩ := Oy
  have fy := fun o => fy o
  have sxy : w.heap.size + 1 < W0.heap.size + 1 := by omega
  have syy : w.heap.size + 1 < W0.heap.size + 1 + 1 := by omega
  have Or := Qr
  obtain ⟨⟨cr0, cr1, cr2, cr3, cr4, cr5, cr6, cr7⟩, fr, sr⟩ := Or
  have fr := fun o => fr o
  have sxr : w.heap.size + 1 + 1 < W0.heap.size + 1 := by omega
  have syr : w.heap.size + 1 + 1 < W0.heap.size + 1 + 1 := by omega
  have Ol := Ql
  obtain ⟨⟨cl0, cl1, cl2, cl3⟩, fl, sl⟩ := Ol
  have fl := fun o => fl o
  have sxl : w1.heap.size < W0.heap.size + 1 := by omega
  have syl : w1.heap.size < W0.heap.size + 1 + 1 := by omega
  have Oh := Qh
  obtain ⟨⟨ch0, ch1, ch2, ch3⟩, fh, sh⟩ := Oh
  have fh := fun o => fh o
  have sxh : w2.heap.size < W0.heap.size + 1 := by omega
  have syh : w2.heap.size < W0.heap.size + 1 + 1 := by omega
  go_cut [] from 26 to 31 (fun wx => Mo w wx ∧ AtN wx w2.heap.size (hi % MM - 1 % MM) ∧ AtN wx w1.heap.size lo ∧ AtW wx (w.heap.size + 1 + 1) 0)
  case first =>
   go_region_with
    (first | (go_at_call 72; refine (from20_any 1 _ ⟨by decide, by decide⟩).mono ?_; rintro e w5 ⟨rfl, hm5⟩; have m5 : Mo W0 w5 := Mo.trans (by repeat (first | with_reducible exact Mo.refl _ | with_reducible apply Mo.drew | with_reducible apply Mo.alloc)) hm5; obtain ⟨⟨x0, x1, x2, x3⟩, _, xs⟩ := Qh.mo m5) | (go_at_call 115; refine (sub_m hi 1 _).mono ?_; rintro e w6 ⟨rfl, hm6⟩; have m6 : Mo w5 w6 := Mo.trans (by repeat (first | with_reducible exact Mo.refl _ | with_reducible apply Mo.drew | with_reducible apply Mo.alloc)) hm6; have m7 := m5.trans m6; obtain ⟨⟨z0, z1, z2, z3⟩, zf, zs⟩ := Qh.mo m7; have zf := fun o => zf o))
   all_goals
    go_wp2
    go_meet
    case rel => exact ⟨(M.trans m7).st4 (by omega) _, (Qh.mo m7).same _, (Ql.mo m7).other (by omega) _, ((((Qr.mo m7).set180 (by omega) _ _).set180 (by omega) _ _).set180 (by omega) _ _).set180 (by omega) _ _⟩
  case rest =>
   clear cx0 cx1 cx2 cx3 cx4 cx5 cx6 cx7 fx sx sxx syx cy0 cy1 cy2 cy3 cy4 cy5 cy6 cy7 fy sy sxy syy cr0 cr1 cr2 cr3 cr4 cr5 cr6 cr7 fr sr sxr syr cl0 cl1 cl2 cl3 fl sl sxl syl ch0 ch1 ch2 ch3 fh sh sxh syh Qx Qy Qr Ql Qh M
   obtain ⟨M, Qh, Ql, Qr⟩ := hcut
   obtain ⟨⟨a0, a1, a2, a3⟩, _, sa⟩ := Qh
   obtain ⟨⟨b0, b1, b2, b3⟩, _, sb⟩ := Ql
   obtain ⟨⟨c0, c1, c2, c3, c4, c5, c6, c7⟩, fc, sc⟩ := Qr
   have fc := fun o => fc o
   go_wp2
   refine bodyPost_ret (v := .agg #[.int .u64 (l0 (hi % MM - 1 % MM)), .int .u64 (l1 (hi % MM - 1 % MM)), .int .u64 (l2 (hi % MM - 1 % MM)), .int .u64 (l3 (hi % MM - 1 % MM)), .int .u64 (l0 (lo)), .int .u64 (l1 (lo)), .int .u64 (l2 (lo)), .int .u64 (l3 (lo))]) (by simp [results, Tryz.results89, go_sem, *]) rfl ?_
   refine ⟨by rw [dw_of80 G2.out F1.out], ?_⟩
   repeat (first | with_reducible exact M | with_reducible exact Mo.refl _ | with_reducible apply Mo.drew | with_reducible apply Mo.drewN | with_reducible apply Mo.alloc | with_reducible refine Mo.setCell ?_ (by simp <;> omega) _)
end Go.Proofs.YtogomodbcjpfiaaGreatDoor

namespace Go.Proofs.YtogomodbcjpfiaaGreatDoor
open Go.RowKit
def ab (v : Int) : Int := if v < 0 then -v else v
abbrev dz (v s : Int) : Value := dc (decide (v < 0)) (ab v) s
theorem ab_nn (v : Int) : 0 ≤ ab v := by unfold ab; split <;> omega
theorem ck_dz {v s : Int} (h : sc s = true) : ck (decide (v < 0)) (ab v) s = 0 := by
 unfold ck
 rw [h]
 have : (decide (v < 0) && decide (ab v = 0)) = false := by
  unfold ab
  by_cases hv : v < 0
  ·rw [if_pos hv, decide_eq_false (p := -v = 0) (by omega)]; simp
  ·rw [decide_eq_false hv]; rfl
 rw [this]; rfl
theorem sc_iff {s : Int} : sc s = true ↔ 0 ≤ s ∧ s ≤ 18 := by unfold sc; simp
def fz (v s : Int) : Value := if ab v < MM then .tuple #[dz v s, .int .i64 0] else er 7
theorem fit_z (b : Bool) (X s v : Int) (w : World) (hX : X = ab v) (hX2 : X < MM * MM) (hb : X ≠ 0 → b = decide (v < 0)) :
  Calls Tryz.prog 86 #[.bool b, dw X, .int .i64 s] w fun e w' => e = .returned (fz v s) ∧ Mo w w' := by
 have h0 := ab_nn v
 unfold fz
 subst hX
 by_cases h : ab v < MM
 ·rw [if_pos h]
  have e : (b && !decide (ab v = 0)) = decide (v < 0) := by
   by_cases hz : ab v = 0
   ·rw [decide_eq_true hz, decide_eq_false (p := v < 0) (by unfold ab at hz; split at hz <;> omega)]; simp
   ·rw [decide_eq_false hz, hb hz]; simp
  have hh := fit_yes b (ab v) s w h0 h
  rw [e] at hh
  exact hh
 ·rw [if_neg h]
  exact fit_no b (ab v) s w (by omega) hX2
end Go.Proofs.YtogomodbcjpfiaaGreatDoor

namespace Go.Proofs.YtogomodbcjpfiaaGreatDoor
open Go.RowKit
def dwa (X : Int) : Array Value := #[.int .u64 (l0 (X / MM)), .int .u64 (l1 (X / MM)), .int .u64 (l2 (X / MM)), .int .u64 (l3 (X / MM)), .int .u64 (l0 X), .int .u64 (l1 X), .int .u64 (l2 X), .int .u64 (l3 X)]
abbrev dx (X : Int) : Value := .agg (dwa X)
theorem dwa_size (X : Int) : (dwa X).size = 8 := rfl
theorem dwa_len (X : Int) : (dwa X).toList.length = 8 := rfl
def AtX (w : World) (k : Nat) (X : Int) : Prop := w.rangeAt k 0 (dwa X).toList ∧ w.there k 0 8 ∧ k < w.heap.size
theorem Mo.there {w w' : World} {k n : Nat} (m : Mo w w') (h : w.there k 0 n) (hk : k < w.heap.size) : w'.there k 0 n := fun j hj => by
 rw [m.cell k _ hk, m.2]; exact h j hj
theorem AtX.mo {w w' : World} {k : Nat} {X : Int} (h : AtX w k X) (m : Mo w w') : AtX w' k X :=
 ⟨fun j v hv => (m.cell k _ h.2.2).trans (h.1 j v hv), m.there h.2.1 h.2.2, Nat.lt_of_lt_of_le h.2.2 m.size⟩
theorem size_setCells (k : Nat) : ∀ (l : List Value) (o : Nat) (w : World), (w.setCells k o l).heap.size = w.heap.size
 | [], _, _ => rfl
 | v :: r, o, w => by rw [World.setCells, size_setCells k r]; simp [World.setCell]
theorem Mo.setCells {a : World} {k : Nat} (hk : a.heap.size ≤ k) : ∀ (l : List Value) (o : Nat) (b : World), Mo a b → Mo a (b.setCells k o l)
 | [], _, _, h => h
 | v :: r, o, b, h => by rw [World.setCells]; exact Mo.setCells hk r (o + 1) _ (h.setCell hk v)
theorem AtX.same {w : World} {k : Nat} (X : Int) (h : w.there k 0 8) (hk : k < w.heap.size) : AtX (w.setCells k 0 (dwa X).toList) k X :=
 ⟨World.rangeAt_setCells_same w k 0 _ (by rw [dwa_len]; exact h), World.there_setCells h k 0 _, by rw [size_setCells]; exact hk⟩
theorem AtX.other {w : World} {k j : Nat} {X : Int} (h : AtX w j X) (hk : j ≠ k) (l : List Value) : AtX (w.setCells k 0 l) j X :=
 ⟨World.rangeAt_setCells_apart h.1 k 0 l (Or.inl hk), World.there_setCells h.2.1 k 0 _, by rw [size_setCells]; exact h.2.2⟩
theorem AtD.other {w : World} {k j : Nat} {b : Bool} {n s : Int} (h : AtD w j b n s) (hk : j ≠ k) (l : List Value) : AtD (w.setCells k 0 l) j b n s := by
 obtain ⟨⟨a0, a1, a2, a3, a4, a5⟩, f, z⟩ := h
 have e : ∀ o, (w.setCells k 0 l).cell? ⟨j, o, none⟩ = w.cell? ⟨j, o, none⟩ := fun o => World.cell?_setCells_out k l 0 w _ (fun hb _ => absurd hb hk)
 exact ⟨by simp only [e]; exact ⟨a0, a1, a2, a3, a4, a5⟩, fun o => by rw [World.frozen?_setCells]; exact f o, by rw [size_setCells]; exact z⟩
theorem there_new (w : World) : (w.alloc (.cells #[.int .u64 0, .int .u64 0, .int .u64 0, .int .u64 0, .int .u64 0, .int .u64 0, .int .u64 0, .int .u64 0] 94)).there w.heap.size 0 8 := fun j hj => by
 have hq : j = 0 ∨ j = 1 ∨ j = 2 ∨ j = 3 ∨ j = 4 ∨ j = 5 ∨ j = 6 ∨ j = 7 := by omega
 rcases hq with rfl | rfl | rfl | rfl | rfl | rfl | rfl | rfl <;> simp [go_sem]
theorem st81 (w : World) (k : Nat) (X : Int) (h : w.there k 0 8) : (storeCells ⟨k, 0, none⟩ (dwa X).toList 0).run Tryz.prog w = .ok () (w.setCells k 0 (dwa X).toList) := by
 have hh := run_storeAt_mid (P := Tryz.prog) w k 0 94 (dwa X) (by rw [dwa_size]; exact h) (by rw [dwa_size]; kernel_rfl) (by
  rw [Array.all_eq_true_iff_forall_mem]; intro v hv; simp [dwa] at hv; rcases hv with rfl | rfl | rfl | rfl | rfl | rfl | rfl | rfl <;> rfl)
 have e : (Instr.storeAt 94 (.pointer (some ⟨k, 0, none⟩)) (.agg (dwa X))).run Tryz.prog w = (storeCells ⟨k, 0, none⟩ (dwa X).toList 0).run Tryz.prog w := by
  simp [Instr.storeAt, Instr.sureAddr, storeVar, Sem.run_bind, go_sem, Value.cells, dwa_size]
 rw [← e]; exact hh
theorem ld81 (w : World) (k : Nat) (X : Int) (h : w.rangeAt k 0 (dwa X).toList) : (loadCellsFrom ⟨k, 0, none⟩ 0 8 #[]).run Tryz.prog w = .ok (dwa X) w := by
 have := run_loadCells_list (P := Tryz.prog) w ⟨k, 0, none⟩ (dwa X).toList (fun j v hv => by rw [Addr.add_mid]; exact h j v hv)
 simpa [loadCells, dwa_len, dwa_size] using this
theorem lift_x (b : Bool) (n s S : Int) (k : Nat) (w : World) (hn0 : 0 ≤ n) (hn : n < MM) (hk : S - s = (k : Int)) (hk7 : k ≤ 77) :
  Calls Tryz.prog 85 #[dc b n s, .int .i64 S] w fun e w' => e = .returned (dx (n * 10 ^ k)) ∧ Mo w w' := lift_n b n s S k w hn0 hn hk hk7
theorem addDouble_x (X Y : Int) (w : World) (hX0 : 0 ≤ X) (hX : X < MM * MM) (hY0 : 0 ≤ Y) (hY : Y < MM * MM) :
  Calls Tryz.prog 87 #[dx X, dx Y] w fun e w' => e = .returned (dx (X + Y)) ∧ Mo w w' := addDouble_n X Y w hX0 hX hY0 hY
theorem subDouble_x (X Y : Int) (w : World) (hX0 : 0 ≤ X) (hX : X < MM * MM) (hY0 : 0 ≤ Y) (hY : Y < MM * MM) :
  Calls Tryz.prog 89 #[dx X, dx Y] w fun e w' => e = .returned (dx (X - Y)) ∧ Mo w w' := subDouble_n X Y w hX0 hX hY0 hY
theorem cmpDouble_x (X Y : Int) (w : World) (hX0 : 0 ≤ X) (hX : X < MM * MM) (hY0 : 0 ≤ Y) (hY : Y < MM * MM) :
  Calls Tryz.prog 88 #[dx X, dx Y] w fun e w' => e = .returned (.int .i64 (cm X Y)) ∧ Mo w w' := cmpDouble_n X Y w hX0 hX hY0 hY
theorem mulDouble_x (A B : Int) (w : World) (hA0 : 0 ≤ A) (hAM : A < MM) (hB0 : 0 ≤ B) (hBM : B < MM) :
  Calls Tryz.prog 91 #[nv A, nv B] w fun e w' => e = .returned (dx (A * B)) ∧ Mo w w' := mulDouble_n A B w hA0 hAM hB0 hBM
theorem fit_x (b : Bool) (X s v : Int) (w : World) (hX : X = ab v) (hX2 : X < MM * MM) (hb : X ≠ 0 → b = decide (v < 0)) :
  Calls Tryz.prog 86 #[.bool b, dx X, .int .i64 s] w fun e w' => e = .returned (fz v s) ∧ Mo w w' := fit_z b X s v w hX hX2 hb
end Go.Proofs.YtogomodbcjpfiaaGreatDoor

namespace Go.Proofs.YtogomodbcjpfiaaGreatDoor
theorem sz24 : (Tryz.prog.info? 24).map (·.size) = some 4 := by kernel_rfl
theorem sz40 : (Tryz.prog.info? 26).map (·.size) = some 6 := by kernel_rfl
theorem sz81 : (Tryz.prog.info? 94).map (·.size) = some 8 := by kernel_rfl
theorem max_run (ρ : Operand → Value) (x y : Operand) (a b : Int) (hx : ρ x = .int .i64 a) (hy : ρ y = .int .i64 b) (dst : Option Tmp) (type : TypeId) (pos : String) (after : Array Edge) (guard : Option (Nat × Bool)) (w : World) : (execOp ρ { dst, op := .call { callee := .builtin .max, args := #[x, y], argTypes := #[3, 3] }, type, pos, after, guard }).run Tryz.prog w = .ok (.value (.int .i64 (max a b))) w := by
 simp [go_sem, hx, hy]
end Go.Proofs.YtogomodbcjpfiaaGreatDoor

namespace Go.Proofs.YtogomodbcjpfiaaGreatDoor
open Go.RowKit
theorem nan_n (a : Int) (w : World) : Calls Tryz.prog 120 #[.int .i64 a] w fun e w' => e = .returned (.bool false) ∧ Mo w w' := by
 go_enter Tryz.func120, Tryz.ntmps120
 go_wp2
 go_ret
 exact ⟨by simp, Mo.refl _⟩
set_option maxHeartbeats 4000000 in
theorem compare_n (a b : Int) (w : World) : Calls Tryz.prog 94 #[.int .i64 a, .int .i64 b] w fun e w' => e = .returned (.int .i64 (cm a b)) ∧ Mo w w' := by
 have hc : (a < b ∧ cm a b = -1) ∨ (¬ a < b ∧ b < a ∧ cm a b = 1) ∨ (¬ a < b ∧ ¬ b < a ∧ cm a b = 0) := by
  unfold cm
  by_cases h : a < b
  ·exact Or.inl ⟨h, if_pos h⟩
  ·by_cases h2 : b < a
   ·exact Or.inr (Or.inl ⟨h, h2, by rw [if_neg h, if_pos h2]⟩)
   ·exact Or.inr (Or.inr ⟨h, h2, by rw [if_neg h, if_neg h2]⟩)
 rcases hc with ⟨h1, h2⟩ | ⟨h1, h2, h3⟩ | ⟨h1, h2, h3⟩
 ·have d1 : decide (a < b) = true := decide_eq_true h1
  rw [h2]
  clear h1 h2
  go_enter Tryz.func94, Tryz.ntmps94
  go_wp2_with fail
  refine (nan_n a _).mono ?_
  rintro e w1 ⟨rfl, hm1⟩
  have mz : Mo w w1 := Mo.trans (by repeat (first | with_reducible exact Mo.refl _ | with_reducible apply Mo.drew | with_reducible apply Mo.alloc)) hm1
  have M := mz
  clear hm1 mz
  go_wp2_with fail
  refine (nan_n b _).mono ?_
  rintro e w2 ⟨rfl, hm2⟩
  have mz : Mo w1 w2 := Mo.trans (by repeat (first | with_reducible exact Mo.refl _ | with_reducible apply Mo.drew | with_reducible apply Mo.alloc)) hm2
  have M := M.trans mz
  clear hm2 mz
  go_wp2
  go_ret
  exact ⟨rfl, M⟩
 ·have d1 : decide (a < b) = false := decide_eq_false h1
  have d2 : decide (a > b) = true := decide_eq_true h2
  rw [h3]
  clear h1 h2 h3
  go_enter Tryz.func94, Tryz.ntmps94
  go_wp2_with fail
  refine (nan_n a _).mono ?_
  rintro e w1 ⟨rfl, hm1⟩
  have mz : Mo w w1 := Mo.trans (by repeat (first | with_reducible exact Mo.refl _ | with_reducible apply Mo.drew | with_reducible apply Mo.alloc)) hm1
  have M := mz
  clear hm1 mz
  go_wp2_with fail
  refine (nan_n b _).mono ?_
  rintro e w2 ⟨rfl, hm2⟩
  have mz : Mo w1 w2 := Mo.trans (by repeat (first | with_reducible exact Mo.refl _ | with_reducible apply Mo.drew | with_reducible apply Mo.alloc)) hm2
  have M := M.trans mz
  clear hm2 mz
  go_wp2
  go_ret
  exact ⟨rfl, M⟩
 ·have d1 : decide (a < b) = false := decide_eq_false h1
  have d2 : decide (a > b) = false := decide_eq_false h2
  rw [h3]
  clear h1 h2 h3
  go_enter Tryz.func94, Tryz.ntmps94
  go_wp2_with fail
  refine (nan_n a _).mono ?_
  rintro e w1 ⟨rfl, hm1⟩
  have mz : Mo w w1 := Mo.trans (by repeat (first | with_reducible exact Mo.refl _ | with_reducible apply Mo.drew | with_reducible apply Mo.alloc)) hm1
  have M := mz
  clear hm1 mz
  go_wp2_with fail
  refine (nan_n b _).mono ?_
  rintro e w2 ⟨rfl, hm2⟩
  have mz : Mo w1 w2 := Mo.trans (by repeat (first | with_reducible exact Mo.refl _ | with_reducible apply Mo.drew | with_reducible apply Mo.alloc)) hm2
  have M := M.trans mz
  clear hm2 mz
  go_wp2
  go_ret
  exact ⟨rfl, M⟩
end Go.Proofs.YtogomodbcjpfiaaGreatDoor

