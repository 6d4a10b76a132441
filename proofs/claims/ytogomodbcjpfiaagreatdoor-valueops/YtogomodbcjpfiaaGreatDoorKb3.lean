/-
  A part of the proof.
-/
import Derived.Test.YtogomodbcjpfiaaGreatDoorKb2
import Derived.Test.YtogomodbcjpfiaaGreatDoorKa8
import Derived.Test.YtogomodbcjpfiaaGreatDoorKa5
import Derived.Test.YtogomodbcjpfiaaGreatDoorKb1
import Derived.Test.YtogomodbcjpfiaaGreatDoorKa4
import Derived.Test.YtogomodbcjpfiaaGreatDoorKa1
import Derived.Test.YtogomodbcjpfiaaGreatDoorProg
import Derived.WalkKit
import Derived.WalkSpells
import Derived.Handy
import Derived.BigQuiet
import Derived.Deep.RegionHeld3
import Derived.Shelf.Small.Bits
import Derived.Shelf.Strconv.Itoa0
import Derived.Shelf.Bits.Mul64
import Derived.Deep.CutBlock
import Derived.Deep.CutRange
import Derived.Test.YtogomodbcjpfiaaGreatDoorKa7
import Derived.Test.YtogomodbcjpfiaaGreatDoorKa6
import Derived.ChangeKeysEq
import Derived.ScopeJumps
import Derived.WalkMore
import Derived.Test.YtogomodbcjpfiaaGreatDoorKa9
import Derived.Test.YtogomodbcjpfiaaGreatDoorKa3
import Derived.Test.YtogomodbcjpfiaaGreatDoorKa2
import Derived.RegionTactic
import Derived.Deep.MidRow
import Derived.BigCall
import Derived.Laws.StructEq
import Derived.Test.YtogomodbcjpfiaaGreatDoorKa14
import Derived.Test.YtogomodbcjpfiaaGreatDoorKa11
import Derived.Test.YtogomodbcjpfiaaGreatDoorKa10
import Derived.Test.YtogomodbcjpfiaaGreatDoorKa13
import Derived.Test.YtogomodbcjpfiaaGreatDoorKa12
namespace Go.Proofs.YtogomodbcjpfiaaGreatDoor
open Go.RowKit
def QW (w wx : World) (k : Nat) (H L D R Q : Int) : Prop := Mo w wx ∧ AtN wx w.heap.size H ∧ AtN wx (w.heap.size + 1) L ∧ AtN wx (w.heap.size + 1 + 1) D ∧ AtN wx (w.heap.size + 1 + 1 + 1) 0 ∧ AtN wx (w.heap.size + 1 + 1 + 1 + 1) 0 ∧ AtN wx k R ∧ AtN wx (k + 1) Q ∧ w.heap.size + 1 + 1 + 1 + 1 < k
theorem QW.mo {w wx w1 : World} {k : Nat} {H L D R Q : Int} (v : QW w wx k H L D R Q) (m : Mo wx w1) : QW w w1 k H L D R Q := by
 obtain ⟨h1, h2, h3, h4, h5, h6, h7, h8, h9⟩ := v
 exact ⟨h1.trans m, h2.mo m, h3.mo m, h4.mo m, h5.mo m, h6.mo m, h7.mo m, h8.mo m, h9⟩
theorem QW.other {w wx : World} {k : Nat} {H L D R Q : Int} (v : QW w wx k H L D R Q) {j : Nat} (hj : k + 1 < j) (o : Nat) (x : Value) : QW w (wx.setCell ⟨j, o, none⟩ x) k H L D R Q := by
 obtain ⟨h1, h2, h3, h4, h5, h6, h7, h8, h9⟩ := v
 exact ⟨h1.setCell (by show w.heap.size ≤ j; omega) _, h2.set1 (by omega) _ _, h3.set1 (by omega) _ _, h4.set1 (by omega) _ _, h5.set1 (by omega) _ _, h6.set1 (by omega) _ _, h7.set1 (by omega) _ _, h8.set1 (by omega) _ _, h9⟩
theorem QW.rest {w wx : World} {k : Nat} {H L D R Q : Int} (v : QW w wx k H L D R Q) (z : Int) : QW w (st4 wx k z) k H L D z Q := by
 obtain ⟨h1, h2, h3, h4, h5, h6, h7, h8, h9⟩ := v
 exact ⟨h1.st4 (by omega) _, h2.other (by omega) _, h3.other (by omega) _, h4.other (by omega) _, h5.other (by omega) _, h6.other (by omega) _, h7.same _, h8.other (by omega) _, h9⟩
theorem QW.quo {w wx : World} {k : Nat} {H L D R Q : Int} (v : QW w wx k H L D R Q) {o : Nat} {x : Value} {Z : Int} (h : At4 (wx.setCell ⟨k + 1, o, none⟩ x) (k + 1) (l0 Z) (l1 Z) (l2 Z) (l3 Z)) : QW w (wx.setCell ⟨k + 1, o, none⟩ x) k H L D R Z := by
 obtain ⟨h1, h2, h3, h4, h5, h6, h7, ⟨_, f, s⟩, h9⟩ := v
 exact ⟨h1.setCell (by show w.heap.size ≤ k + 1; omega) _, h2.set1 (by omega) _ _, h3.set1 (by omega) _ _, h4.set1 (by omega) _ _, h5.set1 (by omega) _ _, h6.set1 (by omega) _ _, h7.set1 (by omega) _ _, ⟨h, fun o => by simp [World.frozen?_setCell, f o], by simpa [World.setCell] using s⟩, h9⟩
theorem even_or {x b : Int} (hx : 0 ≤ x) (hx2 : x < 18446744073709551616) (he : x % 2 = 0) (hb : b = 0 ∨ b = 1) : bits .or .u64 x b = x + b := by
 have := or_join (x / 2) b 1 (by omega) (by omega) (by simp; omega) (by simp; omega)
 simp at this
 rw [show x / 2 * 2 = x from by omega] at this
 exact this

set_option maxHeartbeats 4000000 in
theorem rdiv_no (H L D : Int) (w : World) (hH0 : 0 ≤ H) (hHM : H < MM) (hD0 : 0 ≤ D) (hDM : D < MM) (h : D ≤ H) :
  Calls Tryz.prog 105 #[nv H, nv L, nv D] w fun e w' => e = .returned (.tuple #[nv 0, nv 0, .bool false]) ∧ Mo w w' := by
 have z0 : nv 0 = .agg #[.int .u64 0, .int .u64 0, .int .u64 0, .int .u64 0] := by simp [nv, l0, l1, l2, l3]
 have hc : decide (cm H D ≥ 0) = true := decide_eq_true (by unfold cm; rw [if_neg (by omega)]; split <;> decide)
 rw [z0]
 go_enter Tryz.func105, Tryz.ntmps105
 go_wp2_with fail
 refine (rcmp_n H D _ hH0 hHM hD0 hDM).mono ?_
 rintro e w1 ⟨rfl, hm1⟩
 have M1 : Mo w w1 := Mo.trans (by repeat (first | with_reducible exact Mo.refl _ | with_reducible apply Mo.alloc)) hm1
 have Q1 : At0 w1 (w.heap.size + 1 + 1 + 1) := At0.mo ⟨by simp [At4, go_sem], fun o => by simp [go_sem], by simp <;> omega⟩ hm1
 have Q2 : At0 w1 (w.heap.size + 1 + 1 + 1 + 1) := At0.mo ⟨by simp [At4, go_sem], fun o => by simp [go_sem], by simp <;> omega⟩ hm1
 obtain ⟨⟨a0, a1, a2, a3⟩, fa, sa⟩ := Q1
 obtain ⟨⟨b0, b1, b2, b3⟩, fb, sb⟩ := Q2
 have fa := fun o => fa o
 have fb := fun o => fb o
 go_wp2
 refine bodyPost_ret (v := .tuple #[.agg #[.int .u64 0, .int .u64 0, .int .u64 0, .int .u64 0], .agg #[.int .u64 0, .int .u64 0, .int .u64 0, .int .u64 0], .bool false]) (by simp [results, Tryz.results105, go_sem, *]) rfl ?_
 refine ⟨rfl, ?_⟩
 repeat (first | with_reducible exact M1 | with_reducible apply Mo.drew | with_reducible apply Mo.drewN | with_reducible refine Mo.setCell ?_ (by simp <;> omega) _)

set_option maxRecDepth 100000 in
set_option maxHeartbeats 4000000 in
theorem rdiv_yes (H L D : Int) (w : World) (hH0 : 0 ≤ H) (hL0 : 0 ≤ L) (hLM : L < MM) (hDM : D < MM) (h : H < D) :
  Calls Tryz.prog 105 #[nv H, nv L, nv D] w fun e w' => e = .returned (.tuple #[nv ((H * MM + L) / D), nv ((H * MM + L) % D), .bool true]) ∧ Mo w w' := by
 have hc : decide (cm H D ≥ 0) = false := decide_eq_false (by unfold cm; rw [if_pos h]; decide)
 go_enter Tryz.func105, Tryz.ntmps105
 go_wp2_with fail
 refine (rcmp_n H D _ hH0 (by omega) (by omega) hDM).mono ?_
 rintro e w1 ⟨rfl, hm1⟩
 have M1 : Mo w w1 := Mo.trans (by repeat (first | with_reducible exact Mo.refl _ | with_reducible apply Mo.alloc)) hm1
 have Q0 : AtN w1 w.heap.size H := AtN.mo ⟨by simp [At4, go_sem], fun o => by simp [go_sem], by simp <;> omega⟩ hm1
 have Q1 : AtN w1 (w.heap.size + 1) L := AtN.mo ⟨by simp [At4, go_sem], fun o => by simp [go_sem], by simp <;> omega⟩ hm1
 have Q2 : AtN w1 (w.heap.size + 1 + 1) D := AtN.mo ⟨by simp [At4, go_sem], fun o => by simp [go_sem], by simp <;> omega⟩ hm1
 have Q3 : At0 w1 (w.heap.size + 1 + 1 + 1) := At0.mo ⟨by simp [At4, go_sem], fun o => by simp [go_sem], by simp <;> omega⟩ hm1
 have Q4 : At0 w1 (w.heap.size + 1 + 1 + 1 + 1) := At0.mo ⟨by simp [At4, go_sem], fun o => by simp [go_sem], by simp <;> omega⟩ hm1
 have hS : QW w ((w1.alloc (.cells #[.int .u64 (l0 H), .int .u64 (l1 H), .int .u64 (l2 H), .int .u64 (l3 H)] 24)).alloc (.cells #[.int .u64 0, .int .u64 0, .int .u64 0, .int .u64 0] 24)) w1.heap.size H L D H 0 := by
  have a : Mo w1 ((w1.alloc (.cells #[.int .u64 (l0 H), .int .u64 (l1 H), .int .u64 (l2 H), .int .u64 (l3 H)] 24)).alloc (.cells #[.int .u64 0, .int .u64 0, .int .u64 0, .int .u64 0] 24)) := ((Mo.refl _).alloc _ _).alloc _ _
  exact ⟨M1.trans a, Q0.mo a, Q1.mo a, Q2.mo a, Q3.mo a, Q4.mo a, (AtN.new _ _).al, AtN.at _ 0 (by simp), Q4.2.2⟩
 have HS : Hid _ := hS
 have k0 := Q4.2.2
 obtain ⟨⟨a0, a1, a2, a3⟩, _, sa⟩ := Q0
 clear hm1 M1 Q1 Q2 Q3 Q4 hS
 go_wp2_with fail
 generalize w1.heap.size = kr at *
 go_loopw [11] (fun s wx => ∃ (j : Nat) (q R : Int), j ≤ 256 ∧ s = .int .i64 ((j : Int) - 1) ∧ 0 ≤ q ∧ q < 2 ^ (256 - j) ∧ 0 ≤ R ∧ R < D ∧ q * D + R = nj H L j ∧ QW w wx kr H L D R (q * 2 ^ j)) (fun s _ => (intOf s + 1).toNat)
 case atStart => exact ⟨256, 0, H, by decide, rfl, by decide, by decide, hH0, h, by rw [nj_top H hL0 hLM]; omega, by rw [Int.zero_mul]; exact HS.out⟩
 case round =>
  obtain ⟨j, q, R, hj, rfl, q0, q1, R0, R1, hI, hv⟩ := hrel
  clear HS
  have HI : Hid _ := hI
  have HQ : Hid _ := q1
  clear hI q1
  rcases Nat.eq_zero_or_pos j with hj0 | hj0
  ·subst hj0
   rw [Int.pow_zero, Int.mul_one] at hv
   have hI := HI.out
   rw [nj_low] at hI
   obtain ⟨x1, x2⟩ := div_end R0 R1 hI
   have X1 : Hid _ := x1
   have X2 : Hid _ := x2
   clear hI x1 x2
   obtain ⟨m, _, _, _, ⟨⟨a0, a1, a2, a3⟩, fa, za⟩, ⟨⟨b0, b1, b2, b3⟩, fb, zb⟩, ⟨⟨c0, c1, c2, c3⟩, _, zc⟩, ⟨⟨d0, d1, d2, d3⟩, _, zd⟩, hk⟩ := hv
   have fa := fun o => fa o
   have fb := fun o => fb o
   go_wp2
   go_region
   all_goals
    go_wp2
    refine bodyPost_ret (v := .tuple #[nv q, nv R, .bool true]) (by simp [results, Tryz.results105, go_sem, *]) rfl ?_
    refine ⟨by rw [X1.out, X2.out], ?_⟩
    repeat (first | with_reducible exact m | with_reducible apply Mo.drew | with_reducible apply Mo.drewN | with_reducible refine Mo.setCell ?_ (by simp <;> omega) _)
  ·obtain ⟨i, rfl⟩ : ∃ i, j = i + 1 := ⟨j - 1, by omega⟩
   rw [show (((i + 1 : Nat)) : Int) - 1 = (i : Int) from by omega]
   have di : decide ((i : Int) ≥ 0) = true := decide_eq_true (by omega)
   have hv0 := hv
   obtain ⟨hm, n0, n1, n2, n3, n4, ⟨⟨c0, c1, c2, c3⟩, _, s1⟩, n6, hk⟩ := hv0
   clear n0 n1 n2 n3 n4 n6 hm
   go_wp2_with fail
   refine (radd_n R R _ R0 (by omega) R0 (by omega)).mono ?_
   rintro e w2 ⟨rfl, hm2⟩
   have hv2 := hv.mo hm2
   have sk : kr + 1 < w2.heap.size := hv2.2.2.2.2.2.2.2.1.2.2
   have v3 := hv2.mo ((Mo.refl _).alloc #[.int .u64 (l0 (R + R)), .int .u64 (l1 (R + R)), .int .u64 (l2 (R + R)), .int .u64 (l3 (R + R))] 24)
   have n3 := AtN.new w2 (R + R)
   clear c0 c1 c2 c3 s1 hv hm2 hv2
   go_upto_region 9 with fail
   generalize w2.alloc (.cells #[.int .u64 (l0 (R + R)), .int .u64 (l1 (R + R)), .int .u64 (l2 (R + R)), .int .u64 (l3 (R + R))] 24) = w3 at *
   generalize w2.heap.size = kx at *
   obtain ⟨b, hb⟩ : ∃ b, b = L / 2 ^ i % 2 := ⟨_, rfl⟩
   have hb2 : b = 0 ∨ b = 1 := by omega
   have eo : bits .or .u64 (l0 (R + R)) b = l0 (R + R + b) := by
    rw [even_or (by unfold l0; omega) (by unfold l0; omega) (by unfold l0; omega) hb2]
    unfold l0; omega
   have e1 : l1 (R + R + b) = l1 (R + R) := by unfold l1; omega
   have e2 : l2 (R + R + b) = l2 (R + R) := by unfold l2; omega
   have e3 : l3 (R + R + b) = l3 (R + R) := by unfold l3; omega
   have HB : Hid _ := hb
   have E1 : Hid _ := e1
   have E2 : Hid _ := e2
   have E3 : Hid _ := e3
   clear e1 e2 e3
   go_cut [] from 31 to 37 (fun wx => QW w wx kr H L D R (q * 2 ^ (i + 1)) ∧ AtN wx kx (R + R + b))
   case first =>
    have v3z := v3
    obtain ⟨_, _, ⟨⟨c0, c1, c2, c3⟩, _, s1⟩, _⟩ := v3z
    have n3z := n3
    obtain ⟨⟨d0, d1, d2, d3⟩, df, sx⟩ := n3z
    have df := fun o => df o
    clear hb
    go_region_with
     (first | (go_at_call 125; refine (bit_any L i _ hL0 hLM (by omega)).mono ?_; rintro e w4 ⟨rfl, hm4⟩; rw [← HB.out]; have m4 : Mo w3 w4 := Mo.trans (by repeat (first | with_reducible exact Mo.refl _ | with_reducible apply Mo.drew | with_reducible apply Mo.alloc)) hm4; have v4 := v3.mo m4; have n4 := n3.mo m4; have n4z := n4; obtain ⟨⟨f0, f1, f2, f3⟩, ff, sf⟩ := n4z; have ff := fun o => ff o))
    all_goals
     go_wp2
     go_meet
     case rel =>
      refine ⟨?_, ?_⟩
      ·exact v4.other sk _ _
      ·refine ⟨?_, fun o => ?_, ?_⟩
       ·rw [E1.out, E2.out, E3.out]
        simp [At4, go_sem, *]
       ·simp [World.frozen?_setCell, ff o]
       ·simpa [World.setCell] using sf
   case rest =>
    clear v3 n3 eo E1 E2 E3
    obtain ⟨v, n⟩ := hcut
    obtain ⟨T, hT⟩ : ∃ T, T = R + R + b := ⟨_, rfl⟩
    rw [← hT] at n
    have T0 : 0 ≤ T := by omega
    have T1 : T < D + D := by omega
    have HT : Hid _ := hT
    go_upto_region 10 with fail
    generalize hO : ov (R + R) = o at *
    have HO : Hid _ := hO
    clear hO
    go_cut [44] from 38 to 44 (fun s44 wx => s44 = .bool (decide (D ≤ T)) ∧ QW w wx kr H L D R (q * 2 ^ (i + 1)) ∧ AtN wx kx T)
    case first =>
     cases o
     case true =>
      have ho : MM ≤ R + R := of_decide_eq_true HO.out
      have o2 : Hid (decide (D ≤ T) = true) := decide_eq_true (by omega)
      clear hT hb ho
      go_wp2
      go_meet
      case rel => exact ⟨by rw [o2.out], v, n⟩
     case false =>
      have ho : ¬ MM ≤ R + R := of_decide_eq_false HO.out
      have tm : T < MM := by unfold MM at *; omega
      have o2 : Hid (decide (cm T D ≥ 0) = decide (D ≤ T)) := by
       show _ = _
       unfold cm
       by_cases hx : T < D
       ·rw [if_pos hx, decide_eq_false (by decide), decide_eq_false (by omega)]
       ·rw [if_neg hx, decide_eq_true (p := D ≤ T) (by omega)]
        split <;> decide
      clear hT hb ho
      have vz := v
      have nz := n
      obtain ⟨_, _, _, ⟨⟨c0, c1, c2, c3⟩, _, s1⟩, _⟩ := vz
      obtain ⟨⟨d0, d1, d2, d3⟩, _, sx⟩ := nz
      go_wp2_with fail
      refine (rcmp_n T D _ T0 tm (by omega) hDM).mono ?_
      rintro e w5 ⟨rfl, hm5⟩
      have v5 := v.mo hm5
      have n5 := n.mo hm5
      go_wp2
      go_meet
      case rel => exact ⟨by rw [o2.out], v5, n5⟩
    case rest =>
     clear v n hT hb
     obtain ⟨rfl, v, n⟩ := hcut
     have vz := v
     have nz := n
     obtain ⟨_, _, _, ⟨⟨c0, c1, c2, c3⟩, _, s1⟩, _⟩ := vz
     obtain ⟨⟨d0, d1, d2, d3⟩, df, sx⟩ := nz
     generalize hdd : decide (D ≤ T) = dd at *
     have HD : Hid _ := hdd
     clear hdd
     cases dd
     case true =>
      have hsub : ∀ wx, Calls Tryz.prog 123 #[nv T, nv D] wx fun e w' => e = .returned (.tuple #[nv (T - D), .bool (un (T % MM - D))]) ∧ Mo wx w' := by
       intro wx
       have hh := rsub_n (T % MM) D wx (Int.emod_nonneg _ (by decide)) (Int.emod_lt_of_pos _ (by decide)) (by omega) hDM
       rw [nv_mod] at hh
       have e : nv (T % MM - D) = nv (T - D) := by rw [← nv_mod (T % MM - D), ← nv_mod (T - D), Int.emod_sub_emod]
       rw [e] at hh
       exact hh
      clear df
      go_wp2_with fail
      refine (hsub _).mono ?_
      rintro e w6 ⟨rfl, hm6⟩
      have v6 := v.mo hm6
      have n6 := n.mo hm6
      clear c0 c1 c2 c3 s1 d0 d1 d2 d3 sx v n hsub hm6
      have v7 : QW w (st4 w6 kx (T - D)) kr H L D R (q * 2 ^ (i + 1)) := (((v6.other sk _ _).other sk _ _).other sk _ _).other sk _ _
      have n7 : AtN (st4 w6 kx (T - D)) kx (T - D) := n6.same _
      unfold st4 at v7 n7
      obtain ⟨⟨d0, d1, d2, d3⟩, df, sx⟩ := n6
      have df := fun o => df o
      clear v6
      go_upto_region 12 with fail
      generalize (((w6.setCell ⟨kx, 0, none⟩ (.int .u64 (l0 (T - D)))).setCell ⟨kx, 1, none⟩ (.int .u64 (l1 (T - D)))).setCell ⟨kx, 2, none⟩ (.int .u64 (l2 (T - D)))).setCell ⟨kx, 3, none⟩ (.int .u64 (l3 (T - D))) = w8 at *
      clear d0 d1 d2 d3 df sx
      obtain ⟨r, hr⟩ : ∃ r, r = i % 64 := ⟨_, rfl⟩
      have hbs := bit_set (by omega) q0 (by have := HQ.out; rwa [show 256 - (i + 1) = 255 - i from by omega] at this) r hr
      have r64 : r < 64 := by omega
      have er : (i : Int) % 64 = (r : Int) := by omega
      have wp : IntKind.u64.wrap (2 ^ r) = 2 ^ r := by
       rw [IntKind.wrap_u64]
       have h1 : (0 : Int) < 2 ^ r := Int.pow_pos (by decide)
       have h2 : (2 : Int) ^ r < 2 ^ 64 := by
        have := Nat.pow_lt_pow_right (a := 2) (by decide) r64
        rw [← cast_pow, ← cast_pow]
        omega
       exact Int.emod_eq_of_lt (by omega) h2
      clear hr
      obtain ⟨Q, hQ⟩ : ∃ Q, Q = q * 2 ^ (i + 1) := ⟨_, rfl⟩
      obtain ⟨Z, hZ⟩ : ∃ Z, Z = Q + 2 ^ i := ⟨_, rfl⟩
      rw [← hQ, ← hZ] at hbs
      rw [← hQ] at v7
      have HQ2 : Hid _ := hQ
      have HZ : Hid _ := hZ
      clear hQ hZ
      go_cut [] from 51 to 59 (fun wx => QW w wx kr H L D R Z ∧ AtN wx kx (T - D))
      case first =>
       have vz := v7
       obtain ⟨_, _, _, _, _, _, _, ⟨⟨c0, c1, c2, c3⟩, cf, s1⟩, _⟩ := vz
       have cf := fun o => cf o
       rcases hbs with ⟨hm, g0, g1, g2, g3⟩ | ⟨hm, g0, g1, g2, g3⟩ | ⟨hm, g0, g1, g2, g3⟩ | ⟨hm, g0, g1, g2, g3⟩
       ·have hq : (i : Int) / 64 = 0 := by omega
        have HG1 : Hid _ := g1
        have HG2 : Hid _ := g2
        have HG3 : Hid _ := g3
        clear g1 g2 g3 hm
        go_region
        all_goals
         go_wp2
         go_meet
         case rel =>
          refine ⟨(v7.quo ?_).mo (Mo.refl _).drew, (n7.set1 (by omega) _ _).mo (Mo.refl _).drew⟩
          rw [HG1.out, HG2.out, HG3.out]
          simp [At4, go_sem, *]
       ·have hq : (i : Int) / 64 = 1 := by omega
        have HG1 : Hid _ := g1
        have HG2 : Hid _ := g2
        have HG3 : Hid _ := g3
        clear g1 g2 g3 hm
        go_region
        all_goals
         go_wp2
         go_meet
         case rel =>
          refine ⟨(v7.quo ?_).mo (Mo.refl _).drew, (n7.set1 (by omega) _ _).mo (Mo.refl _).drew⟩
          rw [HG1.out, HG2.out, HG3.out]
          simp [At4, go_sem, *]
       ·have hq : (i : Int) / 64 = 2 := by omega
        have HG1 : Hid _ := g1
        have HG2 : Hid _ := g2
        have HG3 : Hid _ := g3
        clear g1 g2 g3 hm
        go_region
        all_goals
         go_wp2
         go_meet
         case rel =>
          refine ⟨(v7.quo ?_).mo (Mo.refl _).drew, (n7.set1 (by omega) _ _).mo (Mo.refl _).drew⟩
          rw [HG1.out, HG2.out, HG3.out]
          simp [At4, go_sem, *]
       ·have hq : (i : Int) / 64 = 3 := by omega
        have HG1 : Hid _ := g1
        have HG2 : Hid _ := g2
        have HG3 : Hid _ := g3
        clear g1 g2 g3 hm
        go_region
        all_goals
         go_wp2
         go_meet
         case rel =>
          refine ⟨(v7.quo ?_).mo (Mo.refl _).drew, (n7.set1 (by omega) _ _).mo (Mo.refl _).drew⟩
          rw [HG1.out, HG2.out, HG3.out]
          simp [At4, go_sem, *]
      case rest =>
       clear v7 n7
       obtain ⟨v7, n7⟩ := hcut
       have v8 := v7.rest (T - D)
       unfold st4 at v8
       obtain ⟨⟨d0, d1, d2, d3⟩, _, sx⟩ := n7
       obtain ⟨_, _, _, _, _, _, ⟨⟨c0, c1, c2, c3⟩, cf, s1⟩, _, _⟩ := v7
       have cf := fun o => cf o
       clear hbs
       go_wp2
       go_roundw
       case rel =>
        have hI := div_yes_step (by omega) HI.out
        have hb := HB.out
        have hT := HT.out
        rw [← hb, show 2 * R + b = T from by omega] at hI
        have hq1 : q < 2 ^ (255 - i) := by have := HQ.out; rwa [show 256 - (i + 1) = 255 - i from by omega] at this
        have hge := of_decide_eq_true HD.out
        refine ⟨i, 2 * q + 1, T - D, by omega, by go_num, by omega, (q_no (by omega) hq1).2, by omega, by omega, hI, ?_⟩
        rw [q_pow1, ← HQ2.out, ← HZ.out]
        exact v8
       case measure => simp [intOf]
     case false =>
      have v8 := v.rest T
      unfold st4 at v8
      obtain ⟨_, _, _, _, _, _, ⟨⟨b0, b1, b2, b3⟩, cf, s2⟩, _, _⟩ := v
      have cf := fun o => cf o
      clear df
      go_wp2
      go_roundw
      case rel =>
       have hI := div_no_step (by omega) HI.out
       have hb := HB.out
       have hT := HT.out
       rw [← hb, show 2 * R + b = T from by omega] at hI
       have hq1 : q < 2 ^ (255 - i) := by have := HQ.out; rwa [show 256 - (i + 1) = 255 - i from by omega] at this
       have hge := of_decide_eq_false HD.out
       refine ⟨i, 2 * q, T, by omega, by go_num, by omega, (q_no (by omega) hq1).1, by omega, by omega, hI, ?_⟩
       rw [q_pow]
       exact v8
      case measure => simp [intOf]
theorem rdiv_n (H L D : Int) (w : World) (hH0 : 0 ≤ H) (hHM : H < MM) (hL0 : 0 ≤ L) (hLM : L < MM) (hD0 : 0 ≤ D) (hDM : D < MM) :
  Calls Tryz.prog 105 #[nv H, nv L, nv D] w fun e w' => e = .returned (.tuple #[nv (dq H L D), nv (dr H L D), .bool (dok H D)]) ∧ Mo w w' := by
 unfold dq dr dok
 by_cases h : D ≤ H
 ·rw [if_pos h, if_pos h, decide_eq_false (by omega)]
  exact rdiv_no H L D w hH0 hHM hD0 hDM h
 ·rw [if_neg h, if_neg h, decide_eq_true (by omega)]
  exact rdiv_yes H L D w hH0 hL0 hLM hDM (by omega)
end Go.Proofs.YtogomodbcjpfiaaGreatDoor

namespace Go.Proofs.YtogomodbcjpfiaaGreatDoor
theorem sz87 : (Tryz.prog.info? 74).map (·.size) = some 8 := by kernel_rfl
end Go.Proofs.YtogomodbcjpfiaaGreatDoor

namespace Go.Proofs.YtogomodbcjpfiaaGreatDoor
open Go.RowKit
theorem gt24 : Tryz.prog.eqGuardType Tryz.prog.depth 24 = false := by kernel_rfl
theorem eqn_run {n0 n1 n2 n3 m0 m1 m2 m3 : Int} {r : Bool} (h : (n0 == m0 && (n1 == m1 && (n2 == m2 && n3 == m3))) = r) (x y : Operand) (w : World) :
  (do eqGuard .eql 24 x y (.agg #[.int .u64 n0, .int .u64 n1, .int .u64 n2, .int .u64 n3]) (.agg #[.int .u64 m0, .int .u64 m1, .int .u64 m2, .int .u64 m3]); binOp .eql 24 (.agg #[.int .u64 n0, .int .u64 n1, .int .u64 n2, .int .u64 n3]) (.agg #[.int .u64 m0, .int .u64 m1, .int .u64 m2, .int .u64 m3])).run Tryz.prog w = .ok (.bool r) w :=
 eqa_run gt24 (by rw [← h]; exact eq4 n0 n1 n2 n3 m0 m1 m2 m3 w) x y
theorem nen_run {n0 n1 n2 n3 m0 m1 m2 m3 : Int} {r : Bool} (h : (n0 == m0 && (n1 == m1 && (n2 == m2 && n3 == m3))) = r) (x y : Operand) (w : World) :
  (do eqGuard .neq 24 x y (.agg #[.int .u64 n0, .int .u64 n1, .int .u64 n2, .int .u64 n3]) (.agg #[.int .u64 m0, .int .u64 m1, .int .u64 m2, .int .u64 m3]); binOp .neq 24 (.agg #[.int .u64 n0, .int .u64 n1, .int .u64 n2, .int .u64 n3]) (.agg #[.int .u64 m0, .int .u64 m1, .int .u64 m2, .int .u64 m3])).run Tryz.prog w = .ok (.bool (!r)) w :=
 nea_run gt24 (by rw [← h]; exact eq4 n0 n1 n2 n3 m0 m1 m2 m3 w) x y
end Go.Proofs.YtogomodbcjpfiaaGreatDoor

namespace Go.Proofs.YtogomodbcjpfiaaGreatDoor
open Go.RowKit
theorem pow_lt (k : Nat) (h : k ≤ 77) : (0 : Int) < 10 ^ k ∧ (10 : Int) ^ k < MM := by
 refine ⟨Int.pow_pos (by decide), ?_⟩
 have h1 : (10 : Nat) ^ k ≤ 10 ^ 77 := Nat.pow_le_pow_right (by decide) h
 have h2 : (10 : Nat) ^ 77 < 115792089237316195423570985008687907853269984665640564039457584007913129639936 := by decide
 have h3 : ((10 ^ k : Nat) : Int) = (10 : Int) ^ k := by rw [Int.natCast_pow]; rfl
 rw [← h3]
 unfold MM
 omega
set_option maxHeartbeats 4000000 in
theorem rten_yes (n : Nat) (w : World) (h7 : n ≤ 77) :
  Calls Tryz.prog 104 #[.int .i64 n] w fun e w' => e = .returned (.tuple #[nv (10 ^ n), .bool true]) ∧ Mo w w' := by
 have hn : ¬ ((n : Int) < 0) := by omega
 have hn7 : ¬ (77 < (n : Int)) := by omega
 go_enter Tryz.func104, Tryz.ntmps104
 go_wp2_with fail
 refine (from34_any 1 _ ⟨by decide, by decide⟩).mono ?_
 rintro e w1 ⟨rfl, hm⟩
 have hz := hm.size
 simp only [World.size_alloc] at hz
 have hA : At4 w1 w.heap.size 0 0 0 0 := At4.mo (by simp [At4, go_sem]) hm (by simp)
 have hF : Fz w1 w.heap.size := Fz.mo (fun o => by simp [go_sem]) hm
 have hM : Mo w w1 := ((Mo.refl _).alloc _ _).trans hm
 have hS : TT w (w1.alloc (.cells #[.int .u64 (l0 1), .int .u64 (l1 1), .int .u64 (l2 1), .int .u64 (l3 1)] 24)) w1.heap.size 1 := by
  have z : w.heap.size < w1.heap.size := by omega
  exact ⟨hM.alloc _ _, z, by simp, hA.mo ((Mo.refl _).alloc _ _) z, hF.mo ((Mo.refl _).alloc _ _), by simp [At4, go_sem], fun o => by simp [go_sem]⟩
 have HS : Hid _ := hS
 clear hS hA hF
 go_wp2
 go_loopw [5] (fun i wr => ∃ k : Nat, k ≤ n ∧ i = .int .i64 k ∧ TT w wr w1.heap.size (10 ^ k)) (fun i _ => n - (intOf i).toNat)
 case atStart => exact ⟨0, Nat.zero_le _, rfl, HS.out⟩
 case round =>
  obtain ⟨k, hk, rfl, ht⟩ := hrel
  by_cases hlt : k < n
  ·have pk := pow_lt k (by omega)
   have hstep : Hid (10 ^ k * 10 = (10 : Int) ^ (k + 1)) := (Int.pow_succ 10 k).symm
   obtain ⟨P, hP⟩ : ∃ P : Int, P = 10 ^ k := ⟨_, rfl⟩
   rw [← hP] at ht pk hstep
   have HP : Hid _ := hP
   clear hP
   have dk : decide ((k : Int) < (n : Int)) = true := decide_eq_true (by omega)
   go_upto_region 7 with fail
   have ht0 := ht
   obtain ⟨g1, g2, g3, ⟨c0, c1, c2, c3⟩, g5, ⟨b0, b1, b2, b3⟩, g7⟩ := ht0
   clear g5 g7
   go_region_with
    (first | (go_at_call 107; refine (from34_any 10 _ ⟨by decide, by decide⟩).mono ?_; rintro e w5 ⟨rfl, hm5⟩; have m5 : Mo wr w5 := Mo.trans (by repeat (first | with_reducible exact Mo.refl _ | with_reducible apply Mo.drew | with_reducible apply Mo.alloc)) hm5; obtain ⟨_, _, _, _, _, ⟨x0, x1, x2, x3⟩, _⟩ := ht.mo m5) | (go_at_call 101; refine (rmul_n P 10 _ (by omega) pk.2 (by decide) (by decide)).mono ?_; rintro e w6 ⟨rfl, hm6⟩; have m6 : Mo w5 w6 := Mo.trans (by repeat (first | with_reducible exact Mo.refl _ | with_reducible apply Mo.drew | with_reducible apply Mo.alloc)) hm6; have m7 := m5.trans m6; obtain ⟨_, _, zs, _, _, ⟨z0, z1, z2, z3⟩, zf⟩ := ht.mo m7; have zf := fun o => zf o))
   all_goals
    go_wp2
    go_roundw
    case rel =>
     refine ⟨k + 1, by omega, by go_num, ?_⟩
     rw [← hstep.out]
     exact (ht.mo m7).put
    case measure => simp [intOf]; omega
  ·have hkn : k = n := by omega
   subst hkn
   obtain ⟨g1, g2, g3, ⟨c0, c1, c2, c3⟩, g5, ⟨b0, b1, b2, b3⟩, g7⟩ := ht
   have g5 := fun o => g5 o
   go_wp2
   refine bodyPost_ret (v := .tuple #[nv (10 ^ k), .bool true]) (by simp [results, Tryz.results104, go_sem, c0, c1, c2, c3]) rfl ?_
   refine ⟨rfl, ?_⟩
   exact (((g1.setCell (Nat.le_refl _) _).setCell (Nat.le_refl _) _).setCell (Nat.le_refl _) _).setCell (Nat.le_refl _) _
end Go.Proofs.YtogomodbcjpfiaaGreatDoor

namespace Go.Proofs.YtogomodbcjpfiaaGreatDoor
open Go.RowKit
set_option maxHeartbeats 2000000 in
theorem rcheck_n (b : Bool) (n s : Int) (w : World) (hn0 : 0 ≤ n) (hn : n < MM) : Calls Tryz.prog 42 #[dc b n s] w fun e w' => e = .returned (.int .i64 (ck b n s)) ∧ Mo w w' := by
 have q4 := eq4
 have z4 := zb hn0 hn
 by_cases h1 : s < 0
 ·have d1 : decide (s < 0) = true := decide_eq_true h1
  have e : Hid (ck b n s = 20) := by show _ = _; unfold ck sc; rw [decide_eq_false (p := 0 ≤ s) (by omega)]; rfl
  clear h1
  go_enter Tryz.func42, Tryz.ntmps42
  go_wp2
  go_ret
  exact ⟨by rw [e.out]; rfl, (Mo.refl _).alloc _ _⟩
 ·by_cases h2 : s > 18
  ·have d1 : decide (s < 0) = false := decide_eq_false h1
   have d2 : decide (s > 18) = true := decide_eq_true h2
   have e : Hid (ck b n s = 20) := by show _ = _; unfold ck sc; rw [decide_eq_false (p := s ≤ 18) (by omega)]; simp
   clear h1 h2
   go_enter Tryz.func42, Tryz.ntmps42
   go_wp2
   go_ret
   exact ⟨by rw [e.out]; rfl, (Mo.refl _).alloc _ _⟩
  ·have d1 : decide (s < 0) = false := decide_eq_false h1
   have d2 : decide (s > 18) = false := decide_eq_false h2
   have e : Hid (sc s = true) := by show _ = _; unfold sc; rw [decide_eq_true (p := 0 ≤ s) (by omega), decide_eq_true (p := s ≤ 18) (by omega)]; rfl
   clear h1 h2
   cases hb : b <;> cases hz : decide (n = 0)
   all_goals
    rw [hz] at z4
    have HZ : Hid _ := hz
    clear hz
    go_enter Tryz.func42, Tryz.ntmps42
    go_wp2
    go_ret
    exact ⟨by rw [ck, e.out, HZ.out]; rfl, (Mo.refl _).alloc _ _⟩
theorem rcheck_ok (b : Bool) (n s : Int) (w : World) (hn0 : 0 ≤ n) (hn : n < MM) (h : ck b n s = 0) : Calls Tryz.prog 42 #[dc b n s] w fun e w' => e = .returned (.int .i64 0) ∧ Mo w w' := by
 have := rcheck_n b n s w hn0 hn
 rw [h] at this
 exact this
set_option maxHeartbeats 4000000 in
theorem shift_n (n : Int) (k : Nat) (w : World) (hn0 : 0 ≤ n) (hn : n < MM) (hk : k ≤ 77) :
  Calls Tryz.prog 97 #[nv n, .int .i64 (k : Int)] w fun e w' => e = .returned (dw (n * 10 ^ k)) ∧ Mo w w' := by
 have t := pow_lt k hk
 have hten : ∀ w, Calls Tryz.prog 104 #[.int .i64 (k : Int)] w fun e w' => e = .returned (.tuple #[nv (10 ^ k), .bool true]) ∧ Mo w w' := fun w => rten_yes k w hk
 generalize (10 : Int) ^ k = T at *
 go_enter Tryz.func97, Tryz.ntmps97
 go_wp2_with fail
 refine (hten _).mono ?_
 rintro e w1 ⟨rfl, hm1⟩
 have mz : Mo w w1 := Mo.trans (by repeat (first | with_reducible exact Mo.refl _ | with_reducible apply Mo.drew | with_reducible apply Mo.alloc)) hm1
 have M := mz
 have Qn : AtN w1 (w.heap.size) n := AtN.mo ⟨by simp [At4, go_sem], fun o => by simp [go_sem], by simp <;> omega⟩ hm1
 have Qr : AtW w1 (w.heap.size + 1) 0 := AtW.mo ⟨by simp [go_sem, zl0, zl1, zl2, zl3], fun o => by simp [go_sem], by simp <;> omega⟩ hm1
 clear hm1 mz
 have On := Qn
 obtain ⟨⟨cn0, cn1, cn2, cn3⟩, fn, sn⟩ := On
 have fn := fun o => fn o
 have sxn : w.heap.size < w1.heap.size + 1 := by omega
 have syn : w.heap.size < w1.heap.size + 1 + 1 := by omega
 have Or := Qr
 obtain ⟨⟨cr0, cr1, cr2, cr3, cr4, cr5, cr6, cr7⟩, fr, sr⟩ := Or
 have fr := fun o => fr o
 have sxr : w.heap.size + 1 < w1.heap.size + 1 := by omega
 have syr : w.heap.size + 1 < w1.heap.size + 1 + 1 := by omega
 go_wp2_with fail
 refine (rmul_n n T _ hn0 hn (by omega) t.2).mono ?_
 rintro e w2 ⟨rfl, hm2⟩
 have mz : Mo w1 w2 := Mo.trans (by repeat (first | with_reducible exact Mo.refl _ | with_reducible apply Mo.drew | with_reducible apply Mo.alloc)) hm2
 have zw1n := sn
 have zw1r := sr
 clear cn0 cn1 cn2 cn3 fn sn sxn syn cr0 cr1 cr2 cr3 cr4 cr5 cr6 cr7 fr sr sxr syr
 have Qn := Qn.mo mz
 have Qr := Qr.mo mz
 have M := M.trans mz
 clear hm2 mz
 have On := Qn
 obtain ⟨⟨cn0, cn1, cn2, cn3⟩, fn, sn⟩ := On
 have fn := fun o => fn o
 have sxn : w.heap.size < w2.heap.size + 1 := by omega
 have syn : w.heap.size < w2.heap.size + 1 + 1 := by omega
 have Or := Qr
 obtain ⟨⟨cr0, cr1, cr2, cr3, cr4, cr5, cr6, cr7⟩, fr, sr⟩ := Or
 have fr := fun o => fr o
 have sxr : w.heap.size + 1 < w2.heap.size + 1 := by omega
 have syr : w.heap.size + 1 < w2.heap.size + 1 + 1 := by omega
 have a : Mo w2 ((((w2).alloc (.cells #[.int .u64 (l0 (n * T / MM)), .int .u64 (l1 (n * T / MM)), .int .u64 (l2 (n * T / MM)), .int .u64 (l3 (n * T / MM))] 24))).alloc (.cells #[.int .u64 (l0 (n * T)), .int .u64 (l1 (n * T)), .int .u64 (l2 (n * T)), .int .u64 (l3 (n * T))] 24)) := by repeat (first | with_reducible exact Mo.refl _ | with_reducible apply Mo.alloc)
 have zW0n := sn
 have zW0r := sr
 clear cn0 cn1 cn2 cn3 fn sn sxn syn cr0 cr1 cr2 cr3 cr4 cr5 cr6 cr7 fr sr sxr syr
 have Qn := Qn.mo a
 have Qr := Qr.mo a
 have M := M.trans a
 have Qh : AtN ((((w2).alloc (.cells #[.int .u64 (l0 (n * T / MM)), .int .u64 (l1 (n * T / MM)), .int .u64 (l2 (n * T / MM)), .int .u64 (l3 (n * T / MM))] 24))).alloc (.cells #[.int .u64 (l0 (n * T)), .int .u64 (l1 (n * T)), .int .u64 (l2 (n * T)), .int .u64 (l3 (n * T))] 24)) (w2.heap.size) (n * T / MM) := ⟨by simp [At4, go_sem], fun o => by simp [go_sem], by simp <;> omega⟩
 have Ql : AtN ((((w2).alloc (.cells #[.int .u64 (l0 (n * T / MM)), .int .u64 (l1 (n * T / MM)), .int .u64 (l2 (n * T / MM)), .int .u64 (l3 (n * T / MM))] 24))).alloc (.cells #[.int .u64 (l0 (n * T)), .int .u64 (l1 (n * T)), .int .u64 (l2 (n * T)), .int .u64 (l3 (n * T))] 24)) (w2.heap.size + 1) (n * T) := ⟨by simp [At4, go_sem], fun o => by simp [go_sem], by simp <;> omega⟩
 clear a
 go_upto_region 3 with fail
 generalize ((((w2).alloc (.cells #[.int .u64 (l0 (n * T / MM)), .int .u64 (l1 (n * T / MM)), .int .u64 (l2 (n * T / MM)), .int .u64 (l3 (n * T / MM))] 24))).alloc (.cells #[.int .u64 (l0 (n * T)), .int .u64 (l1 (n * T)), .int .u64 (l2 (n * T)), .int .u64 (l3 (n * T))] 24)) = W0 at *
 have On := Qn
 obtain ⟨⟨cn0, cn1, cn2, cn3⟩, fn, sn⟩ := On
 have fn := fun o => fn o
 have sxn : w.heap.size < W0.heap.size + 1 := by omega
 have syn : w.heap.size < W0.heap.size + 1 + 1 := by omega
 have Or := Qr
 obtain ⟨⟨cr0, cr1, cr2, cr3, cr4, cr5, cr6, cr7⟩, fr, sr⟩ := Or
 have fr := fun o => fr o
 have sxr : w.heap.size + 1 < W0.heap.size + 1 := by omega
 have syr : w.heap.size + 1 < W0.heap.size + 1 + 1 := by omega
 have Oh := Qh
 obtain ⟨⟨ch0, ch1, ch2, ch3⟩, fh, sh⟩ := Oh
 have fh := fun o => fh o
 have sxh : w2.heap.size < W0.heap.size + 1 := by omega
 have syh : w2.heap.size < W0.heap.size + 1 + 1 := by omega
 have Ol := Ql
 obtain ⟨⟨cl0, cl1, cl2, cl3⟩, fl, sl⟩ := Ol
 have fl := fun o => fl o
 have sxl : w2.heap.size + 1 < W0.heap.size + 1 := by omega
 have syl : w2.heap.size + 1 < W0.heap.size + 1 + 1 := by omega
 go_wp2
 refine bodyPost_ret (v := dw (n * T)) (by simp [results, Tryz.results97, go_sem, *]) rfl ?_
 refine ⟨rfl, ?_⟩
 repeat (first | with_reducible exact M | with_reducible exact Mo.refl _ | with_reducible apply Mo.drew | with_reducible apply Mo.drewN | with_reducible apply Mo.alloc | with_reducible refine Mo.setCell ?_ (by simp <;> omega) _)
end Go.Proofs.YtogomodbcjpfiaaGreatDoor

namespace Go.Proofs.YtogomodbcjpfiaaGreatDoor
open Go.RowKit
abbrev dcl (b : Bool) (n s : Int) : List Value := [.bool b, .int .u64 (l0 n), .int .u64 (l1 n), .int .u64 (l2 n), .int .u64 (l3 n), .int .i64 s]
abbrev dcr (b : Bool) (n s : Int) : Array Value := #[.bool b, .int .u64 (l0 n), .int .u64 (l1 n), .int .u64 (l2 n), .int .u64 (l3 n), .int .i64 s]
abbrev nvli (n : Int) : List Value := [.int .u64 (l0 n), .int .u64 (l1 n), .int .u64 (l2 n), .int .u64 (l3 n)]
abbrev nvar (n : Int) : Array Value := #[.int .u64 (l0 n), .int .u64 (l1 n), .int .u64 (l2 n), .int .u64 (l3 n)]
end Go.Proofs.YtogomodbcjpfiaaGreatDoor

namespace Go.Proofs.YtogomodbcjpfiaaGreatDoor
open Go.RowKit
theorem may_ok (s p : Int) (w : World) (h : sc s = true) (hp1 : 1 ≤ p) (hp5 : p ≤ 5) : Calls Tryz.prog 73 #[.int .i64 s, .int .i64 p] w fun e w' => e = .returned (.int .i64 0) ∧ Mo w w' := by
 obtain ⟨h1, h2⟩ := sc_iff.1 h
 clear h
 go_enter Tryz.func73, Tryz.ntmps73
 go_wp2
 go_ret
 exact ⟨rfl, Mo.refl _⟩
end Go.Proofs.YtogomodbcjpfiaaGreatDoor

namespace Go.Proofs.YtogomodbcjpfiaaGreatDoor
open Go.RowKit
theorem radd_m (A B : Int) (w : World) : Calls Tryz.prog 121 #[nv A, nv B] w fun e w' => e = .returned (.tuple #[nv (A % MM + B % MM), .bool (ov (A % MM + B % MM))]) ∧ Mo w w' := by
 have h := radd_any (l0 A) (l1 A) (l2 A) (l3 A) (l0 B) (l1 B) (l2 B) (l3 B) w (u4_lb A) (u4_lb B)
 rw [vl_nv, vl_nv] at h
 exact h
set_option maxHeartbeats 4000000 in
theorem plus_n (X Y : Int) (w : World) (hX0 : 0 ≤ X) (hX : X < MM * MM) (hY0 : 0 ≤ Y) (hY : Y < MM * MM) :
  Calls Tryz.prog 98 #[dw X, dw Y] w fun e w' => e = .returned (dw (X + Y)) ∧ Mo w w' := by
 obtain ⟨f1, f2⟩ := dsum hX0 hX hY0 hY
 have F1 : Hid _ := f1
 clear f1
 go_enter Tryz.func98, Tryz.ntmps98
 go_wp2_with fail
 refine (radd_m X Y _).mono ?_
 rintro e w1 ⟨rfl, hm1⟩
 have m : Mo w w1 := Mo.trans (by repeat (first | with_reducible exact Mo.refl _ | with_reducible apply Mo.drew | with_reducible apply Mo.alloc)) hm1
 have M := m
 have Qx : AtW w1 (w.heap.size) X := AtW.mo ⟨by simp [go_sem], fun o => by simp [go_sem], by simp <;> omega⟩ hm1
 have Qy : AtW w1 (w.heap.size + 1) Y := AtW.mo ⟨by simp [go_sem], fun o => by simp [go_sem], by simp <;> omega⟩ hm1
 have Qr : AtW w1 (w.heap.size + 1 + 1) 0 := AtW.mo ⟨by simp [go_sem, zl0, zl1, zl2, zl3], fun o => by simp [go_sem], by simp <;> omega⟩ hm1
 clear hm1 m
 have Ox := Qx
 obtain ⟨⟨cx0, cx1, cx2, cx3, cx4, cx5, cx6, cx7⟩, fx, sx⟩ := Ox
 have fx := fun o => fx o
 have sxx : w.heap.size < w1.heap.size + 1 := by omega
 have syx : w.heap.size < w1.heap.size + 1 + 1 := by omega
 have Oy := Qy
 obtain ⟨⟨cy0, cy1, cy2, cy3, cy4, cy5, cy6, cy7⟩, fy, sy⟩ := Oy
 have fy := fun o => fy o
 have sxy : w.heap.size + 1 < w1.heap.size + 1 := by omega
 have syy : w.heap.size + 1 < w1.heap.size + 1 + 1 := by omega
 have Or := Qr
 obtain ⟨⟨cr0, cr1, cr2, cr3, cr4, cr5, cr6, cr7⟩, fr, sr⟩ := Or
 have fr := fun o => fr o
 have sxr : w.heap.size + 1 + 1 < w1.heap.size + 1 := by omega
 have syr : w.heap.size + 1 + 1 < w1.heap.size + 1 + 1 := by omega
 obtain ⟨lo, hlo⟩ : ∃ lo, lo = X % MM + Y % MM := ⟨_, rfl⟩
 rw [← hlo] at f2 F1 ⊢
 have HL : Hid _ := hlo
 clear hlo
 go_wp2_with fail
 refine (radd_m (X / MM) (Y / MM) _).mono ?_
 rintro e w2 ⟨rfl, hm2⟩
 have m : Mo w1 w2 := Mo.trans (by repeat (first | with_reducible exact Mo.refl _ | with_reducible apply Mo.drew | with_reducible apply Mo.alloc)) hm2
 clear cx0 cx1 cx2 cx3 cx4 cx5 cx6 cx7 fx sx sxx syx cy0 cy1 cy2 cy3 cy4 cy5 cy6 cy7 fy sy sxy syy cr0 cr1 cr2 cr3 cr4 cr5 cr6 cr7 fr sr sxr syr
 have Qx := Qx.mo m
 have Qy := Qy.mo m
 have Qr := Qr.mo m
 have M := M.trans m
 have Ql : AtN w2 (w1.heap.size) lo := AtN.mo ⟨by simp [At4, go_sem], fun o => by simp [go_sem], by simp <;> omega⟩ hm2
 clear hm2 m
 have Ox := Qx
 obtain ⟨⟨cx0, cx1, cx2, cx3, cx4, cx5, cx6, cx7⟩, fx, sx⟩ := Ox
 have fx := fun o => fx o
 have sxx : w.heap.size < w2.heap.size + 1 := by omega
 have syx : w.heap.size < w2.heap.size + 1 + 1 := by omega
 have Oy := Qy
 obtain ⟨⟨cy0, cy1, cy2, cy3, cy4, cy5, cy6, cy7⟩, fy, sy⟩ := Oy
 have fy := fun o => fy o
 have sxy : w.heap.size + 1 < w2.heap.size + 1 := by omega
 have syy : w.heap.size + 1 < w2.heap.size + 1 + 1 := by omega
 have Or := Qr
 obtain ⟨⟨cr0, cr1, cr2, cr3, cr4, cr5, cr6, cr7⟩, fr, sr⟩ := Or
 have fr := fun o => fr o
 have sxr : w.heap.size + 1 + 1 < w2.heap.size + 1 := by omega
 have syr : w.heap.size + 1 + 1 < w2.heap.size + 1 + 1 := by omega
 have Ol := Ql
 obtain ⟨⟨cl0, cl1, cl2, cl3⟩, fl, sl⟩ := Ol
 have fl := fun o => fl o
 have sxl : w1.heap.size < w2.heap.size + 1 := by omega
 have syl : w1.heap.size < w2.heap.size + 1 + 1 := by omega
 obtain ⟨hi, hhi⟩ : ∃ hi, hi = X / MM % MM + Y / MM % MM := ⟨_, rfl⟩
 rw [← hhi] at f2 ⊢
 have HH : Hid _ := hhi
 clear hhi
 rcases f2 with ⟨g1, g2⟩ | ⟨g1, g2⟩
 ·have G2 : Hid _ := g2
  clear g2
  have a : Mo w2 ((w2).alloc (.cells #[.int .u64 (l0 (hi)), .int .u64 (l1 (hi)), .int .u64 (l2 (hi)), .int .u64 (l3 (hi))] 24)) := by repeat (first | with_reducible exact Mo.refl _ | with_reducible apply Mo.alloc)
  have zW0x := sx
  have zW0y := sy
  have zW0r := sr
  have zW0l := sl
  clear cx0 cx1 cx2 cx3 cx4 cx5 cx6 cx7 fx sx sxx syx cy0 cy1 cy2 cy3 cy4 cy5 cy6 cy7 fy sy sxy syy cr0 cr1 cr2 cr3 cr4 cr5 cr6 cr7 fr sr sxr syr cl0 cl1 cl2 cl3 fl sl sxl syl
  have Qx := Qx.mo a
  have Qy := Qy.mo a
  have Qr := Qr.mo a
  have Ql := Ql.mo a
  have M := M.trans a
  have Qh : AtN ((w2).alloc (.cells #[.int .u64 (l0 (hi)), .int .u64 (l1 (hi)), .int .u64 (l2 (hi)), .int .u64 (l3 (hi))] 24)) (w2.heap.size) hi := ⟨by simp [At4, go_sem], fun o => by simp [go_sem], by simp <;> omega⟩
  clear a
  go_upto_region 5 with fail
  generalize ((w2).alloc (.cells #[.int .u64 (l0 (hi)), .int .u64 (l1 (hi)), .int .u64 (l2 (hi)), .int .u64 (l3 (hi))] 24)) = W0 at *
  have Ox := Qx
  obtain ⟨⟨cx0, cx1, cx2, cx3, cx4, cx5, cx6, cx7⟩, fx, sx⟩ := Ox
  have fx := fun o => fx o
  have sxx : w.heap.size < W0.heap.size + 1 := by omega
  have syx : w.heap.size < W0.heap.size + 1 + 1 := by omega
  have Oy := Qy
  obtain ⟨⟨cy0, cy1, cy2, cy3, cy4, cy5, cy6, cy7⟩, fy, sy⟩ := Oy
  have fy := fun o => fy o
  have sxy : w.heap.size + 1 < W0.heap.size + 1 := by omega
  have syy : w.heap.size + 1 < W0.heap.size + 1 + 1 := by omega
  have Or := Qr
  obtain ⟨⟨cr0, cr1, cr2, cr3, cr4, cr5, cr6, cr7⟩, fr, sr⟩ := Or
  have fr := fun o => fr o
  have sxr : w.heap.size + 1 + 1 < W0.heap.size + 1 := by omega
  have syr : w.heap.size + 1 + 1 < W0.heap.size + 1 + 1 := by omega
  have Ol := Ql
  obtain ⟨⟨cl0, cl1, cl2, cl3⟩, fl, sl⟩ := Ol
  have fl := fun o => fl o
  have sxl : w1.heap.size < W0.heap.size + 1 := by omega
  have syl : w1.heap.size < W0.heap.size + 1 + 1 := by omega
  have Oh := Qh
  obtain ⟨⟨ch0, ch1, ch2, ch3⟩, fh, sh⟩ := Oh
  have fh := fun o => fh o
  have sxh : w2.heap.size < W0.heap.size + 1 := by omega
  have syh : w2.heap.size < W0.heap.size + 1 + 1 := by omega
  go_wp2
  refine bodyPost_ret (v := .agg #[.int .u64 (l0 (hi)), .int .u64 (l1 (hi)), .int .u64 (l2 (hi)), .int .u64 (l3 (hi)), .int .u64 (l0 (lo)), .int .u64 (l1 (lo)), .int .u64 (l2 (lo)), .int .u64 (l3 (lo))]) (by simp [results, Tryz.results98, go_sem, *]) rfl ?_
  refine ⟨by rw [dw_of78 G2.out F1.out], ?_⟩
  repeat (first | with_reducible exact M | with_reducible exact Mo.refl _ | with_reducible apply Mo.drew | with_reducible apply Mo.drewN | with_reducible apply Mo.alloc | with_reducible refine Mo.setCell ?_ (by simp <;> omega) _)
 ·have G2 : Hid _ := g2
  clear g2
  have a : Mo w2 ((w2).alloc (.cells #[.int .u64 (l0 (hi)), .int .u64 (l1 (hi)), .int .u64 (l2 (hi)), .int .u64 (l3 (hi))] 24)) := by repeat (first | with_reducible exact Mo.refl _ | with_reducible apply Mo.alloc)
  have zW0x := sx
  have zW0y := sy
  have zW0r := sr
  have zW0l := sl
  clear cx0 cx1 cx2 cx3 cx4 cx5 cx6 cx7 fx sx sxx syx cy0 cy1 cy2 cy3 cy4 cy5 cy6 cy7 fy sy sxy syy cr0 cr1 cr2 cr3 cr4 cr5 cr6 cr7 fr sr sxr syr cl0 cl1 cl2 cl3 fl sl sxl syl
  have Qx := Qx.mo a
  have Qy := Qy.mo a
  have Qr := Qr.mo a
  have Ql := Ql.mo a
  have M := M.trans a
  have Qh : AtN ((w2).alloc (.cells #[.int .u64 (l0 (hi)), .int .u64 (l1 (hi)), .int .u64 (l2 (hi)), .int .u64 (l3 (hi))] 24)) (w2.heap.size) hi := ⟨by simp [At4, go_sem], fun o => by simp [go_sem], by simp <;> omega⟩
  clear a
  go_upto_region 4 with fail
  generalize ((w2).alloc (.cells #[.int .u64 (l0 (hi)), .int .u64 (l1 (hi)), .int .u64 (l2 (hi)), .int .u64 (l3 (hi))] 24)) = W0 at *
  have Ox := Qx
  obtain ⟨⟨cx0, cx1, cx2, cx3, cx4, cx5, cx6, cx7⟩, fx, sx⟩ := Ox
  have fx := fun o => fx o
  have sxx : w.heap.size < W0.heap.size + 1 := by omega
  have syx : w.heap.size < W0.heap.size + 1 + 1 := by omega
  have Oy := Qy
  obtain ⟨⟨cy0, cy1, cy2, cy3, cy4, cy5, cy6, cy7⟩, fy, sy⟩ := Oy
  have fy := fun o => fy o
  have sxy : w.heap.size + 1 < W0.heap.size + 1 := by omega
  have syy : w.heap.size + 1 < W0.heap.size + 1 + 1 := by omega
  have Or := Qr
  obtain ⟨⟨cr0, cr1, cr2, cr3, cr4, cr5, cr6, cr7⟩, fr, sr⟩ := Or
  have fr := fun o => fr o
  have sxr : w.heap.size + 1 + 1 < W0.heap.size + 1 := by omega
  have syr : w.heap.size + 1 + 1 < W0.heap.size + 1 + 1 := by omega
  have Ol := Ql
  obtain ⟨⟨cl0, cl1, cl2, cl3⟩, fl, sl⟩ := Ol
  have fl := fun o => fl o
  have sxl : w1.heap.size < W0.heap.size + 1 := by omega
  have syl : w1.heap.size < W0.heap.size + 1 + 1 := by omega
  have Oh := Qh
  obtain ⟨⟨ch0, ch1, ch2, ch3⟩, fh, sh⟩ := Oh
  have fh := fun o => fh o
  have sxh : w2.heap.size < W0.heap.size + 1 := by omega
  have syh : w2.heap.size < W0.heap.size + 1 + 1 := by omega
  go_cut [] from 26 to 31 (fun wx => Mo w wx ∧ AtN wx w2.heap.size (hi % MM + 1 % MM) ∧ AtN wx w1.heap.size lo ∧ AtW wx (w.heap.size + 1 + 1) 0)
  case first =>
   go_region_with
    (first | (go_at_call 107; refine (from34_any 1 _ ⟨by decide, by decide⟩).mono ?_; rintro e w5 ⟨rfl, hm5⟩; have m5 : Mo W0 w5 := Mo.trans (by repeat (first | with_reducible exact Mo.refl _ | with_reducible apply Mo.drew | with_reducible apply Mo.alloc)) hm5; obtain ⟨⟨x0, x1, x2, x3⟩, _, xs⟩ := Qh.mo m5) | (go_at_call 121; refine (radd_m hi 1 _).mono ?_; rintro e w6 ⟨rfl, hm6⟩; have m6 : Mo w5 w6 := Mo.trans (by repeat (first | with_reducible exact Mo.refl _ | with_reducible apply Mo.drew | with_reducible apply Mo.alloc)) hm6; have m7 := m5.trans m6; obtain ⟨⟨z0, z1, z2, z3⟩, zf, zs⟩ := Qh.mo m7; have zf := fun o => zf o))
   all_goals
    go_wp2
    go_meet
    case rel => exact ⟨(M.trans m7).st4 (by omega) _, (Qh.mo m7).same _, (Ql.mo m7).other (by omega) _, ((((Qr.mo m7).set178 (by omega) _ _).set178 (by omega) _ _).set178 (by omega) _ _).set178 (by omega) _ _⟩
  case rest =>
   clear cx0 cx1 cx2 cx3 cx4 cx5 cx6 cx7 fx sx sxx syx cy0 cy1 cy2 cy3 cy4 cy5 cy6 cy7 fy sy sxy syy cr0 cr1 cr2 cr3 cr4 cr5 cr6 cr7 fr sr sxr syr cl0 cl1 cl2 cl3 fl sl sxl syl ch0 ch1 ch2 ch3 fh sh sxh syh Qx Qy Qr Ql Qh M
   obtain ⟨M, Qh, Ql, Qr⟩ := hcut
   obtain ⟨⟨a0, a1, a2, a3⟩, _, sa⟩ := Qh
   obtain ⟨⟨b0, b1, b2, b3⟩, _, sb⟩ := Ql
   obtain ⟨⟨c0, c1, c2, c3, c4, c5, c6, c7⟩, fc, sc⟩ := Qr
   have fc := fun o => fc o
   go_wp2
   refine bodyPost_ret (v := .agg #[.int .u64 (l0 (hi % MM + 1 % MM)), .int .u64 (l1 (hi % MM + 1 % MM)), .int .u64 (l2 (hi % MM + 1 % MM)), .int .u64 (l3 (hi % MM + 1 % MM)), .int .u64 (l0 (lo)), .int .u64 (l1 (lo)), .int .u64 (l2 (lo)), .int .u64 (l3 (lo))]) (by simp [results, Tryz.results98, go_sem, *]) rfl ?_
   refine ⟨by rw [dw_of78 G2.out F1.out], ?_⟩
   repeat (first | with_reducible exact M | with_reducible exact Mo.refl _ | with_reducible apply Mo.drew | with_reducible apply Mo.drewN | with_reducible apply Mo.alloc | with_reducible refine Mo.setCell ?_ (by simp <;> omega) _)
end Go.Proofs.YtogomodbcjpfiaaGreatDoor

