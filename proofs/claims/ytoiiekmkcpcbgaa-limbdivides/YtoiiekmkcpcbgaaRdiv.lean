/-
  The document's Div, whatever the numbers: the walk.
-/
import Derived.Test.YtoiiekmkcpcbgaaRdm
import Derived.Test.YtoiiekmkcpcbgaaBit
namespace Go.Proofs.Ytoiiekmkcpcbgaa
open Go.RowKit
/-- The blocks of the call: what is divided, the divisor, the results; the rest and the quotient so far. -/
def QW (w wx : World) (k : Nat) (H L D R Q : Int) : Prop := Mo w wx ∧ AtN wx w.heap.size H ∧ AtN wx (w.heap.size + 1) L ∧ AtN wx (w.heap.size + 1 + 1) D ∧ AtN wx (w.heap.size + 1 + 1 + 1) 0 ∧ AtN wx (w.heap.size + 1 + 1 + 1 + 1) 0 ∧ AtN wx k R ∧ AtN wx (k + 1) Q ∧ w.heap.size + 1 + 1 + 1 + 1 < k
theorem QW.mo {w wx w1 : World} {k : Nat} {H L D R Q : Int} (v : QW w wx k H L D R Q) (m : Mo wx w1) : QW w w1 k H L D R Q := by
  obtain ⟨h1, h2, h3, h4, h5, h6, h7, h8, h9⟩ := v
  exact ⟨h1.trans m, h2.mo m, h3.mo m, h4.mo m, h5.mo m, h6.mo m, h7.mo m, h8.mo m, h9⟩
theorem QW.other {w wx : World} {k : Nat} {H L D R Q : Int} (v : QW w wx k H L D R Q) {j : Nat} (hj : k + 1 < j) (o : Nat) (x : Value) : QW w (wx.setCell ⟨j, o, none⟩ x) k H L D R Q := by
  obtain ⟨h1, h2, h3, h4, h5, h6, h7, h8, h9⟩ := v
  exact ⟨h1.setCell (by show w.heap.size ≤ j; omega) _, h2.set1 (by omega) _ _, h3.set1 (by omega) _ _, h4.set1 (by omega) _ _, h5.set1 (by omega) _ _, h6.set1 (by omega) _ _, h7.set1 (by omega) _ _, h8.set1 (by omega) _ _, h9⟩
theorem QW.rest {w wx : World} {k : Nat} {H L D R Q : Int} (v : QW w wx k H L D R Q) (z : Int) : QW w (st4 wx k z) k H L D z Q := by
  obtain ⟨h1, h2, h3, h4, h5, h6, h7, h8, h9⟩ := v
  exact ⟨h1.st4 (by omega) _, h2.other (by omega) _, h3.other (by omega) _, h4.other (by omega) _, h5.other (by omega) _, h6.other (by omega) _, h7.same _, h8.other (by omega) _, h9⟩
theorem QW.quo {w wx : World} {k : Nat} {H L D R Q : Int} (v : QW w wx k H L D R Q) {o : Nat} {x : Value} {Z : Int} (h : At4 (wx.setCell ⟨k + 1, o, none⟩ x) (k + 1) (l0 Z) (l1 Z) (l2 Z) (l3 Z)) : QW w (wx.setCell ⟨k + 1, o, none⟩ x) k H L D R Z := by
  obtain ⟨h1, h2, h3, h4, h5, h6, h7, ⟨_, f, s⟩, h9⟩ := v
  exact ⟨h1.setCell (by show w.heap.size ≤ k + 1; omega) _, h2.set1 (by omega) _ _, h3.set1 (by omega) _ _, h4.set1 (by omega) _ _, h5.set1 (by omega) _ _, h6.set1 (by omega) _ _, h7.set1 (by omega) _ _, ⟨h, fun o => by simp [World.frozen?_setCell, f o], by simpa [World.setCell] using s⟩, h9⟩
theorem even_or {x b : Int} (hx : 0 ≤ x) (hx2 : x < 18446744073709551616) (he : x % 2 = 0) (hb : b = 0 ∨ b = 1) : bits .or .u64 x b = x + b := by
  have := or_join (x / 2) b 1 (by omega) (by omega) (by simp; omega) (by simp; omega)
  simp at this
  rw [show x / 2 * 2 = x from by omega] at this
  exact this

set_option maxHeartbeats 4000000 in
theorem rdiv_no (H L D : Int) (w : World) (hH0 : 0 ≤ H) (hHM : H < MM) (hD0 : 0 ≤ D) (hDM : D < MM) (h : D ≤ H) :
    Calls Try.prog 19 #[nv H, nv L, nv D] w fun e w' => e = .returned (.tuple #[nv 0, nv 0, .bool false]) ∧ Mo w w' := by
  have z0 : nv 0 = .agg #[.int .u64 0, .int .u64 0, .int .u64 0, .int .u64 0] := by simp [nv, l0, l1, l2, l3]
  have hc : decide (cm H D ≥ 0) = true := decide_eq_true (by unfold cm; rw [if_neg (by omega)]; split <;> decide)
  rw [z0]
  go_enter Try.func19, Try.ntmps19
  go_wp2_with fail
  refine (rcmp_n H D _ hH0 hHM hD0 hDM).mono ?_
  rintro e w1 ⟨rfl, hm1⟩
  have M1 : Mo w w1 := Mo.trans (by repeat (first | with_reducible exact Mo.refl _ | with_reducible apply Mo.alloc)) hm1
  have Q1 : At0 w1 (w.heap.size + 1 + 1 + 1) := At0.mo ⟨by simp [At4, go_sem], fun o => by simp [go_sem], by simp <;> omega⟩ hm1
  have Q2 : At0 w1 (w.heap.size + 1 + 1 + 1 + 1) := At0.mo ⟨by simp [At4, go_sem], fun o => by simp [go_sem], by simp <;> omega⟩ hm1
  obtain ⟨⟨a0, a1, a2, a3⟩, fa, sa⟩ := Q1
  obtain ⟨⟨b0, b1, b2, b3⟩, fb, sb⟩ := Q2
  have fa := fun o => fa o
  have fb := fun o => fb o
  go_wp2
  refine bodyPost_ret (v := .tuple #[.agg #[.int .u64 0, .int .u64 0, .int .u64 0, .int .u64 0], .agg #[.int .u64 0, .int .u64 0, .int .u64 0, .int .u64 0], .bool false]) (by simp [results, Try.results19, go_sem, *]) rfl ?_
  refine ⟨rfl, ?_⟩
  repeat (first | with_reducible exact M1 | with_reducible apply Mo.drew | with_reducible apply Mo.drewN | with_reducible refine Mo.setCell ?_ (by simp <;> omega) _)

set_option maxRecDepth 100000 in
set_option maxHeartbeats 4000000 in
theorem rdiv_yes (H L D : Int) (w : World) (hH0 : 0 ≤ H) (hL0 : 0 ≤ L) (hLM : L < MM) (hDM : D < MM) (h : H < D) :
    Calls Try.prog 19 #[nv H, nv L, nv D] w fun e w' => e = .returned (.tuple #[nv ((H * MM + L) / D), nv ((H * MM + L) % D), .bool true]) ∧ Mo w w' := by
  have hc : decide (cm H D ≥ 0) = false := decide_eq_false (by unfold cm; rw [if_pos h]; decide)
  go_enter Try.func19, Try.ntmps19
  go_wp2_with fail
  refine (rcmp_n H D _ hH0 (by omega) (by omega) hDM).mono ?_
  rintro e w1 ⟨rfl, hm1⟩
  have M1 : Mo w w1 := Mo.trans (by repeat (first | with_reducible exact Mo.refl _ | with_reducible apply Mo.alloc)) hm1
  have Q0 : AtN w1 w.heap.size H := AtN.mo ⟨by simp [At4, go_sem], fun o => by simp [go_sem], by simp <;> omega⟩ hm1
  have Q1 : AtN w1 (w.heap.size + 1) L := AtN.mo ⟨by simp [At4, go_sem], fun o => by simp [go_sem], by simp <;> omega⟩ hm1
  have Q2 : AtN w1 (w.heap.size + 1 + 1) D := AtN.mo ⟨by simp [At4, go_sem], fun o => by simp [go_sem], by simp <;> omega⟩ hm1
  have Q3 : At0 w1 (w.heap.size + 1 + 1 + 1) := At0.mo ⟨by simp [At4, go_sem], fun o => by simp [go_sem], by simp <;> omega⟩ hm1
  have Q4 : At0 w1 (w.heap.size + 1 + 1 + 1 + 1) := At0.mo ⟨by simp [At4, go_sem], fun o => by simp [go_sem], by simp <;> omega⟩ hm1
  have hS : QW w ((w1.alloc (.cells #[.int .u64 (l0 H), .int .u64 (l1 H), .int .u64 (l2 H), .int .u64 (l3 H)] 24)).alloc (.cells #[.int .u64 0, .int .u64 0, .int .u64 0, .int .u64 0] 24)) w1.heap.size H L D H 0 := by
    have a : Mo w1 ((w1.alloc (.cells #[.int .u64 (l0 H), .int .u64 (l1 H), .int .u64 (l2 H), .int .u64 (l3 H)] 24)).alloc (.cells #[.int .u64 0, .int .u64 0, .int .u64 0, .int .u64 0] 24)) := ((Mo.refl _).alloc _ _).alloc _ _
    exact ⟨M1.trans a, Q0.mo a, Q1.mo a, Q2.mo a, Q3.mo a, Q4.mo a, (AtN.new _ _).al, AtN.at _ 0 (by simp), Q4.2.2⟩
  have HS : Hid _ := hS
  have k0 := Q4.2.2
  obtain ⟨⟨a0, a1, a2, a3⟩, _, sa⟩ := Q0
  clear hm1 M1 Q1 Q2 Q3 Q4 hS
  go_wp2_with fail
  generalize w1.heap.size = kr at *
  go_loopw [11] (fun s wx => ∃ (j : Nat) (q R : Int), j ≤ 256 ∧ s = .int .i64 ((j : Int) - 1) ∧ 0 ≤ q ∧ q < 2 ^ (256 - j) ∧ 0 ≤ R ∧ R < D ∧ q * D + R = nj H L j ∧ QW w wx kr H L D R (q * 2 ^ j)) (fun s _ => (intOf s + 1).toNat)
  case atStart => exact ⟨256, 0, H, by decide, rfl, by decide, by decide, hH0, h, by rw [nj_top H hL0 hLM]; omega, by rw [Int.zero_mul]; exact HS.out⟩
  case round =>
    obtain ⟨j, q, R, hj, rfl, q0, q1, R0, R1, hI, hv⟩ := hrel
    clear HS
    have HI : Hid _ := hI
    have HQ : Hid _ := q1
    clear hI q1
    rcases Nat.eq_zero_or_pos j with hj0 | hj0
    · subst hj0
      rw [Int.pow_zero, Int.mul_one] at hv
      have hI := HI.out
      rw [nj_low] at hI
      obtain ⟨x1, x2⟩ := div_end R0 R1 hI
      have X1 : Hid _ := x1
      have X2 : Hid _ := x2
      clear hI x1 x2
      obtain ⟨m, _, _, _, ⟨⟨a0, a1, a2, a3⟩, fa, za⟩, ⟨⟨b0, b1, b2, b3⟩, fb, zb⟩, ⟨⟨c0, c1, c2, c3⟩, _, zc⟩, ⟨⟨d0, d1, d2, d3⟩, _, zd⟩, hk⟩ := hv
      have fa := fun o => fa o
      have fb := fun o => fb o
      go_wp2
      go_region
      all_goals
        go_wp2
        refine bodyPost_ret (v := .tuple #[nv q, nv R, .bool true]) (by simp [results, Try.results19, go_sem, *]) rfl ?_
        refine ⟨by rw [X1.out, X2.out], ?_⟩
        repeat (first | with_reducible exact m | with_reducible apply Mo.drew | with_reducible apply Mo.drewN | with_reducible refine Mo.setCell ?_ (by simp <;> omega) _)
    · obtain ⟨i, rfl⟩ : ∃ i, j = i + 1 := ⟨j - 1, by omega⟩
      rw [show (((i + 1 : Nat)) : Int) - 1 = (i : Int) from by omega]
      have di : decide ((i : Int) ≥ 0) = true := decide_eq_true (by omega)
      have hv0 := hv
      obtain ⟨hm, n0, n1, n2, n3, n4, ⟨⟨c0, c1, c2, c3⟩, _, s1⟩, n6, hk⟩ := hv0
      clear n0 n1 n2 n3 n4 n6 hm
      go_wp2_with fail
      refine (radd_n R R _ R0 (by omega) R0 (by omega)).mono ?_
      rintro e w2 ⟨rfl, hm2⟩
      have hv2 := hv.mo hm2
      have sk : kr + 1 < w2.heap.size := hv2.2.2.2.2.2.2.2.1.2.2
      have v3 := hv2.mo ((Mo.refl _).alloc #[.int .u64 (l0 (R + R)), .int .u64 (l1 (R + R)), .int .u64 (l2 (R + R)), .int .u64 (l3 (R + R))] 24)
      have n3 := AtN.new w2 (R + R)
      clear c0 c1 c2 c3 s1 hv hm2 hv2
      go_upto_region 9 with fail
      generalize w2.alloc (.cells #[.int .u64 (l0 (R + R)), .int .u64 (l1 (R + R)), .int .u64 (l2 (R + R)), .int .u64 (l3 (R + R))] 24) = w3 at *
      generalize w2.heap.size = kx at *
      obtain ⟨b, hb⟩ : ∃ b, b = L / 2 ^ i % 2 := ⟨_, rfl⟩
      have hb2 : b = 0 ∨ b = 1 := by omega
      have eo : bits .or .u64 (l0 (R + R)) b = l0 (R + R + b) := by
        rw [even_or (by unfold l0; omega) (by unfold l0; omega) (by unfold l0; omega) hb2]
        unfold l0; omega
      have e1 : l1 (R + R + b) = l1 (R + R) := by unfold l1; omega
      have e2 : l2 (R + R + b) = l2 (R + R) := by unfold l2; omega
      have e3 : l3 (R + R + b) = l3 (R + R) := by unfold l3; omega
      have HB : Hid _ := hb
      have E1 : Hid _ := e1
      have E2 : Hid _ := e2
      have E3 : Hid _ := e3
      clear e1 e2 e3
      go_cut [] from 31 to 37 (fun wx => QW w wx kr H L D R (q * 2 ^ (i + 1)) ∧ AtN wx kx (R + R + b))
      case first =>
        have v3z := v3
        obtain ⟨_, _, ⟨⟨c0, c1, c2, c3⟩, _, s1⟩, _⟩ := v3z
        have n3z := n3
        obtain ⟨⟨d0, d1, d2, d3⟩, df, sx⟩ := n3z
        have df := fun o => df o
        clear hb
        go_region_with
          (first | (go_at_call 65; refine (bit_any L i _ hL0 hLM (by omega)).mono ?_; rintro e w4 ⟨rfl, hm4⟩; rw [← HB.out]; have m4 : Mo w3 w4 := Mo.trans (by repeat (first | with_reducible exact Mo.refl _ | with_reducible apply Mo.drew | with_reducible apply Mo.alloc)) hm4; have v4 := v3.mo m4; have n4 := n3.mo m4; have n4z := n4; obtain ⟨⟨f0, f1, f2, f3⟩, ff, sf⟩ := n4z; have ff := fun o => ff o))
        all_goals
          go_wp2
          go_meet
          case rel =>
            refine ⟨?_, ?_⟩
            · exact v4.other sk _ _
            · refine ⟨?_, fun o => ?_, ?_⟩
              · rw [E1.out, E2.out, E3.out]
                simp [At4, go_sem, *]
              · simp [World.frozen?_setCell, ff o]
              · simpa [World.setCell] using sf
      case rest =>
        clear v3 n3 eo E1 E2 E3
        obtain ⟨v, n⟩ := hcut
        obtain ⟨T, hT⟩ : ∃ T, T = R + R + b := ⟨_, rfl⟩
        rw [← hT] at n
        have T0 : 0 ≤ T := by omega
        have T1 : T < D + D := by omega
        have HT : Hid _ := hT
        go_upto_region 10 with fail
        generalize hO : ov (R + R) = o at *
        have HO : Hid _ := hO
        clear hO
        go_cut [44] from 38 to 44 (fun s44 wx => s44 = .bool (decide (D ≤ T)) ∧ QW w wx kr H L D R (q * 2 ^ (i + 1)) ∧ AtN wx kx T)
        case first =>
          cases o
          case true =>
            have ho : MM ≤ R + R := of_decide_eq_true HO.out
            have o2 : Hid (decide (D ≤ T) = true) := decide_eq_true (by omega)
            clear hT hb ho
            go_wp2
            go_meet
            case rel => exact ⟨by rw [o2.out], v, n⟩
          case false =>
            have ho : ¬ MM ≤ R + R := of_decide_eq_false HO.out
            have tm : T < MM := by unfold MM at *; omega
            have o2 : Hid (decide (cm T D ≥ 0) = decide (D ≤ T)) := by
              show _ = _
              unfold cm
              by_cases hx : T < D
              · rw [if_pos hx, decide_eq_false (by decide), decide_eq_false (by omega)]
              · rw [if_neg hx, decide_eq_true (p := D ≤ T) (by omega)]
                split <;> decide
            clear hT hb ho
            have vz := v
            have nz := n
            obtain ⟨_, _, _, ⟨⟨c0, c1, c2, c3⟩, _, s1⟩, _⟩ := vz
            obtain ⟨⟨d0, d1, d2, d3⟩, _, sx⟩ := nz
            go_wp2_with fail
            refine (rcmp_n T D _ T0 tm (by omega) hDM).mono ?_
            rintro e w5 ⟨rfl, hm5⟩
            have v5 := v.mo hm5
            have n5 := n.mo hm5
            go_wp2
            go_meet
            case rel => exact ⟨by rw [o2.out], v5, n5⟩
        case rest =>
          clear v n hT hb
          obtain ⟨rfl, v, n⟩ := hcut
          have vz := v
          have nz := n
          obtain ⟨_, _, _, ⟨⟨c0, c1, c2, c3⟩, _, s1⟩, _⟩ := vz
          obtain ⟨⟨d0, d1, d2, d3⟩, df, sx⟩ := nz
          generalize hdd : decide (D ≤ T) = dd at *
          have HD : Hid _ := hdd
          clear hdd
          cases dd
          case true =>
            have hsub : ∀ wx, Calls Try.prog 66 #[nv T, nv D] wx fun e w' => e = .returned (.tuple #[nv (T - D), .bool (un (T % MM - D))]) ∧ Mo wx w' := by
              intro wx
              have hh := rsub_n (T % MM) D wx (Int.emod_nonneg _ (by decide)) (Int.emod_lt_of_pos _ (by decide)) (by omega) hDM
              rw [nv_mod] at hh
              have e : nv (T % MM - D) = nv (T - D) := by rw [← nv_mod (T % MM - D), ← nv_mod (T - D), Int.emod_sub_emod]
              rw [e] at hh
              exact hh
            clear df
            go_wp2_with fail
            refine (hsub _).mono ?_
            rintro e w6 ⟨rfl, hm6⟩
            have v6 := v.mo hm6
            have n6 := n.mo hm6
            clear c0 c1 c2 c3 s1 d0 d1 d2 d3 sx v n hsub hm6
            have v7 : QW w (st4 w6 kx (T - D)) kr H L D R (q * 2 ^ (i + 1)) := (((v6.other sk _ _).other sk _ _).other sk _ _).other sk _ _
            have n7 : AtN (st4 w6 kx (T - D)) kx (T - D) := n6.same _
            unfold st4 at v7 n7
            obtain ⟨⟨d0, d1, d2, d3⟩, df, sx⟩ := n6
            have df := fun o => df o
            clear v6
            go_upto_region 12 with fail
            generalize (((w6.setCell ⟨kx, 0, none⟩ (.int .u64 (l0 (T - D)))).setCell ⟨kx, 1, none⟩ (.int .u64 (l1 (T - D)))).setCell ⟨kx, 2, none⟩ (.int .u64 (l2 (T - D)))).setCell ⟨kx, 3, none⟩ (.int .u64 (l3 (T - D))) = w8 at *
            clear d0 d1 d2 d3 df sx
            obtain ⟨r, hr⟩ : ∃ r, r = i % 64 := ⟨_, rfl⟩
            have hbs := bit_set (by omega) q0 (by have := HQ.out; rwa [show 256 - (i + 1) = 255 - i from by omega] at this) r hr
            have r64 : r < 64 := by omega
            have er : (i : Int) % 64 = (r : Int) := by omega
            have wp : IntKind.u64.wrap (2 ^ r) = 2 ^ r := by
              rw [IntKind.wrap_u64]
              have h1 : (0 : Int) < 2 ^ r := Int.pow_pos (by decide)
              have h2 : (2 : Int) ^ r < 2 ^ 64 := by
                have := Nat.pow_lt_pow_right (a := 2) (by decide) r64
                rw [← cast_pow, ← cast_pow]
                omega
              exact Int.emod_eq_of_lt (by omega) h2
            clear hr
            obtain ⟨Q, hQ⟩ : ∃ Q, Q = q * 2 ^ (i + 1) := ⟨_, rfl⟩
            obtain ⟨Z, hZ⟩ : ∃ Z, Z = Q + 2 ^ i := ⟨_, rfl⟩
            rw [← hQ, ← hZ] at hbs
            rw [← hQ] at v7
            have HQ2 : Hid _ := hQ
            have HZ : Hid _ := hZ
            clear hQ hZ
            go_cut [] from 51 to 59 (fun wx => QW w wx kr H L D R Z ∧ AtN wx kx (T - D))
            case first =>
              have vz := v7
              obtain ⟨_, _, _, _, _, _, _, ⟨⟨c0, c1, c2, c3⟩, cf, s1⟩, _⟩ := vz
              have cf := fun o => cf o
              rcases hbs with ⟨hm, g0, g1, g2, g3⟩ | ⟨hm, g0, g1, g2, g3⟩ | ⟨hm, g0, g1, g2, g3⟩ | ⟨hm, g0, g1, g2, g3⟩
              · have hq : (i : Int) / 64 = 0 := by omega
                have HG1 : Hid _ := g1
                have HG2 : Hid _ := g2
                have HG3 : Hid _ := g3
                clear g1 g2 g3 hm
                go_region
                all_goals
                  go_wp2
                  go_meet
                  case rel =>
                    refine ⟨(v7.quo ?_).mo (Mo.refl _).drew, (n7.set1 (by omega) _ _).mo (Mo.refl _).drew⟩
                    rw [HG1.out, HG2.out, HG3.out]
                    simp [At4, go_sem, *]
              · have hq : (i : Int) / 64 = 1 := by omega
                have HG1 : Hid _ := g1
                have HG2 : Hid _ := g2
                have HG3 : Hid _ := g3
                clear g1 g2 g3 hm
                go_region
                all_goals
                  go_wp2
                  go_meet
                  case rel =>
                    refine ⟨(v7.quo ?_).mo (Mo.refl _).drew, (n7.set1 (by omega) _ _).mo (Mo.refl _).drew⟩
                    rw [HG1.out, HG2.out, HG3.out]
                    simp [At4, go_sem, *]
              · have hq : (i : Int) / 64 = 2 := by omega
                have HG1 : Hid _ := g1
                have HG2 : Hid _ := g2
                have HG3 : Hid _ := g3
                clear g1 g2 g3 hm
                go_region
                all_goals
                  go_wp2
                  go_meet
                  case rel =>
                    refine ⟨(v7.quo ?_).mo (Mo.refl _).drew, (n7.set1 (by omega) _ _).mo (Mo.refl _).drew⟩
                    rw [HG1.out, HG2.out, HG3.out]
                    simp [At4, go_sem, *]
              · have hq : (i : Int) / 64 = 3 := by omega
                have HG1 : Hid _ := g1
                have HG2 : Hid _ := g2
                have HG3 : Hid _ := g3
                clear g1 g2 g3 hm
                go_region
                all_goals
                  go_wp2
                  go_meet
                  case rel =>
                    refine ⟨(v7.quo ?_).mo (Mo.refl _).drew, (n7.set1 (by omega) _ _).mo (Mo.refl _).drew⟩
                    rw [HG1.out, HG2.out, HG3.out]
                    simp [At4, go_sem, *]
            case rest =>
              clear v7 n7
              obtain ⟨v7, n7⟩ := hcut
              have v8 := v7.rest (T - D)
              unfold st4 at v8
              obtain ⟨⟨d0, d1, d2, d3⟩, _, sx⟩ := n7
              obtain ⟨_, _, _, _, _, _, ⟨⟨c0, c1, c2, c3⟩, cf, s1⟩, _, _⟩ := v7
              have cf := fun o => cf o
              clear hbs
              go_wp2
              go_roundw
              case rel =>
                have hI := div_yes_step (by omega) HI.out
                have hb := HB.out
                have hT := HT.out
                rw [← hb, show 2 * R + b = T from by omega] at hI
                have hq1 : q < 2 ^ (255 - i) := by have := HQ.out; rwa [show 256 - (i + 1) = 255 - i from by omega] at this
                have hge := of_decide_eq_true HD.out
                refine ⟨i, 2 * q + 1, T - D, by omega, by go_num, by omega, (q_no (by omega) hq1).2, by omega, by omega, hI, ?_⟩
                rw [q_pow1, ← HQ2.out, ← HZ.out]
                exact v8
              case measure => simp [intOf]
          case false =>
            have v8 := v.rest T
            unfold st4 at v8
            obtain ⟨_, _, _, _, _, _, ⟨⟨b0, b1, b2, b3⟩, cf, s2⟩, _, _⟩ := v
            have cf := fun o => cf o
            clear df
            go_wp2
            go_roundw
            case rel =>
              have hI := div_no_step (by omega) HI.out
              have hb := HB.out
              have hT := HT.out
              rw [← hb, show 2 * R + b = T from by omega] at hI
              have hq1 : q < 2 ^ (255 - i) := by have := HQ.out; rwa [show 256 - (i + 1) = 255 - i from by omega] at this
              have hge := of_decide_eq_false HD.out
              refine ⟨i, 2 * q, T, by omega, by go_num, by omega, (q_no (by omega) hq1).1, by omega, by omega, hI, ?_⟩
              rw [q_pow]
              exact v8
            case measure => simp [intOf]
theorem rdiv_n (H L D : Int) (w : World) (hH0 : 0 ≤ H) (hHM : H < MM) (hL0 : 0 ≤ L) (hLM : L < MM) (hD0 : 0 ≤ D) (hDM : D < MM) :
    Calls Try.prog 19 #[nv H, nv L, nv D] w fun e w' => e = .returned (.tuple #[nv (dq H L D), nv (dr H L D), .bool (dok H D)]) ∧ Mo w w' := by
  unfold dq dr dok
  by_cases h : D ≤ H
  · rw [if_pos h, if_pos h, decide_eq_false (by omega)]
    exact rdiv_no H L D w hH0 hHM hD0 hDM h
  · rw [if_neg h, if_neg h, decide_eq_true (by omega)]
    exact rdiv_yes H L D w hH0 hL0 hLM hDM (by omega)
end Go.Proofs.Ytoiiekmkcpcbgaa
