/-
  A part of the proof.
-/
import Derived.ScopeJumps
import Derived.WalkMore
import Derived.Laws.StructEq
import Derived.Deep.MidRow
import Derived.Test.YtoiiekmkcpcbgaaB2
/-
  The document's Sub, whatever the numbers: the walk.
-/
namespace Go.Proofs.Ytoiiekmkcpcbgaa
open Go.RowKit
/-- The blocks of the call: the two numbers and the result. -/
def SW (w wx : World) (a b : Int) : Prop := Mo w wx ∧ AtN wx w.heap.size a ∧ AtN wx (w.heap.size + 1) b ∧ AtN wx (w.heap.size + 1 + 1) 0
theorem SW.mo {w wx w1 : World} {a b : Int} (v : SW w wx a b) (m : Mo wx w1) : SW w w1 a b := by
  obtain ⟨v1, v2, v3, v4⟩ := v
  exact ⟨v1.trans m, v2.mo m, v3.mo m, v4.mo m⟩
theorem SW.setk {w wx : World} {a b : Int} (v : SW w wx a b) {k : Nat} (hk : w.heap.size + 1 + 1 < k) (z : Int) : SW w (st4 wx k z) a b := by
  obtain ⟨v1, v2, v3, v4⟩ := v
  exact ⟨v1.st4 (by omega) z, v2.other (by omega) z, v3.other (by omega) z, v4.other (by omega) z⟩
theorem SW.start (w : World) (a b : Int) : SW w (((w.alloc (.cells #[.int .u64 (l0 a), .int .u64 (l1 a), .int .u64 (l2 a), .int .u64 (l3 a)] 24)).alloc (.cells #[.int .u64 (l0 b), .int .u64 (l1 b), .int .u64 (l2 b), .int .u64 (l3 b)] 24)).alloc (.cells #[.int .u64 0, .int .u64 0, .int .u64 0, .int .u64 0] 24)) a b := by
  have z0 : l0 0 = 0 := by decide
  have z1 : l1 0 = 0 := by decide
  have z2 : l2 0 = 0 := by decide
  have z3 : l3 0 = 0 := by decide
  refine ⟨(((Mo.refl _).alloc _ _).alloc _ _).alloc _ _, ⟨by simp [At4, go_sem], fun o => by simp [go_sem], by simp <;> omega⟩, ⟨by simp [At4, go_sem], fun o => by simp [go_sem], by simp <;> omega⟩, ⟨by simp [At4, go_sem, z0, z1, z2, z3], fun o => by simp [go_sem], by simp <;> omega⟩⟩

set_option maxHeartbeats 4000000 in
theorem rsub_n (A B : Int) (w : World) (hA0 : 0 ≤ A) (hAM : A < MM) (hB0 : 0 ≤ B) (hBM : B < MM) :
    Calls Try.prog 66 #[nv A, nv B] w fun e w' =>
      e = .returned (.tuple #[nv (A - B), .bool (un (A - B))]) ∧ Mo w w' := by
  have hcm : decide (cm A B < 0) = un (A - B) := by
    unfold cm un
    by_cases h : A < B
    · rw [if_pos h, decide_eq_true (by decide), decide_eq_true (by omega)]
    · rw [if_neg h, decide_eq_false (p := A - B < 0) (by omega)]
      split <;> decide
  have Hcm : Hid _ := hcm
  clear hcm
  have v0 := SW.start w A B
  have H1 : Hid (nv (A + (MM - 1 - B) % MM) = nv (A + (MM - 1 - B))) := by
    show _ = _
    rw [← nv_mod (A + (MM - 1 - B) % MM), Int.add_emod_emod, nv_mod]
  have H2 : Hid (nv ((A + (MM - 1 - B)) % MM + 1 % MM) = nv (A - B)) := by
    show _ = _
    rw [nv_add_mod, show A + (MM - 1 - B) + 1 = A - B + MM * 1 from by omega, nv_top]
  go_enter Try.func66, Try.ntmps66
  go_upto_region 1 with fail
  revert v0
  generalize ((w.alloc (.cells #[.int .u64 (l0 A), .int .u64 (l1 A), .int .u64 (l2 A), .int .u64 (l3 A)] 24)).alloc (.cells #[.int .u64 (l0 B), .int .u64 (l1 B), .int .u64 (l2 B), .int .u64 (l3 B)] 24)).alloc (.cells #[.int .u64 0, .int .u64 0, .int .u64 0, .int .u64 0] 24) = W0
  intro v0
  go_cut [6, 7] from 8 to 14 (fun s6 _ wx => ∃ k, s6 = .pointer (some ⟨k, 0, none⟩) ∧ w.heap.size + 1 + 1 < k ∧ SW w wx A B ∧ AtN wx k (A + (MM - 1 - B)))
  case first =>
    have v0z := v0
    obtain ⟨_, ⟨⟨c0, c1, c2, c3⟩, _, x1⟩, ⟨⟨d0, d1, d2, d3⟩, _, x2⟩, _, _, x3⟩ := v0z
    go_region_held3 (fun w' => w'.cell? ⟨w.heap.size, 0, none⟩ = some (.int .u64 (l0 A)) ∧ w'.cell? ⟨w.heap.size, 1, none⟩ = some (.int .u64 (l1 A)) ∧ w'.cell? ⟨w.heap.size, 2, none⟩ = some (.int .u64 (l2 A)) ∧ w'.cell? ⟨w.heap.size, 3, none⟩ = some (.int .u64 (l3 A)) ∧ w'.cell? ⟨w.heap.size + 1, 0, none⟩ = some (.int .u64 (l0 B)) ∧ w'.cell? ⟨w.heap.size + 1, 1, none⟩ = some (.int .u64 (l1 B)) ∧ w'.cell? ⟨w.heap.size + 1, 2, none⟩ = some (.int .u64 (l2 B)) ∧ w'.cell? ⟨w.heap.size + 1, 3, none⟩ = some (.int .u64 (l3 B))) (simp [go_sem, World.cell?_alloc_past, *])
      (first | (go_at_call 98; refine (not_any (l0 B) (l1 B) (l2 B) (l3 B) _ (u4_lb B)).mono ?_; rintro e w1 ⟨rfl, hm1⟩; rw [vl_lb B hB0 hBM]; have v1 := v0.mo (Mo.trans (by repeat (first | with_reducible exact Mo.refl _ | with_reducible apply Mo.drew | with_reducible apply Mo.alloc)) hm1); (try (with_reducible have k1 := At0.mk1 hm1)); have v1z := v1; obtain ⟨_, ⟨⟨e0, e1, e2, e3⟩, _, y1⟩, ⟨⟨f0, f1, f2, f3⟩, _, y2⟩, _, _, y3⟩ := v1z) | (go_at_call 64; refine (radd_any (l0 A) (l1 A) (l2 A) (l3 A) _ _ _ _ _ (u4_lb A) (u4_lb _)).mono ?_; rintro e w2 ⟨rfl, hm2⟩; rw [vl_lb A hA0 hAM, vl_nv, H1.out]; have m2 : Mo w1 w2 := Mo.trans (by repeat (first | with_reducible exact Mo.refl _ | with_reducible apply Mo.drew | with_reducible apply Mo.alloc)) hm2; (try (with_reducible have k2 := At0.mk2 hm2)); (try (with_reducible have k2 := k1.mo m2)); (try have k3 := k2); (try obtain ⟨⟨i0, i1, i2, i3⟩, ff, y9⟩ := k2); (try have ff := fun o => ff o); have v2 := v1.mo m2; have v2z := v2; obtain ⟨_, ⟨⟨g0, g1, g2, g3⟩, _, y4⟩, ⟨⟨h0, h1, h2, h3⟩, _, y5⟩, _, _, y6⟩ := v2z))
    all_goals
      go_wp2
      go_meet
      case rel =>
        have z1 := hm1.size
        have z2 := m2.size
        simp at z1
        refine ⟨_, rfl, by omega, ?_, ?_⟩
        · first | exact v2.setk (by omega) _ | exact v2.mo ((Mo.refl _).alloc _ _)
        · first | exact k3.same _ | exact AtN.new _ _
  case rest =>
    clear v0
    obtain ⟨k, rfl, hk, v, n⟩ := hcut
    go_upto_region 2 with fail
    go_cut [] from 15 to 20 (fun wx => SW w wx A B ∧ AtN wx k (A - B))
    case first =>
      have vz := v
      have nz := n
      obtain ⟨⟨i0, i1, i2, i3⟩, _, x0⟩ := nz
      go_region_with
        (first | (go_at_call 69; refine (from34_any 1 _ ⟨by decide, by decide⟩).mono ?_; rintro e w1 ⟨rfl, hm1⟩; have m1 : Mo wc w1 := Mo.trans (by repeat (first | with_reducible exact Mo.refl _ | with_reducible apply Mo.drew | with_reducible apply Mo.alloc)) hm1; obtain ⟨⟨i0, i1, i2, i3⟩, _, x1⟩ := n.mo m1) | (go_at_call 64; refine (radd_any (l0 (A + (MM - 1 - B))) (l1 (A + (MM - 1 - B))) (l2 (A + (MM - 1 - B))) (l3 (A + (MM - 1 - B))) (l0 1) (l1 1) (l2 1) (l3 1) _ (u4_lb _) (u4_lb _)).mono ?_; rintro e w2 ⟨rfl, hm2⟩; rw [vl_nv (A + (MM - 1 - B)), vl_nv 1, H2.out]; have m2 : Mo w1 w2 := Mo.trans (by repeat (first | with_reducible exact Mo.refl _ | with_reducible apply Mo.drew | with_reducible apply Mo.alloc)) hm2; have m3 := m1.trans m2; obtain ⟨⟨i0, i1, i2, i3⟩, ff, x1⟩ := n.mo m3; have ff := fun o => ff o))
      all_goals
        go_wp2
        go_meet
        case rel => exact ⟨(v.mo m3).setk hk _, (n.mo m3).same _⟩
    case rest =>
      clear v n
      obtain ⟨v, n⟩ := hcut
      go_upto_region 3 with fail
      go_cut [5] from 21 to 25 (fun s5 wx => s5 = .bool (un (A - B)) ∧ AtN wx (w.heap.size + 1 + 1) (A - B) ∧ Mo w wx)
      case first =>
        have hcm := Hcm.out
        have vz := v
        have nz := n
        obtain ⟨_, ⟨⟨c0, c1, c2, c3⟩, _, x1⟩, ⟨⟨d0, d1, d2, d3⟩, _, x2⟩, _, _, x3⟩ := vz
        obtain ⟨⟨i0, i1, i2, i3⟩, _, x0⟩ := nz
        have ne : ¬ k = w.heap.size + 1 + 1 := by omega
        go_region_held3 (fun w' => w'.cell? ⟨w.heap.size, 0, none⟩ = some (.int .u64 (l0 A)) ∧ w'.cell? ⟨w.heap.size, 1, none⟩ = some (.int .u64 (l1 A)) ∧ w'.cell? ⟨w.heap.size, 2, none⟩ = some (.int .u64 (l2 A)) ∧ w'.cell? ⟨w.heap.size, 3, none⟩ = some (.int .u64 (l3 A)) ∧ w'.cell? ⟨w.heap.size + 1, 0, none⟩ = some (.int .u64 (l0 B)) ∧ w'.cell? ⟨w.heap.size + 1, 1, none⟩ = some (.int .u64 (l1 B)) ∧ w'.cell? ⟨w.heap.size + 1, 2, none⟩ = some (.int .u64 (l2 B)) ∧ w'.cell? ⟨w.heap.size + 1, 3, none⟩ = some (.int .u64 (l3 B)) ∧ w'.cell? ⟨k, 0, none⟩ = some (.int .u64 (l0 (A - B))) ∧ w'.cell? ⟨k, 1, none⟩ = some (.int .u64 (l1 (A - B))) ∧ w'.cell? ⟨k, 2, none⟩ = some (.int .u64 (l2 (A - B))) ∧ w'.cell? ⟨k, 3, none⟩ = some (.int .u64 (l3 (A - B)))) (simp [go_sem, *])
          (first | (go_at_call 63; refine (cmp16_any (l0 A) (l1 A) (l2 A) (l3 A) (l0 B) (l1 B) (l2 B) (l3 B) _ (u4_lb A) (u4_lb B)).mono ?_; rintro e w1 ⟨rfl, hm1⟩; rw [vl_lb A hA0 hAM, vl_lb B hB0 hBM]; have m1 : Mo wc w1 := Mo.trans (by repeat (first | with_reducible exact Mo.refl _ | with_reducible apply Mo.drew | with_reducible apply Mo.alloc)) hm1; have v1 := v.mo m1; obtain ⟨q1, ⟨⟨c0, c1, c2, c3⟩, _, y1⟩, ⟨⟨d0, d1, d2, d3⟩, _, y2⟩, ⟨⟨e0, e1, e2, e3⟩, fe, y3⟩⟩ := v1; obtain ⟨⟨i0, i1, i2, i3⟩, _, y0⟩ := n.mo m1; have fe := fun o => fe o))
        all_goals
          go_wp2
          go_meet
          case rel =>
            have v1 := v.mo m1
            exact ⟨rfl, v1.2.2.2.same _, v1.1.st4 (by omega) _⟩
      case rest =>
        obtain ⟨rfl, ⟨⟨a0, a1, a2, a3⟩, _, _⟩, hmo⟩ := hcut
        go_wp2
        refine bodyPost_ret (v := .tuple #[nv (A - B), .bool (un (A - B))]) (by simp [results, Try.results66, go_sem, a0, a1, a2, a3]) rfl ?_
        exact ⟨rfl, hmo⟩
end Go.Proofs.Ytoiiekmkcpcbgaa
/-
  limb.Ten, whatever the number: the walk.
-/
namespace Go.Proofs.Ytoiiekmkcpcbgaa
open Go.RowKit
theorem nv_mul_mod (n c : Int) : nv (n % MM * c) = nv (n * c) := by
  rw [← nv_mod (n % MM * c), ← nv_mod (n * c), Int.mul_emod, Int.emod_emod, ← Int.mul_emod]
/-- The world between two rounds. -/
def TT (w wr : World) (b : Nat) (n : Int) : Prop := Mo w wr ∧ w.heap.size < b ∧ b < wr.heap.size ∧ At4 wr w.heap.size 0 0 0 0 ∧ Fz wr w.heap.size ∧ At4 wr b (l0 n) (l1 n) (l2 n) (l3 n) ∧ Fz wr b
theorem TT.mo {w wr w1 : World} {b : Nat} {n : Int} (h : TT w wr b n) (m : Mo wr w1) : TT w w1 b n := by
  obtain ⟨h1, h2, h3, h4, h5, h6, h7⟩ := h
  have := m.size
  exact ⟨h1.trans m, h2, by omega, h4.mo m (by omega), h5.mo m, h6.mo m h3, h7.mo m⟩
theorem TT.put {w w1 : World} {b : Nat} {n q : Int} (h : TT w w1 b n) : TT w ((((w1.setCell ⟨b, 0, none⟩ (.int .u64 (l0 q))).setCell ⟨b, 1, none⟩ (.int .u64 (l1 q))).setCell ⟨b, 2, none⟩ (.int .u64 (l2 q))).setCell ⟨b, 3, none⟩ (.int .u64 (l3 q))) b q := by
  obtain ⟨h1, h2, h3, ⟨c0, c1, c2, c3⟩, h5, ⟨b0, b1, b2, b3⟩, h7⟩ := h
  have ne : ¬ w.heap.size = b := by omega
  have le : w.heap.size ≤ b := by omega
  refine ⟨(((h1.setCell le _).setCell le _).setCell le _).setCell le _, h2, by simpa [World.setCell] using h3, ?_, ?_, ?_, ?_⟩
  · simp [At4, go_sem, *]
  · intro o; simp [World.frozen?_setCell, h5 o]
  · simp [At4, go_sem, *]
  · intro o; simp [World.frozen?_setCell, h7 o]

set_option maxHeartbeats 1000000 in
theorem ten_no (n : Int) (w : World) (h : n < 0 ∨ 77 < n) :
    Calls Try.prog 22 #[.int .i64 n] w fun e w' => e = .returned (.tuple #[nv 0, .bool false]) ∧ Mo w w' := by
  have e : nv 0 = .agg #[.int .u64 0, .int .u64 0, .int .u64 0, .int .u64 0] := by simp [nv, l0, l1, l2, l3]
  rw [e]
  clear e
  by_cases hn : n < 0
  · clear h
    go_enter Try.func22, Try.ntmps22
    go_wp2
    refine bodyPost_ret (by simp [results, Try.results22, go_sem]; rfl) rfl ?_
    exact ⟨rfl, (Mo.refl _).alloc _ _⟩
  · have h7 : 77 < n := by omega
    clear h
    go_enter Try.func22, Try.ntmps22
    go_wp2
    refine bodyPost_ret (by simp [results, Try.results22, go_sem]; rfl) rfl ?_
    exact ⟨rfl, (Mo.refl _).alloc _ _⟩

set_option maxHeartbeats 1000000 in
theorem ten_yes (n : Nat) (w : World) (h7 : n ≤ 77) :
    Calls Try.prog 22 #[.int .i64 n] w fun e w' => e = .returned (.tuple #[nv (10 ^ n), .bool true]) ∧ Mo w w' := by
  have e1 : nv 1 = .agg #[.int .u64 1, .int .u64 0, .int .u64 0, .int .u64 0] := by simp [nv, l0, l1, l2, l3]
  have hn : ¬ ((n : Int) < 0) := by omega
  have hn7 : ¬ (77 < (n : Int)) := by omega
  go_enter Try.func22, Try.ntmps22
  go_wp2_with fail
  refine (from20_any 1 _ ⟨by decide, by decide⟩).mono ?_
  rintro e w1 ⟨rfl, hm⟩
  have hz := hm.size
  simp only [World.size_alloc] at hz
  have hA : At4 w1 w.heap.size 0 0 0 0 := At4.mo (by simp [At4, go_sem]) hm (by simp)
  have hF : Fz w1 w.heap.size := Fz.mo (fun o => by simp [go_sem]) hm
  have hM : Mo w w1 := ((Mo.refl _).alloc _ _).trans hm
  have hS : TT w (w1.alloc (.cells #[.int .u64 (l0 1), .int .u64 (l1 1), .int .u64 (l2 1), .int .u64 (l3 1)] 24)) w1.heap.size 1 := by
    have z : w.heap.size < w1.heap.size := by omega
    exact ⟨hM.alloc _ _, z, by simp, hA.mo ((Mo.refl _).alloc _ _) z, hF.mo ((Mo.refl _).alloc _ _), by simp [At4, go_sem], fun o => by simp [go_sem]⟩
  have HS : Hid _ := hS
  clear hS hA hF e1
  go_wp2
  go_loopw [14] (fun i wr => ∃ k : Nat, k ≤ n ∧ i = .int .i64 k ∧ TT w wr w1.heap.size (10 ^ k)) (fun i _ => n - (intOf i).toNat)
  case atStart => exact ⟨0, Nat.zero_le _, rfl, HS.out⟩
  case round =>
    obtain ⟨k, hk, rfl, ht⟩ := hrel
    by_cases hlt : k < n
    · have ht0 := ht
      obtain ⟨g1, g2, g3, ⟨c0, c1, c2, c3⟩, g5, ⟨b0, b1, b2, b3⟩, g7⟩ := ht
      clear g5 g7
      go_wp2_with fail
      refine (mulLimb_any (l0 (10 ^ k)) (l1 (10 ^ k)) (l2 (10 ^ k)) (l3 (10 ^ k)) 10 _ (u4_lb _) ⟨by decide, by decide⟩).mono ?_
      rintro e w2 ⟨rfl, hm2⟩
      rw [vl_nv, nv_mul_mod, ← Int.pow_succ]
      have t1 := ht0.mo hm2
      have t3 := t1.put (q := 10 ^ (k + 1))
      clear b0 b1 b2 b3 c0 c1 c2 c3 g1 g2 g3
      obtain ⟨g1, g2, g3, ⟨c0, c1, c2, c3⟩, g5, ⟨b0, b1, b2, b3⟩, g7⟩ := t1
      have g7 := fun o => g7 o
      clear g5
      go_wp2
      go_roundw
      case rel => exact ⟨k + 1, by omega, by go_num, t3⟩
      case measure => simp [intOf]; omega
    · have hkn : k = n := by omega
      subst hkn
      obtain ⟨g1, g2, g3, ⟨c0, c1, c2, c3⟩, g5, ⟨b0, b1, b2, b3⟩, g7⟩ := ht
      have g5 := fun o => g5 o
      go_wp2
      refine bodyPost_ret (v := .tuple #[nv (10 ^ k), .bool true]) (by simp [results, Try.results22, go_sem, c0, c1, c2, c3]) rfl ?_
      refine ⟨rfl, ?_⟩
      exact (((g1.setCell (Nat.le_refl _) _).setCell (Nat.le_refl _) _).setCell (Nat.le_refl _) _).setCell (Nat.le_refl _) _
end Go.Proofs.Ytoiiekmkcpcbgaa
/-
  limb.Text, whatever the limbs: the walk. Decimal digits as plain lists.
-/
namespace Go.Proofs.Ytoiiekmkcpcbgaa
open Go.RowKit
/-- The decimal digits of a number, the greatest first, as bytes; at most so many. -/
def decF : Nat → Int → List Int
  | 0, _ => []
  | f + 1, n => if n / 10 = 0 then [48 + n % 10] else decF f (n / 10) ++ [48 + n % 10]
/-- A string of bytes. -/
def strOf (ns : List Int) : ByteArray := ns.foldl (fun r n => r.push (UInt8.ofNat n.toNat)) ByteArray.empty
def Z78 : Array Value := Array.replicate 78 (.int .u8 0)
theorem z60 (w : World) : (zeroValue 74).run Try.prog w = .ok (.agg Z78) w := by kernel_rfl
/-- The block k holds acc behind p zeros. -/
def Dg (w : World) (k p : Nat) (acc : List Int) : Prop := ∀ j, j < 78 → w.cell? ⟨k, j, none⟩ = some (.int .u8 (if j < p then 0 else acc.getD (j - p) 0))
/-- The world between two digits. -/
def TW (w wx : World) (n : Int) (p : Nat) (acc : List Int) : Prop := Mo w wx ∧ w.heap.size + 1 < wx.heap.size ∧ At4 wx w.heap.size (l0 n) (l1 n) (l2 n) (l3 n) ∧ Fz wx w.heap.size ∧ Fz wx (w.heap.size + 1) ∧ Dg wx (w.heap.size + 1) p acc
theorem TW.mo {w wx w1 : World} {n : Int} {p : Nat} {acc : List Int} (h : TW w wx n p acc) (m : Mo wx w1) : TW w w1 n p acc := by
  obtain ⟨h1, h2, h3, h4, h5, h6⟩ := h
  have := m.size
  exact ⟨h1.trans m, by omega, h3.mo m (by omega), h4.mo m, h5.mo m, fun j hj => (m.cell _ _ h2).trans (h6 j hj)⟩
theorem TW.step {w w1 : World} {n q d : Int} {p : Nat} {acc : List Int} (h : TW w w1 n (p + 1) acc) (hp : p < 78) :
    TW w (((((w1.setCell ⟨w.heap.size, 0, none⟩ (.int .u64 (l0 q))).setCell ⟨w.heap.size, 1, none⟩ (.int .u64 (l1 q))).setCell ⟨w.heap.size, 2, none⟩ (.int .u64 (l2 q))).setCell ⟨w.heap.size, 3, none⟩ (.int .u64 (l3 q))).setCell ⟨w.heap.size + 1, p, none⟩ (.int .u8 d)) q p (d :: acc) := by
  obtain ⟨h1, h2, ⟨b0, b1, b2, b3⟩, h4, h5, h6⟩ := h
  refine ⟨?_, by simpa [World.setCell] using h2, ?_, ?_, ?_, ?_⟩
  · exact ((((h1.setCell (Nat.le_refl _) _).setCell (Nat.le_refl _) _).setCell (Nat.le_refl _) _).setCell (Nat.le_refl _) _).setCell (by show w.heap.size ≤ w.heap.size + 1; omega) _
  · simp [At4, go_sem, *]
  · intro o; simp [World.frozen?_setCell, h4 o]
  · intro o; simp [World.frozen?_setCell, h5 o]
  · intro j hj
    have e := h6 j hj
    by_cases hjp : j = p
    · subst hjp
      simp [go_sem, e]
    · have e2 : (((((w1.setCell ⟨w.heap.size, 0, none⟩ (.int .u64 (l0 q))).setCell ⟨w.heap.size, 1, none⟩ (.int .u64 (l1 q))).setCell ⟨w.heap.size, 2, none⟩ (.int .u64 (l2 q))).setCell ⟨w.heap.size, 3, none⟩ (.int .u64 (l3 q))).setCell ⟨w.heap.size + 1, p, none⟩ (.int .u8 d)).cell? ⟨w.heap.size + 1, j, none⟩ = w1.cell? ⟨w.heap.size + 1, j, none⟩ := by
        simp [go_sem, e]
      rw [e2, e]
      by_cases hlt : j < p
      · rw [if_pos (by omega), if_pos hlt]
      · rw [if_neg (by omega), if_neg hlt, show j - p = (j - (p + 1)) + 1 from by omega]
        simp
theorem TW.start (w : World) (n : Int) : TW w ((w.alloc (.cells #[.int .u64 (l0 n), .int .u64 (l1 n), .int .u64 (l2 n), .int .u64 (l3 n)] 24)).alloc (.cells Z78 74)) n 78 [] := by
  refine ⟨((Mo.refl _).alloc _ _).alloc _ _, by simp, by simp [At4, go_sem], fun o => by simp [go_sem], fun o => by simp [go_sem], ?_⟩
  intro j hj
  rw [if_pos hj]
  have : Z78[j]? = some (.int .u8 0) := by unfold Z78; simp [hj]
  simp [go_sem, this]
theorem zero4 {q : Int} (h0 : 0 ≤ q) (h : q < MM) : (l0 q == 0 && (l1 q == 0 && (l2 q == 0 && l3 q == 0))) = decide (q = 0) := by
  have e := vl_lb q h0 h
  rw [Bool.eq_iff_iff]
  simp
  constructor
  · rintro ⟨a, b, c, d⟩; rw [a, b, c, d] at e; rw [← e]; rfl
  · rintro rfl; decide
theorem conv (W : World) (k p l c : Nat) (acc : List Int) (h : Dg W k p acc) (hp : p + acc.length = 78) (hl : l = acc.length) :
    (convert 75 9 (.slice (some ⟨k, p, none⟩) l c)).run Try.prog W = .ok (.string (strOf acc)) W := by
  subst hl
  rw [run_convert_bytes_string W 75 9 5 _ _ _ Try.underlying75 Try.underlying5 Try.underlying9, run_bytesToString W _ _ _ acc]
  · rfl
  · rw [show acc.length = (acc.map (Value.int .u8)).length by simp]
    refine run_loadCells_list W _ _ ?_
    intro j v hv
    rw [List.getElem?_map, Option.map_eq_some_iff] at hv
    obtain ⟨x, hx, rfl⟩ := hv
    have hj : j < acc.length := by
      rcases Nat.lt_or_ge j acc.length with h' | h'
      · exact h'
      · rw [List.getElem?_eq_none h'] at hx; cases hx
    rw [Addr.add_mid]
    have := h (p + j) (by omega)
    rw [if_neg (by omega), show p + j - p = j from by omega, List.getD, hx] at this
    exact this
theorem len60 : Try.prog.arrayLen 74 = 78 := by kernel_rfl
theorem elem60 : Try.prog.elem 74 = 5 := by kernel_rfl
theorem sl60 (k p : Nat) (W : World) (h : p < 78) : (Instr.sliceAt 74 (.pointer (some ⟨k, 0, none⟩)) (some (.int .i64 (p : Int))) none none).run Try.prog W = .ok (.slice (some ⟨k, p, none⟩) (78 - p) (78 - p)) W := by
  have e := run_sliceAt_array_l (P := Try.prog) W 74 ⟨k, 0, none⟩ (by rw [len60, elem60]; exact Try.underlying74) .i64 (p : Int) (by omega) (by rw [len60]; omega)
  rw [e, len60, elem60, Try.sizeOf5]
  simp only [Result.andThen_ok, slicedAt, Int.toNat_natCast]
  rw [if_neg (by omega), Addr.add_mid, Nat.mul_one, Nat.zero_add]
theorem text_end {n : Int} {p : Nat} (h : n / 10 = 0) : decF (p + 1) n = [48 + n % 10] := by rw [decF, if_pos h]
theorem text_on {n : Int} {p : Nat} (h : n / 10 ≠ 0) : decF (p + 1) n = decF p (n / 10) ++ [48 + n % 10] := by rw [decF, if_neg h]

set_option maxHeartbeats 1000000 in
theorem text_n (n : Int) (w : World) (hn0 : 0 ≤ n) (hn : n < MM) :
    Calls Try.prog 24 #[nv n] w fun e w' =>
      e = .returned (.string (strOf (decF 78 n))) ∧ Mo w w' := by
  have hz := z60
  have q4 := eq4
  go_enter Try.func24, Try.ntmps24
  go_wp2
  refine wp_scope_jumps 0 (fun a' w' => ∃ (m : Int) (p : Nat) (acc : List Int) (u4 u6 u7 u8 u9 u10 u11 u12 u13 u14 u15 u16 u17 u18 u19 u20 u21 u22 u23 : Value), a' = { tmps := #[nv n, .pointer (some ⟨w.heap.size, 0, none⟩), .string ⟨#[]⟩, .pointer (some ⟨w.heap.size + 1, 0, none⟩), u4, .int .i64 ((p : Int) + 1), u6, u7, u8, u9, u10, u11, u12, u13, u14, u15, u16, u17, u18, u19, u20, u21, u22, u23], defers := [] } ∧ TW w w' m (p + 1) acc ∧ 0 < m ∧ m < 10 ^ (p + 1) ∧ m < MM ∧ p + 1 + acc.length = 78 ∧ decF 78 n = decF (p + 1) m ++ acc) (fun a' _ => (intOf (a'.tmps.getD 5 undef)).toNat) rfl ?_ ?_
  · go_wp2_with fail
    go_step3
    go_wp2_with fail
    refine (divLimb_any (l0 n) (l1 n) (l2 n) (l3 n) 10 _ (u4_lb n) (by decide) (by decide)).mono ?_
    rintro e w1 ⟨rfl, hm⟩
    rw [vl_lb n hn0 hn]
    have t1 := (TW.start w n).mo hm
    have t3 := TW.step (q := n / 10) (d := 48 + n % 10) t1 (by decide)
    have z4 := zero4 (q := n / 10) (by omega) (by unfold MM at *; omega)
    have t2 := t1
    obtain ⟨k0, k1, ⟨A0, A1, A2, A3⟩, F1, F2, D⟩ := t2
    have F1 := fun o => F1 o
    have F2 := fun o => F2 o
    have D0 := D 77 (by decide)
    simp at D0
    clear hm D
    by_cases hq : n / 10 = 0
    · have hb : (l0 (n / 10) == 0 && (l1 (n / 10) == 0 && (l2 (n / 10) == 0 && l3 (n / 10) == 0))) = true := by rw [z4]; exact decide_eq_true hq
      have cv := conv _ _ _ 1 1 _ t3.2.2.2.2.2 (by rfl) rfl
      have HE : Hid (decF 78 n = [48 + n % 10]) := text_end hq
      clear z4 hq
      go_wp2_with fail
      simp only [Exit.jump]
      go_ret
      exact ⟨by rw [HE.out]; rfl, t3.1⟩
    · have hb : (l0 (n / 10) == 0 && (l1 (n / 10) == 0 && (l2 (n / 10) == 0 && l3 (n / 10) == 0))) = false := by rw [z4]; exact decide_eq_false hq
      have HE : Hid (decF 78 n = decF 77 (n / 10) ++ [48 + n % 10]) := text_on hq
      have HQ : Hid (n / 10 ≠ 0) := hq
      clear z4 hq
      go_wp2_with fail
      go_step3
      refine ⟨rfl, n / 10, 76, [48 + n % 10], _, _, _, _, _, _, _, _, _, _, _, _, _, _, _, _, _, _, _, rfl, t3, ?_, ?_, ?_, rfl, HE.out⟩
      · have := HQ.out; omega
      · unfold MM at hn; omega
      · unfold MM at *; omega
  · rintro a' w' ⟨m, p, acc, u4, u6, u7, u8, u9, u10, u11, u12, u13, u14, u15, u16, u17, u18, u19, u20, u21, u22, u23, rfl, ht, hm0, hm10, hmM, hlen, hdec⟩
    have hp : p < 78 := by omega
    have HD : Hid (decF 78 n = decF (p + 1) m ++ acc) := hdec
    have HL : Hid (p + 1 + acc.length = 78) := hlen
    have HM : Hid (m < 10 ^ (p + 1)) := hm10
    clear hdec hlen hm10
    have ht0 := ht
    obtain ⟨k0, k1, ⟨A0, A1, A2, A3⟩, F1, F2, D⟩ := ht
    clear D F1 F2
    go_wp2_with fail
    refine (divLimb_any (l0 m) (l1 m) (l2 m) (l3 m) 10 _ (u4_lb m) (by decide) (by decide)).mono ?_
    rintro e w1 ⟨rfl, hm⟩
    rw [vl_lb m (by omega) hmM]
    have t1 := ht0.mo hm
    have t3 := TW.step (q := m / 10) (d := 48 + m % 10) t1 hp
    have z4 := zero4 (q := m / 10) (by omega) (by unfold MM at *; omega)
    have t2 := t1
    clear A0 A1 A2 A3 k0 k1
    obtain ⟨k0, k1, ⟨A0, A1, A2, A3⟩, F1, F2, D⟩ := t2
    have F1 := fun o => F1 o
    have F2 := fun o => F2 o
    have D0 := D p hp
    rw [if_pos (by omega)] at D0
    clear hm D
    by_cases hq : m / 10 = 0
    · have hb : (l0 (m / 10) == 0 && (l1 (m / 10) == 0 && (l2 (m / 10) == 0 && l3 (m / 10) == 0))) = true := by rw [z4]; exact decide_eq_true hq
      have cv := fun l c (hl : l = _) => conv _ _ _ l c _ t3.2.2.2.2.2 (by have := HL.out; simp; omega) hl
      have HE : Hid (decF (p + 1) m = [48 + m % 10]) := text_end hq
      clear z4 hq
      have sl := fun k W => sl60 k p W hp
      have cv2 := cv (78 - p) (78 - p) (by have := HL.out; simp; omega)
      clear cv
      go_wp2_with fail
      simp only [Exit.jump]
      go_ret
      exact ⟨by rw [HD.out, HE.out]; rfl, t3.1⟩
    · have hb : (l0 (m / 10) == 0 && (l1 (m / 10) == 0 && (l2 (m / 10) == 0 && l3 (m / 10) == 0))) = false := by rw [z4]; exact decide_eq_false hq
      have HE : Hid (decF (p + 1) m = decF p (m / 10) ++ [48 + m % 10]) := text_on hq
      have HQ : Hid (m / 10 ≠ 0) := hq
      clear z4 hq
      go_wp2_with fail
      go_step3
      have b1 := HQ.out
      have b2 := HM.out
      rw [Int.pow_succ] at b2
      have hp1 : 1 ≤ p := by
        rcases Nat.eq_zero_or_pos p with h | h
        · subst h; simp at b2; omega
        · exact h
      obtain ⟨r, rfl⟩ : ∃ r, p = r + 1 := ⟨p - 1, by omega⟩
      refine ⟨rfl, ⟨m / 10, r, (48 + m % 10) :: acc, _, _, _, _, _, _, _, _, _, _, _, _, _, _, _, _, _, _, _, rfl, t3, by omega, by omega, by unfold MM at *; omega, ?_, ?_⟩, ?_⟩
      · have := HL.out; simp; omega
      · rw [HD.out, HE.out]; simp
      · simp [intOf]; omega
end Go.Proofs.Ytoiiekmkcpcbgaa
/-
  The law's own numbers hold: live answers true.
-/
namespace Go.Proofs.Ytoiiekmkcpcbgaa
open Go.RowKit
theorem nv1000 : nv (10 ^ 3) = .agg #[.int .u64 1000, .int .u64 0, .int .u64 0, .int .u64 0] := by simp [nv, l0, l1, l2, l3]
theorem nv2 : nv 2 = .agg #[.int .u64 2, .int .u64 0, .int .u64 0, .int .u64 0] := by simp [nv, l0, l1, l2, l3]
theorem nvh : nv (vl 0 0 0 9223372036854775808 * vl 2 0 0 0 / MM) = .agg #[.int .u64 1, .int .u64 0, .int .u64 0, .int .u64 0] := by
  rw [show vl 0 0 0 9223372036854775808 * vl 2 0 0 0 / MM = 1 from by decide]; simp [nv, l0, l1, l2, l3]
theorem nvl : nv (vl 0 0 0 9223372036854775808 * vl 2 0 0 0) = .agg #[.int .u64 0, .int .u64 0, .int .u64 0, .int .u64 0] := by
  rw [show vl 0 0 0 9223372036854775808 * vl 2 0 0 0 = MM from by decide]; simp [nv, l0, l1, l2, l3, MM]
theorem txt1000 : strOf (decF 78 1000) = ⟨#[49, 48, 48, 48]⟩ := by decide
theorem cmp1000 : cm (vl 1000 0 0 0) (vl 0 0 0 0) = 1 := by decide
theorem text_1000 (w : World) : Calls Try.prog 24 #[.agg #[.int .u64 1000, .int .u64 0, .int .u64 0, .int .u64 0]] w fun e w' => e = .returned (.string ⟨#[49, 48, 48, 48]⟩) ∧ Mo w w' := by
  have h := text_n (10 ^ 3) w (by decide) (by decide)
  rw [nv1000, show ((10 : Int) ^ 3) = 1000 from by decide, txt1000] at h
  exact h
set_option maxHeartbeats 1000000 in
theorem live_any (w : World) : Calls Try.prog 17 #[] w fun e w' => e = .returned (.bool true) ∧ Mo w w' := by
  have q4 := eq4
  go_enter Try.func17, Try.ntmps17
  go_wp2_with fail
  refine (ten_yes 3 _ (by decide)).mono ?_
  rintro e w1 ⟨rfl, hm1⟩
  rw [nv1000]
  go_wp2_with fail
  refine (from20_any 2 _ ⟨by decide, by decide⟩).mono ?_
  rintro e w2 ⟨rfl, hm2⟩
  rw [nv2]
  have hc2 := hm2.cell
  have hz2 := hm2.size
  simp only [World.size_alloc] at hc2 hz2
  go_wp2_with fail
  refine (mul_any 0 0 0 9223372036854775808 2 0 0 0 _ ⟨⟨by decide, by decide⟩, ⟨by decide, by decide⟩, ⟨by decide, by decide⟩, ⟨by decide, by decide⟩⟩ ⟨⟨by decide, by decide⟩, ⟨by decide, by decide⟩, ⟨by decide, by decide⟩, ⟨by decide, by decide⟩⟩).mono ?_
  rintro e w3 ⟨rfl, hm3⟩
  rw [nvh, nvl]
  have hc3 := hm3.cell
  have hz3 := hm3.size
  have z1 : w1.heap.size < w2.heap.size := by omega
  have z2 : w1.heap.size < w3.heap.size := by omega
  have z3 : w1.heap.size < w3.heap.size + 1 := by omega
  go_wp2_with fail
  refine (text_1000 _).mono ?_
  rintro e w4 ⟨rfl, hm4⟩
  have hc4 := hm4.cell
  have hz4 := hm4.size
  simp only [World.size_alloc] at hc4 hz4
  have z4 : w1.heap.size < w3.heap.size + 1 + 1 := by omega
  go_wp2_with fail
  refine (cmp15_any 1000 0 0 0 0 0 0 0 _ ⟨⟨by decide, by decide⟩, ⟨by decide, by decide⟩, ⟨by decide, by decide⟩, ⟨by decide, by decide⟩⟩ ⟨⟨by decide, by decide⟩, ⟨by decide, by decide⟩, ⟨by decide, by decide⟩, ⟨by decide, by decide⟩⟩).mono ?_
  rintro e w5 ⟨rfl, hm5⟩
  rw [cmp1000]
  go_wp2_with fail
  go_ret
  exact ⟨rfl, ((((hm1.alloc _ _).trans hm2).trans hm3).alloc _ _ |>.alloc _ _).trans (hm4.trans hm5)⟩
end Go.Proofs.Ytoiiekmkcpcbgaa
/-
  The contracts of limb's functions and of the document's, in plain numbers.
-/
namespace Go.Proofs.Ytoiiekmkcpcbgaa
open Go.RowKit
theorem mul_n (A B : Int) (w : World) (hA0 : 0 ≤ A) (hAM : A < MM) (hB0 : 0 ≤ B) (hBM : B < MM) :
    Calls Try.prog 15 #[nv A, nv B] w fun e w' => e = .returned (.tuple #[nv (A * B / MM), nv (A * B)]) ∧ Mo w w' := by
  have h := mul_any (l0 A) (l1 A) (l2 A) (l3 A) (l0 B) (l1 B) (l2 B) (l3 B) w (u4_lb A) (u4_lb B)
  rw [vl_lb A hA0 hAM, vl_lb B hB0 hBM] at h
  exact h
theorem add_n (A B : Int) (w : World) (hA0 : 0 ≤ A) (hAM : A < MM) (hB0 : 0 ≤ B) (hBM : B < MM) :
    Calls Try.prog 60 #[nv A, nv B] w fun e w' => e = .returned (.tuple #[nv (A + B), .bool (ov (A + B))]) ∧ Mo w w' := by
  have h := add_any (l0 A) (l1 A) (l2 A) (l3 A) (l0 B) (l1 B) (l2 B) (l3 B) w (u4_lb A) (u4_lb B)
  rw [vl_lb A hA0 hAM, vl_lb B hB0 hBM] at h
  exact h
theorem radd_n (A B : Int) (w : World) (hA0 : 0 ≤ A) (hAM : A < MM) (hB0 : 0 ≤ B) (hBM : B < MM) :
    Calls Try.prog 64 #[nv A, nv B] w fun e w' => e = .returned (.tuple #[nv (A + B), .bool (ov (A + B))]) ∧ Mo w w' := by
  have h := radd_any (l0 A) (l1 A) (l2 A) (l3 A) (l0 B) (l1 B) (l2 B) (l3 B) w (u4_lb A) (u4_lb B)
  rw [vl_lb A hA0 hAM, vl_lb B hB0 hBM] at h
  exact h
theorem sub_n (A B : Int) (w : World) (hA0 : 0 ≤ A) (hAM : A < MM) (hB0 : 0 ≤ B) (hBM : B < MM) :
    Calls Try.prog 100 #[nv A, nv B] w fun e w' => e = .returned (.tuple #[nv (A - B), .bool (un (A - B))]) ∧ Mo w w' := by
  have h := sub_any (l0 A) (l1 A) (l2 A) (l3 A) (l0 B) (l1 B) (l2 B) (l3 B) w (u4_lb A) (u4_lb B)
  rw [vl_lb A hA0 hAM, vl_lb B hB0 hBM, nv_mod] at h
  exact h
theorem cmp_n (A B : Int) (w : World) (hA0 : 0 ≤ A) (hAM : A < MM) (hB0 : 0 ≤ B) (hBM : B < MM) :
    Calls Try.prog 57 #[nv A, nv B] w fun e w' => e = .returned (.int .i64 (cm A B)) ∧ Mo w w' := by
  have h := cmp15_any (l0 A) (l1 A) (l2 A) (l3 A) (l0 B) (l1 B) (l2 B) (l3 B) w (u4_lb A) (u4_lb B)
  rw [vl_lb A hA0 hAM, vl_lb B hB0 hBM] at h
  exact h
theorem rcmp_n (A B : Int) (w : World) (hA0 : 0 ≤ A) (hAM : A < MM) (hB0 : 0 ≤ B) (hBM : B < MM) :
    Calls Try.prog 63 #[nv A, nv B] w fun e w' => e = .returned (.int .i64 (cm A B)) ∧ Mo w w' := by
  have h := cmp16_any (l0 A) (l1 A) (l2 A) (l3 A) (l0 B) (l1 B) (l2 B) (l3 B) w (u4_lb A) (u4_lb B)
  rw [vl_lb A hA0 hAM, vl_lb B hB0 hBM] at h
  exact h
theorem div_n (H L D : Int) (w : World) (hH0 : 0 ≤ H) (hHM : H < MM) (hL0 : 0 ≤ L) (hLM : L < MM) (hD0 : 0 ≤ D) (hDM : D < MM) :
    Calls Try.prog 18 #[nv H, nv L, nv D] w fun e w' => e = .returned (.tuple #[nv (dq H L D), nv (dr H L D), .bool (dok H D)]) ∧ Mo w w' := by
  have h := div_any (l0 H) (l1 H) (l2 H) (l3 H) (l0 L) (l1 L) (l2 L) (l3 L) (l0 D) (l1 D) (l2 D) (l3 D) w (u4_lb H) (u4_lb L) (u4_lb D)
  rw [vl_lb H hH0 hHM, vl_lb L hL0 hLM, vl_lb D hD0 hDM] at h
  exact h
/-- == of two numbers. -/
theorem eqn (a b : Int) (w : World) : (Op.equalIn 10000 24 (nv a) (nv b)).run Try.prog w = .ok (decide (a % MM = b % MM)) w := by
  rw [eq4]
  congr 1
  rw [Bool.eq_iff_iff]
  simp
  constructor
  · rintro ⟨e0, e1, e2, e3⟩
    rw [← vl_nv a, ← vl_nv b, e0, e1, e2, e3]
  · intro h
    have h1 : nv a = nv b := by rw [← nv_mod a, ← nv_mod b, h]
    simp [nv] at h1
    exact h1
end Go.Proofs.Ytoiiekmkcpcbgaa
/-
  Division bit by bit: plain arithmetic, no program in sight.
-/
namespace Go.Proofs.Ytoiiekmkcpcbgaa
open Go.RowKit
theorem low_limb (q : Int) (m r : Nat) (hr : r < 64) (_hq : 0 ≤ q) :
    ∃ c : Int, 0 ≤ c ∧ q * 2 ^ (m + r + 1) / 2 ^ m % 18446744073709551616 = c * 2 ^ (r + 1) ∧ c * 2 ^ (r + 1) + 2 ^ r < 18446744073709551616 := by
  have hm : (0 : Int) < 2 ^ m := Int.pow_pos (by decide)
  have hp : (0 : Int) < 2 ^ (r + 1) := Int.pow_pos (by decide)
  have hp0 : (0 : Int) < 2 ^ r := Int.pow_pos (by decide)
  have hp2 : (0 : Int) < 2 ^ (63 - r) := Int.pow_pos (by decide)
  have e1 : q * 2 ^ (m + r + 1) / 2 ^ m = 2 ^ (r + 1) * q := by
    rw [Nat.add_assoc, Int.pow_add, Int.mul_left_comm, Int.mul_ediv_cancel_left _ (by omega), Int.mul_comm]
  have e2 : (18446744073709551616 : Int) = 2 ^ (r + 1) * 2 ^ (63 - r) := by
    rw [← Int.pow_add, show r + 1 + (63 - r) = 64 from by omega]; decide
  have a := Int.emod_nonneg q (show (2 : Int) ^ (63 - r) ≠ 0 by omega)
  have b := Int.emod_lt_of_pos q hp2
  refine ⟨q % 2 ^ (63 - r), a, ?_, ?_⟩
  · rw [e1, e2, Int.mul_emod_mul_of_pos _ _ hp, Int.mul_comm]
  · have e3 : q % 2 ^ (63 - r) * 2 ^ (r + 1) ≤ (2 ^ (63 - r) - 1) * 2 ^ (r + 1) := Int.mul_le_mul_of_nonneg_right (by omega) (by omega)
    rw [Int.sub_mul, Int.one_mul, Int.mul_comm (2 ^ (63 - r)), ← e2] at e3
    have e4 : (2 : Int) ^ (r + 1) = 2 ^ r * 2 := Int.pow_succ 2 r
    omega
theorem or_bit {x : Int} {r : Nat} (c : Int) (hc : 0 ≤ c) (h : x = c * 2 ^ (r + 1)) (h2 : c * 2 ^ (r + 1) + 2 ^ r < 18446744073709551616) : bits .or .u64 x (2 ^ r) = x + 2 ^ r := by
  have hp0 : (0 : Int) < 2 ^ r := Int.pow_pos (by decide)
  have e4 : (2 : Int) ^ (r + 1) = 2 ^ r * 2 := Int.pow_succ 2 r
  rw [h]
  exact or_join c (2 ^ r) (r + 1) hc (by omega) (by omega) h2
theorem Qlt {q : Int} {i : Nat} (hi : i < 256) (hq : q < 2 ^ (255 - i)) : q * 2 ^ (i + 1) < MM ∧ q * 2 ^ (i + 1) + 2 ^ i < MM := by
  have hp0 : (0 : Int) < 2 ^ i := Int.pow_pos (by decide)
  have e4 : (2 : Int) ^ (i + 1) = 2 ^ i * 2 := Int.pow_succ 2 i
  have e1 : q * 2 ^ (i + 1) ≤ (2 ^ (255 - i) - 1) * 2 ^ (i + 1) := Int.mul_le_mul_of_nonneg_right (by omega) (by omega)
  rw [Int.sub_mul, Int.one_mul, ← Int.pow_add, show 255 - i + (i + 1) = 256 from by omega, show (2 : Int) ^ 256 = MM from by decide] at e1
  omega
theorem bit_set {q : Int} {i : Nat} (hi : i < 256) (hq0 : 0 ≤ q) (hq : q < 2 ^ (255 - i)) (r : Nat) (hr : r = i % 64) :
    (i / 64 = 0 ∧ bits .or .u64 (l0 (q * 2 ^ (i + 1))) (2 ^ r) = l0 (q * 2 ^ (i + 1) + 2 ^ i) ∧ l1 (q * 2 ^ (i + 1) + 2 ^ i) = l1 (q * 2 ^ (i + 1)) ∧ l2 (q * 2 ^ (i + 1) + 2 ^ i) = l2 (q * 2 ^ (i + 1)) ∧ l3 (q * 2 ^ (i + 1) + 2 ^ i) = l3 (q * 2 ^ (i + 1))) ∨
    (i / 64 = 1 ∧ bits .or .u64 (l1 (q * 2 ^ (i + 1))) (2 ^ r) = l1 (q * 2 ^ (i + 1) + 2 ^ i) ∧ l0 (q * 2 ^ (i + 1) + 2 ^ i) = l0 (q * 2 ^ (i + 1)) ∧ l2 (q * 2 ^ (i + 1) + 2 ^ i) = l2 (q * 2 ^ (i + 1)) ∧ l3 (q * 2 ^ (i + 1) + 2 ^ i) = l3 (q * 2 ^ (i + 1))) ∨
    (i / 64 = 2 ∧ bits .or .u64 (l2 (q * 2 ^ (i + 1))) (2 ^ r) = l2 (q * 2 ^ (i + 1) + 2 ^ i) ∧ l0 (q * 2 ^ (i + 1) + 2 ^ i) = l0 (q * 2 ^ (i + 1)) ∧ l1 (q * 2 ^ (i + 1) + 2 ^ i) = l1 (q * 2 ^ (i + 1)) ∧ l3 (q * 2 ^ (i + 1) + 2 ^ i) = l3 (q * 2 ^ (i + 1))) ∨
    (i / 64 = 3 ∧ bits .or .u64 (l3 (q * 2 ^ (i + 1))) (2 ^ r) = l3 (q * 2 ^ (i + 1) + 2 ^ i) ∧ l0 (q * 2 ^ (i + 1) + 2 ^ i) = l0 (q * 2 ^ (i + 1)) ∧ l1 (q * 2 ^ (i + 1) + 2 ^ i) = l1 (q * 2 ^ (i + 1)) ∧ l2 (q * 2 ^ (i + 1) + 2 ^ i) = l2 (q * 2 ^ (i + 1))) := by
  have hQ := (Qlt hi hq).1
  have hp : (0 : Int) < 2 ^ (i + 1) := Int.pow_pos (by decide)
  have hQ0 : 0 ≤ q * 2 ^ (i + 1) := Int.mul_nonneg hq0 (by omega)
  have hV := vl_lb _ hQ0 hQ
  obtain ⟨u0, u1, u2, u3⟩ := u4_lb (q * 2 ^ (i + 1))
  have hr64 : r < 64 := by omega
  have hp0 : (0 : Int) < 2 ^ r := Int.pow_pos (by decide)
  have hm : i / 64 = 0 ∨ i / 64 = 1 ∨ i / 64 = 2 ∨ i / 64 = 3 := by omega
  rcases hm with hm | hm | hm | hm
  · refine Or.inl ⟨hm, ?_⟩
    obtain ⟨c, c0, c1, c2⟩ := low_limb q 0 r hr64 hq0
    have e : i = 0 + r := by omega
    have el : l0 (q * 2 ^ (i + 1)) = c * 2 ^ (r + 1) := by rw [← c1, e]; unfold l0; simp
    have ep : (2 : Int) ^ i = 2 ^ r := by rw [e]; simp
    rw [or_bit c c0 el c2]
    have hu : U4 (l0 (q * 2 ^ (i + 1)) + 2 ^ r) (l1 (q * 2 ^ (i + 1))) (l2 (q * 2 ^ (i + 1))) (l3 (q * 2 ^ (i + 1))) := ⟨⟨by have := u0.1; omega, by omega⟩, u1, u2, u3⟩
    have ev : q * 2 ^ (i + 1) + 2 ^ i = vl (l0 (q * 2 ^ (i + 1)) + 2 ^ r) (l1 (q * 2 ^ (i + 1))) (l2 (q * 2 ^ (i + 1))) (l3 (q * 2 ^ (i + 1))) := by
      rw [ep]; unfold vl at *; omega
    rw [ev, l0_vl hu, l1_vl hu, l2_vl hu, l3_vl hu]
    exact ⟨rfl, rfl, rfl, rfl⟩
  · refine Or.inr (Or.inl ⟨hm, ?_⟩)
    obtain ⟨c, c0, c1, c2⟩ := low_limb q 64 r hr64 hq0
    have e : i = 64 + r := by omega
    have el : l1 (q * 2 ^ (i + 1)) = c * 2 ^ (r + 1) := by rw [← c1, e]; unfold l1; rfl
    have ep : (2 : Int) ^ i = 18446744073709551616 * 2 ^ r := by rw [e, Int.pow_add]; rfl
    rw [or_bit c c0 el c2]
    have hu : U4 (l0 (q * 2 ^ (i + 1))) (l1 (q * 2 ^ (i + 1)) + 2 ^ r) (l2 (q * 2 ^ (i + 1))) (l3 (q * 2 ^ (i + 1))) := ⟨u0, ⟨by have := u1.1; omega, by omega⟩, u2, u3⟩
    have ev : q * 2 ^ (i + 1) + 2 ^ i = vl (l0 (q * 2 ^ (i + 1))) (l1 (q * 2 ^ (i + 1)) + 2 ^ r) (l2 (q * 2 ^ (i + 1))) (l3 (q * 2 ^ (i + 1))) := by
      rw [ep]; unfold vl at *; omega
    rw [ev, l0_vl hu, l1_vl hu, l2_vl hu, l3_vl hu]
    exact ⟨rfl, rfl, rfl, rfl⟩
  · refine Or.inr (Or.inr (Or.inl ⟨hm, ?_⟩))
    obtain ⟨c, c0, c1, c2⟩ := low_limb q 128 r hr64 hq0
    have e : i = 128 + r := by omega
    have el : l2 (q * 2 ^ (i + 1)) = c * 2 ^ (r + 1) := by rw [← c1, e]; unfold l2; rfl
    have ep : (2 : Int) ^ i = 340282366920938463463374607431768211456 * 2 ^ r := by rw [e, Int.pow_add]; rfl
    rw [or_bit c c0 el c2]
    have hu : U4 (l0 (q * 2 ^ (i + 1))) (l1 (q * 2 ^ (i + 1))) (l2 (q * 2 ^ (i + 1)) + 2 ^ r) (l3 (q * 2 ^ (i + 1))) := ⟨u0, u1, ⟨by have := u2.1; omega, by omega⟩, u3⟩
    have ev : q * 2 ^ (i + 1) + 2 ^ i = vl (l0 (q * 2 ^ (i + 1))) (l1 (q * 2 ^ (i + 1))) (l2 (q * 2 ^ (i + 1)) + 2 ^ r) (l3 (q * 2 ^ (i + 1))) := by
      rw [ep]; unfold vl at *; omega
    rw [ev, l0_vl hu, l1_vl hu, l2_vl hu, l3_vl hu]
    exact ⟨rfl, rfl, rfl, rfl⟩
  · refine Or.inr (Or.inr (Or.inr ⟨hm, ?_⟩))
    obtain ⟨c, c0, c1, c2⟩ := low_limb q 192 r hr64 hq0
    have e : i = 192 + r := by omega
    have el : l3 (q * 2 ^ (i + 1)) = c * 2 ^ (r + 1) := by rw [← c1, e]; unfold l3; rfl
    have ep : (2 : Int) ^ i = 6277101735386680763835789423207666416102355444464034512896 * 2 ^ r := by rw [e, Int.pow_add]; rfl
    rw [or_bit c c0 el c2]
    have hu : U4 (l0 (q * 2 ^ (i + 1))) (l1 (q * 2 ^ (i + 1))) (l2 (q * 2 ^ (i + 1))) (l3 (q * 2 ^ (i + 1)) + 2 ^ r) := ⟨u0, u1, u2, ⟨by have := u3.1; omega, by omega⟩⟩
    have ev : q * 2 ^ (i + 1) + 2 ^ i = vl (l0 (q * 2 ^ (i + 1))) (l1 (q * 2 ^ (i + 1))) (l2 (q * 2 ^ (i + 1))) (l3 (q * 2 ^ (i + 1)) + 2 ^ r) := by
      rw [ep]; unfold vl at *; omega
    rw [ev, l0_vl hu, l1_vl hu, l2_vl hu, l3_vl hu]
    exact ⟨rfl, rfl, rfl, rfl⟩
/-- What is divided, down to the bit j. -/
def nj (H L : Int) (j : Nat) : Int := H * 2 ^ (256 - j) + L / 2 ^ j
theorem nj_top (H : Int) {L : Int} (h0 : 0 ≤ L) (h : L < MM) : nj H L 256 = H := by
  unfold nj
  rw [show (2 : Int) ^ 256 = MM from by decide, Int.ediv_eq_zero_of_lt h0 h]
  simp
theorem nj_low (H L : Int) : nj H L 0 = H * MM + L := by
  unfold nj
  rw [show (256 - 0 : Nat) = 256 from rfl, show (2 : Int) ^ 256 = MM from by decide]
  simp
theorem nj_step (H L : Int) {i : Nat} (hi : i < 256) : nj H L i = 2 * nj H L (i + 1) + L / 2 ^ i % 2 := by
  unfold nj
  have e1 : (2 : Int) ^ (256 - i) = 2 ^ (256 - (i + 1)) * 2 := by rw [← Int.pow_succ]; congr 1; omega
  have e2 : L / 2 ^ (i + 1) = L / 2 ^ i / 2 := by
    rw [Int.pow_succ, Int.ediv_ediv_of_nonneg (Int.le_of_lt (Int.pow_pos (by decide)))]
  rw [e1, e2, ← Int.mul_assoc]
  omega
theorem div_no_step {q R D H L : Int} {i : Nat} (hi : i < 256) (h : q * D + R = nj H L (i + 1)) : 2 * q * D + (2 * R + L / 2 ^ i % 2) = nj H L i := by
  rw [nj_step H L hi, ← h, Int.mul_assoc]; omega
theorem div_yes_step {q R D H L : Int} {i : Nat} (hi : i < 256) (h : q * D + R = nj H L (i + 1)) : (2 * q + 1) * D + (2 * R + L / 2 ^ i % 2 - D) = nj H L i := by
  rw [nj_step H L hi, ← h, Int.add_mul, Int.mul_assoc]; omega
theorem q_no {q : Int} {i : Nat} (hi : i < 256) (hq : q < 2 ^ (255 - i)) : 2 * q < 2 ^ (256 - i) ∧ 2 * q + 1 < 2 ^ (256 - i) := by
  have e1 : (2 : Int) ^ (256 - i) = 2 ^ (255 - i) * 2 := by rw [← Int.pow_succ]; congr 1; omega
  omega
theorem div_end {q R D H L : Int} (hR0 : 0 ≤ R) (hR : R < D) (h : q * D + R = H * MM + L) : (H * MM + L) / D = q ∧ (H * MM + L) % D = R := by
  rw [← h]
  constructor
  · rw [Int.add_comm, Int.add_mul_ediv_right _ _ (by omega), Int.ediv_eq_zero_of_lt hR0 hR, Int.zero_add]
  · rw [Int.add_comm, Int.add_mul_emod_self_right, Int.emod_eq_of_lt hR0 hR]
theorem q_pow (q : Int) (i : Nat) : 2 * q * 2 ^ i = q * 2 ^ (i + 1) := by rw [Int.pow_succ]; grind
theorem q_pow1 (q : Int) (i : Nat) : (2 * q + 1) * 2 ^ i = q * 2 ^ (i + 1) + 2 ^ i := by rw [Int.pow_succ]; grind
end Go.Proofs.Ytoiiekmkcpcbgaa
/-
  The document's Bit, whatever the number: the walks.
-/
namespace Go.Proofs.Ytoiiekmkcpcbgaa
open Go.RowKit
theorem and_one (a : Int) (h0 : 0 ≤ a) (h1 : a < 18446744073709551616) : bits .and .u64 a 1 = a % 2 := by
  obtain ⟨x, rfl⟩ := Int.eq_ofNat_of_zero_le h0
  have e := bits_and_u64_nat x 1 (by omega) (by decide)
  rw [Nat.and_one_is_mod] at e
  rw [show ((1 : Nat) : Int) = 1 from rfl] at e
  rw [e]; omega
theorem sh_bd {a : Int} (h : U1 a) (r : Nat) : 0 ≤ a / 2 ^ r ∧ a / 2 ^ r < 18446744073709551616 := by
  obtain ⟨p, q⟩ := h
  have hp : (0 : Int) < 2 ^ r := Int.pow_pos (by decide)
  refine ⟨Int.ediv_nonneg p (by omega), ?_⟩
  have := Int.ediv_le_self (2 ^ r) p
  omega
set_option maxHeartbeats 1000000 in
theorem bit_any (n : Int) (i : Nat) (w : World) (_hn0 : 0 ≤ n) (_hn : n < MM) (hi : i < 256) :
    Calls Try.prog 65 #[nv n, .int .i64 (i : Int)] w fun e w' => e = .returned (.int .u64 (n / 2 ^ i % 2)) ∧ Mo w w' := by
  have fin : ∀ (r : Int) (w' : World), r = n / 2 ^ i % 2 → Mo w w' → (Ending.returned (.int .u64 r) = .returned (.int .u64 (n / 2 ^ i % 2)) ∧ Mo w w') := fun r w' h m => ⟨by rw [h], m⟩
  obtain ⟨r, hr, er⟩ : ∃ r : Nat, r < 64 ∧ (i : Int) % 64 = (r : Int) := ⟨i % 64, by omega, by omega⟩
  have u := u4_lb n
  obtain ⟨u0, u1, u2, u3⟩ := u
  have s0 := sh_bd u0 r
  have s1 := sh_bd u1 r
  have s2 := sh_bd u2 r
  have s3 := sh_bd u3 r
  have t0 := and_one _ s0.1 s0.2
  have t1 := and_one _ s1.1 s1.2
  have t2 := and_one _ s2.1 s2.2
  have t3 := and_one _ s3.1 s3.2
  clear s0 s1 s2 s3
  obtain ⟨p0, q0⟩ := u0
  obtain ⟨p1, q1⟩ := u1
  obtain ⟨p2, q2⟩ := u2
  obtain ⟨p3, q3⟩ := u3
  have hq : (i : Int) / 64 = 0 ∨ (i : Int) / 64 = 1 ∨ (i : Int) / 64 = 2 ∨ (i : Int) / 64 = 3 := by omega
  rcases hq with hq | hq | hq | hq
  · go_enter Try.func65, Try.ntmps65
    go_wp2
    go_ret
    refine fin _ _ ?_ ((Mo.refl _).alloc _ _)
    rw [show i = r from by omega, ← bit_low (l0 n) (n / 18446744073709551616) r hr, show l0 n + 18446744073709551616 * (n / 18446744073709551616) = n from by unfold l0; omega]
  · go_enter Try.func65, Try.ntmps65
    go_wp2
    go_ret
    refine fin _ _ ?_ ((Mo.refl _).alloc _ _)
    rw [show i = 64 + r from by omega, div_pow_split, ← bit_low (l1 n) (n / 340282366920938463463374607431768211456) r hr, show l1 n + 18446744073709551616 * (n / 340282366920938463463374607431768211456) = n / 2 ^ 64 from by unfold l1; omega]
  · go_enter Try.func65, Try.ntmps65
    go_wp2
    go_ret
    refine fin _ _ ?_ ((Mo.refl _).alloc _ _)
    rw [show i = 128 + r from by omega, div_pow_split, ← bit_low (l2 n) (n / 6277101735386680763835789423207666416102355444464034512896) r hr, show l2 n + 18446744073709551616 * (n / 6277101735386680763835789423207666416102355444464034512896) = n / 2 ^ 128 from by unfold l2; omega]
  · go_enter Try.func65, Try.ntmps65
    go_wp2
    go_ret
    refine fin _ _ ?_ ((Mo.refl _).alloc _ _)
    rw [show i = 192 + r from by omega, div_pow_split, ← bit_low (l3 n) (n / MM) r hr, show l3 n + 18446744073709551616 * (n / MM) = n / 2 ^ 192 from by unfold l3 MM; omega]
end Go.Proofs.Ytoiiekmkcpcbgaa
/-
  The document's Div, whatever the numbers: the walk.
-/
namespace Go.Proofs.Ytoiiekmkcpcbgaa
open Go.RowKit
/-- The blocks of the call: what is divided, the divisor, the results; the rest and the quotient so far. -/
def QW (w wx : World) (k : Nat) (H L D R Q : Int) : Prop := Mo w wx ∧ AtN wx w.heap.size H ∧ AtN wx (w.heap.size + 1) L ∧ AtN wx (w.heap.size + 1 + 1) D ∧ AtN wx (w.heap.size + 1 + 1 + 1) 0 ∧ AtN wx (w.heap.size + 1 + 1 + 1 + 1) 0 ∧ AtN wx k R ∧ AtN wx (k + 1) Q ∧ w.heap.size + 1 + 1 + 1 + 1 < k
theorem QW.mo {w wx w1 : World} {k : Nat} {H L D R Q : Int} (v : QW w wx k H L D R Q) (m : Mo wx w1) : QW w w1 k H L D R Q := by
  obtain ⟨h1, h2, h3, h4, h5, h6, h7, h8, h9⟩ := v
  exact ⟨h1.trans m, h2.mo m, h3.mo m, h4.mo m, h5.mo m, h6.mo m, h7.mo m, h8.mo m, h9⟩
theorem QW.other {w wx : World} {k : Nat} {H L D R Q : Int} (v : QW w wx k H L D R Q) {j : Nat} (hj : k + 1 < j) (o : Nat) (x : Value) : QW w (wx.setCell ⟨j, o, none⟩ x) k H L D R Q := by
  obtain ⟨h1, h2, h3, h4, h5, h6, h7, h8, h9⟩ := v
  exact ⟨h1.setCell (by show w.heap.size ≤ j; omega) _, h2.set1 (by omega) _ _, h3.set1 (by omega) _ _, h4.set1 (by omega) _ _, h5.set1 (by omega) _ _, h6.set1 (by omega) _ _, h7.set1 (by omega) _ _, h8.set1 (by omega) _ _, h9⟩
theorem QW.rest {w wx : World} {k : Nat} {H L D R Q : Int} (v : QW w wx k H L D R Q) (z : Int) : QW w (st4 wx k z) k H L D z Q := by
  obtain ⟨h1, h2, h3, h4, h5, h6, h7, h8, h9⟩ := v
  exact ⟨h1.st4 (by omega) _, h2.other (by omega) _, h3.other (by omega) _, h4.other (by omega) _, h5.other (by omega) _, h6.other (by omega) _, h7.same _, h8.other (by omega) _, h9⟩
theorem QW.quo {w wx : World} {k : Nat} {H L D R Q : Int} (v : QW w wx k H L D R Q) {o : Nat} {x : Value} {Z : Int} (h : At4 (wx.setCell ⟨k + 1, o, none⟩ x) (k + 1) (l0 Z) (l1 Z) (l2 Z) (l3 Z)) : QW w (wx.setCell ⟨k + 1, o, none⟩ x) k H L D R Z := by
  obtain ⟨h1, h2, h3, h4, h5, h6, h7, ⟨_, f, s⟩, h9⟩ := v
  exact ⟨h1.setCell (by show w.heap.size ≤ k + 1; omega) _, h2.set1 (by omega) _ _, h3.set1 (by omega) _ _, h4.set1 (by omega) _ _, h5.set1 (by omega) _ _, h6.set1 (by omega) _ _, h7.set1 (by omega) _ _, ⟨h, fun o => by simp [World.frozen?_setCell, f o], by simpa [World.setCell] using s⟩, h9⟩
theorem even_or {x b : Int} (hx : 0 ≤ x) (hx2 : x < 18446744073709551616) (he : x % 2 = 0) (hb : b = 0 ∨ b = 1) : bits .or .u64 x b = x + b := by
  have := or_join (x / 2) b 1 (by omega) (by omega) (by simp; omega) (by simp; omega)
  simp at this
  rw [show x / 2 * 2 = x from by omega] at this
  exact this

set_option maxHeartbeats 4000000 in
theorem rdiv_no (H L D : Int) (w : World) (hH0 : 0 ≤ H) (hHM : H < MM) (hD0 : 0 ≤ D) (hDM : D < MM) (h : D ≤ H) :
    Calls Try.prog 19 #[nv H, nv L, nv D] w fun e w' => e = .returned (.tuple #[nv 0, nv 0, .bool false]) ∧ Mo w w' := by
  have z0 : nv 0 = .agg #[.int .u64 0, .int .u64 0, .int .u64 0, .int .u64 0] := by simp [nv, l0, l1, l2, l3]
  have hc : decide (cm H D ≥ 0) = true := decide_eq_true (by unfold cm; rw [if_neg (by omega)]; split <;> decide)
  rw [z0]
  go_enter Try.func19, Try.ntmps19
  go_wp2_with fail
  refine (rcmp_n H D _ hH0 hHM hD0 hDM).mono ?_
  rintro e w1 ⟨rfl, hm1⟩
  have M1 : Mo w w1 := Mo.trans (by repeat (first | with_reducible exact Mo.refl _ | with_reducible apply Mo.alloc)) hm1
  have Q1 : At0 w1 (w.heap.size + 1 + 1 + 1) := At0.mo ⟨by simp [At4, go_sem], fun o => by simp [go_sem], by simp <;> omega⟩ hm1
  have Q2 : At0 w1 (w.heap.size + 1 + 1 + 1 + 1) := At0.mo ⟨by simp [At4, go_sem], fun o => by simp [go_sem], by simp <;> omega⟩ hm1
  obtain ⟨⟨a0, a1, a2, a3⟩, fa, sa⟩ := Q1
  obtain ⟨⟨b0, b1, b2, b3⟩, fb, sb⟩ := Q2
  have fa := fun o => fa o
  have fb := fun o => fb o
  go_wp2
  refine bodyPost_ret (v := .tuple #[.agg #[.int .u64 0, .int .u64 0, .int .u64 0, .int .u64 0], .agg #[.int .u64 0, .int .u64 0, .int .u64 0, .int .u64 0], .bool false]) (by simp [results, Try.results19, go_sem, *]) rfl ?_
  refine ⟨rfl, ?_⟩
  repeat (first | with_reducible exact M1 | with_reducible apply Mo.drew | with_reducible apply Mo.drewN | with_reducible refine Mo.setCell ?_ (by simp <;> omega) _)

set_option maxRecDepth 100000 in
set_option maxHeartbeats 4000000 in
theorem rdiv_yes (H L D : Int) (w : World) (hH0 : 0 ≤ H) (hL0 : 0 ≤ L) (hLM : L < MM) (hDM : D < MM) (h : H < D) :
    Calls Try.prog 19 #[nv H, nv L, nv D] w fun e w' => e = .returned (.tuple #[nv ((H * MM + L) / D), nv ((H * MM + L) % D), .bool true]) ∧ Mo w w' := by
  have hc : decide (cm H D ≥ 0) = false := decide_eq_false (by unfold cm; rw [if_pos h]; decide)
  go_enter Try.func19, Try.ntmps19
  go_wp2_with fail
  refine (rcmp_n H D _ hH0 (by omega) (by omega) hDM).mono ?_
  rintro e w1 ⟨rfl, hm1⟩
  have M1 : Mo w w1 := Mo.trans (by repeat (first | with_reducible exact Mo.refl _ | with_reducible apply Mo.alloc)) hm1
  have Q0 : AtN w1 w.heap.size H := AtN.mo ⟨by simp [At4, go_sem], fun o => by simp [go_sem], by simp <;> omega⟩ hm1
  have Q1 : AtN w1 (w.heap.size + 1) L := AtN.mo ⟨by simp [At4, go_sem], fun o => by simp [go_sem], by simp <;> omega⟩ hm1
  have Q2 : AtN w1 (w.heap.size + 1 + 1) D := AtN.mo ⟨by simp [At4, go_sem], fun o => by simp [go_sem], by simp <;> omega⟩ hm1
  have Q3 : At0 w1 (w.heap.size + 1 + 1 + 1) := At0.mo ⟨by simp [At4, go_sem], fun o => by simp [go_sem], by simp <;> omega⟩ hm1
  have Q4 : At0 w1 (w.heap.size + 1 + 1 + 1 + 1) := At0.mo ⟨by simp [At4, go_sem], fun o => by simp [go_sem], by simp <;> omega⟩ hm1
  have hS : QW w ((w1.alloc (.cells #[.int .u64 (l0 H), .int .u64 (l1 H), .int .u64 (l2 H), .int .u64 (l3 H)] 24)).alloc (.cells #[.int .u64 0, .int .u64 0, .int .u64 0, .int .u64 0] 24)) w1.heap.size H L D H 0 := by
    have a : Mo w1 ((w1.alloc (.cells #[.int .u64 (l0 H), .int .u64 (l1 H), .int .u64 (l2 H), .int .u64 (l3 H)] 24)).alloc (.cells #[.int .u64 0, .int .u64 0, .int .u64 0, .int .u64 0] 24)) := ((Mo.refl _).alloc _ _).alloc _ _
    exact ⟨M1.trans a, Q0.mo a, Q1.mo a, Q2.mo a, Q3.mo a, Q4.mo a, (AtN.new _ _).al, AtN.at _ 0 (by simp), Q4.2.2⟩
  have HS : Hid _ := hS
  have k0 := Q4.2.2
  obtain ⟨⟨a0, a1, a2, a3⟩, _, sa⟩ := Q0
  clear hm1 M1 Q1 Q2 Q3 Q4 hS
  go_wp2_with fail
  generalize w1.heap.size = kr at *
  go_loopw [11] (fun s wx => ∃ (j : Nat) (q R : Int), j ≤ 256 ∧ s = .int .i64 ((j : Int) - 1) ∧ 0 ≤ q ∧ q < 2 ^ (256 - j) ∧ 0 ≤ R ∧ R < D ∧ q * D + R = nj H L j ∧ QW w wx kr H L D R (q * 2 ^ j)) (fun s _ => (intOf s + 1).toNat)
  case atStart => exact ⟨256, 0, H, by decide, rfl, by decide, by decide, hH0, h, by rw [nj_top H hL0 hLM]; omega, by rw [Int.zero_mul]; exact HS.out⟩
  case round =>
    obtain ⟨j, q, R, hj, rfl, q0, q1, R0, R1, hI, hv⟩ := hrel
    clear HS
    have HI : Hid _ := hI
    have HQ : Hid _ := q1
    clear hI q1
    rcases Nat.eq_zero_or_pos j with hj0 | hj0
    · subst hj0
      rw [Int.pow_zero, Int.mul_one] at hv
      have hI := HI.out
      rw [nj_low] at hI
      obtain ⟨x1, x2⟩ := div_end R0 R1 hI
      have X1 : Hid _ := x1
      have X2 : Hid _ := x2
      clear hI x1 x2
      obtain ⟨m, _, _, _, ⟨⟨a0, a1, a2, a3⟩, fa, za⟩, ⟨⟨b0, b1, b2, b3⟩, fb, zb⟩, ⟨⟨c0, c1, c2, c3⟩, _, zc⟩, ⟨⟨d0, d1, d2, d3⟩, _, zd⟩, hk⟩ := hv
      have fa := fun o => fa o
      have fb := fun o => fb o
      go_wp2
      go_region
      all_goals
        go_wp2
        refine bodyPost_ret (v := .tuple #[nv q, nv R, .bool true]) (by simp [results, Try.results19, go_sem, *]) rfl ?_
        refine ⟨by rw [X1.out, X2.out], ?_⟩
        repeat (first | with_reducible exact m | with_reducible apply Mo.drew | with_reducible apply Mo.drewN | with_reducible refine Mo.setCell ?_ (by simp <;> omega) _)
    · obtain ⟨i, rfl⟩ : ∃ i, j = i + 1 := ⟨j - 1, by omega⟩
      rw [show (((i + 1 : Nat)) : Int) - 1 = (i : Int) from by omega]
      have di : decide ((i : Int) ≥ 0) = true := decide_eq_true (by omega)
      have hv0 := hv
      obtain ⟨hm, n0, n1, n2, n3, n4, ⟨⟨c0, c1, c2, c3⟩, _, s1⟩, n6, hk⟩ := hv0
      clear n0 n1 n2 n3 n4 n6 hm
      go_wp2_with fail
      refine (radd_n R R _ R0 (by omega) R0 (by omega)).mono ?_
      rintro e w2 ⟨rfl, hm2⟩
      have hv2 := hv.mo hm2
      have sk : kr + 1 < w2.heap.size := hv2.2.2.2.2.2.2.2.1.2.2
      have v3 := hv2.mo ((Mo.refl _).alloc #[.int .u64 (l0 (R + R)), .int .u64 (l1 (R + R)), .int .u64 (l2 (R + R)), .int .u64 (l3 (R + R))] 24)
      have n3 := AtN.new w2 (R + R)
      clear c0 c1 c2 c3 s1 hv hm2 hv2
      go_upto_region 9 with fail
      generalize w2.alloc (.cells #[.int .u64 (l0 (R + R)), .int .u64 (l1 (R + R)), .int .u64 (l2 (R + R)), .int .u64 (l3 (R + R))] 24) = w3 at *
      generalize w2.heap.size = kx at *
      obtain ⟨b, hb⟩ : ∃ b, b = L / 2 ^ i % 2 := ⟨_, rfl⟩
      have hb2 : b = 0 ∨ b = 1 := by omega
      have eo : bits .or .u64 (l0 (R + R)) b = l0 (R + R + b) := by
        rw [even_or (by unfold l0; omega) (by unfold l0; omega) (by unfold l0; omega) hb2]
        unfold l0; omega
      have e1 : l1 (R + R + b) = l1 (R + R) := by unfold l1; omega
      have e2 : l2 (R + R + b) = l2 (R + R) := by unfold l2; omega
      have e3 : l3 (R + R + b) = l3 (R + R) := by unfold l3; omega
      have HB : Hid _ := hb
      have E1 : Hid _ := e1
      have E2 : Hid _ := e2
      have E3 : Hid _ := e3
      clear e1 e2 e3
      go_cut [] from 31 to 37 (fun wx => QW w wx kr H L D R (q * 2 ^ (i + 1)) ∧ AtN wx kx (R + R + b))
      case first =>
        have v3z := v3
        obtain ⟨_, _, ⟨⟨c0, c1, c2, c3⟩, _, s1⟩, _⟩ := v3z
        have n3z := n3
        obtain ⟨⟨d0, d1, d2, d3⟩, df, sx⟩ := n3z
        have df := fun o => df o
        clear hb
        go_region_with
          (first | (go_at_call 65; refine (bit_any L i _ hL0 hLM (by omega)).mono ?_; rintro e w4 ⟨rfl, hm4⟩; rw [← HB.out]; have m4 : Mo w3 w4 := Mo.trans (by repeat (first | with_reducible exact Mo.refl _ | with_reducible apply Mo.drew | with_reducible apply Mo.alloc)) hm4; have v4 := v3.mo m4; have n4 := n3.mo m4; have n4z := n4; obtain ⟨⟨f0, f1, f2, f3⟩, ff, sf⟩ := n4z; have ff := fun o => ff o))
        all_goals
          go_wp2
          go_meet
          case rel =>
            refine ⟨?_, ?_⟩
            · exact v4.other sk _ _
            · refine ⟨?_, fun o => ?_, ?_⟩
              · rw [E1.out, E2.out, E3.out]
                simp [At4, go_sem, *]
              · simp [World.frozen?_setCell, ff o]
              · simpa [World.setCell] using sf
      case rest =>
        clear v3 n3 eo E1 E2 E3
        obtain ⟨v, n⟩ := hcut
        obtain ⟨T, hT⟩ : ∃ T, T = R + R + b := ⟨_, rfl⟩
        rw [← hT] at n
        have T0 : 0 ≤ T := by omega
        have T1 : T < D + D := by omega
        have HT : Hid _ := hT
        go_upto_region 10 with fail
        generalize hO : ov (R + R) = o at *
        have HO : Hid _ := hO
        clear hO
        go_cut [44] from 38 to 44 (fun s44 wx => s44 = .bool (decide (D ≤ T)) ∧ QW w wx kr H L D R (q * 2 ^ (i + 1)) ∧ AtN wx kx T)
        case first =>
          cases o
          case true =>
            have ho : MM ≤ R + R := of_decide_eq_true HO.out
            have o2 : Hid (decide (D ≤ T) = true) := decide_eq_true (by omega)
            clear hT hb ho
            go_wp2
            go_meet
            case rel => exact ⟨by rw [o2.out], v, n⟩
          case false =>
            have ho : ¬ MM ≤ R + R := of_decide_eq_false HO.out
            have tm : T < MM := by unfold MM at *; omega
            have o2 : Hid (decide (cm T D ≥ 0) = decide (D ≤ T)) := by
              show _ = _
              unfold cm
              by_cases hx : T < D
              · rw [if_pos hx, decide_eq_false (by decide), decide_eq_false (by omega)]
              · rw [if_neg hx, decide_eq_true (p := D ≤ T) (by omega)]
                split <;> decide
            clear hT hb ho
            have vz := v
            have nz := n
            obtain ⟨_, _, _, ⟨⟨c0, c1, c2, c3⟩, _, s1⟩, _⟩ := vz
            obtain ⟨⟨d0, d1, d2, d3⟩, _, sx⟩ := nz
            go_wp2_with fail
            refine (rcmp_n T D _ T0 tm (by omega) hDM).mono ?_
            rintro e w5 ⟨rfl, hm5⟩
            have v5 := v.mo hm5
            have n5 := n.mo hm5
            go_wp2
            go_meet
            case rel => exact ⟨by rw [o2.out], v5, n5⟩
        case rest =>
          clear v n hT hb
          obtain ⟨rfl, v, n⟩ := hcut
          have vz := v
          have nz := n
          obtain ⟨_, _, _, ⟨⟨c0, c1, c2, c3⟩, _, s1⟩, _⟩ := vz
          obtain ⟨⟨d0, d1, d2, d3⟩, df, sx⟩ := nz
          generalize hdd : decide (D ≤ T) = dd at *
          have HD : Hid _ := hdd
          clear hdd
          cases dd
          case true =>
            have hsub : ∀ wx, Calls Try.prog 66 #[nv T, nv D] wx fun e w' => e = .returned (.tuple #[nv (T - D), .bool (un (T % MM - D))]) ∧ Mo wx w' := by
              intro wx
              have hh := rsub_n (T % MM) D wx (Int.emod_nonneg _ (by decide)) (Int.emod_lt_of_pos _ (by decide)) (by omega) hDM
              rw [nv_mod] at hh
              have e : nv (T % MM - D) = nv (T - D) := by rw [← nv_mod (T % MM - D), ← nv_mod (T - D), Int.emod_sub_emod]
              rw [e] at hh
              exact hh
            clear df
            go_wp2_with fail
            refine (hsub _).mono ?_
            rintro e w6 ⟨rfl, hm6⟩
            have v6 := v.mo hm6
            have n6 := n.mo hm6
            clear c0 c1 c2 c3 s1 d0 d1 d2 d3 sx v n hsub hm6
            have v7 : QW w (st4 w6 kx (T - D)) kr H L D R (q * 2 ^ (i + 1)) := (((v6.other sk _ _).other sk _ _).other sk _ _).other sk _ _
            have n7 : AtN (st4 w6 kx (T - D)) kx (T - D) := n6.same _
            unfold st4 at v7 n7
            obtain ⟨⟨d0, d1, d2, d3⟩, df, sx⟩ := n6
            have df := fun o => df o
            clear v6
            go_upto_region 12 with fail
            generalize (((w6.setCell ⟨kx, 0, none⟩ (.int .u64 (l0 (T - D)))).setCell ⟨kx, 1, none⟩ (.int .u64 (l1 (T - D)))).setCell ⟨kx, 2, none⟩ (.int .u64 (l2 (T - D)))).setCell ⟨kx, 3, none⟩ (.int .u64 (l3 (T - D))) = w8 at *
            clear d0 d1 d2 d3 df sx
            obtain ⟨r, hr⟩ : ∃ r, r = i % 64 := ⟨_, rfl⟩
            have hbs := bit_set (by omega) q0 (by have := HQ.out; rwa [show 256 - (i + 1) = 255 - i from by omega] at this) r hr
            have r64 : r < 64 := by omega
            have er : (i : Int) % 64 = (r : Int) := by omega
            have wp : IntKind.u64.wrap (2 ^ r) = 2 ^ r := by
              rw [IntKind.wrap_u64]
              have h1 : (0 : Int) < 2 ^ r := Int.pow_pos (by decide)
              have h2 : (2 : Int) ^ r < 2 ^ 64 := by
                have := Nat.pow_lt_pow_right (a := 2) (by decide) r64
                rw [← cast_pow, ← cast_pow]
                omega
              exact Int.emod_eq_of_lt (by omega) h2
            clear hr
            obtain ⟨Q, hQ⟩ : ∃ Q, Q = q * 2 ^ (i + 1) := ⟨_, rfl⟩
            obtain ⟨Z, hZ⟩ : ∃ Z, Z = Q + 2 ^ i := ⟨_, rfl⟩
            rw [← hQ, ← hZ] at hbs
            rw [← hQ] at v7
            have HQ2 : Hid _ := hQ
            have HZ : Hid _ := hZ
            clear hQ hZ
            go_cut [] from 51 to 59 (fun wx => QW w wx kr H L D R Z ∧ AtN wx kx (T - D))
            case first =>
              have vz := v7
              obtain ⟨_, _, _, _, _, _, _, ⟨⟨c0, c1, c2, c3⟩, cf, s1⟩, _⟩ := vz
              have cf := fun o => cf o
              rcases hbs with ⟨hm, g0, g1, g2, g3⟩ | ⟨hm, g0, g1, g2, g3⟩ | ⟨hm, g0, g1, g2, g3⟩ | ⟨hm, g0, g1, g2, g3⟩
              · have hq : (i : Int) / 64 = 0 := by omega
                have HG1 : Hid _ := g1
                have HG2 : Hid _ := g2
                have HG3 : Hid _ := g3
                clear g1 g2 g3 hm
                go_region
                all_goals
                  go_wp2
                  go_meet
                  case rel =>
                    refine ⟨(v7.quo ?_).mo (Mo.refl _).drew, (n7.set1 (by omega) _ _).mo (Mo.refl _).drew⟩
                    rw [HG1.out, HG2.out, HG3.out]
                    simp [At4, go_sem, *]
              · have hq : (i : Int) / 64 = 1 := by omega
                have HG1 : Hid _ := g1
                have HG2 : Hid _ := g2
                have HG3 : Hid _ := g3
                clear g1 g2 g3 hm
                go_region
                all_goals
                  go_wp2
                  go_meet
                  case rel =>
                    refine ⟨(v7.quo ?_).mo (Mo.refl _).drew, (n7.set1 (by omega) _ _).mo (Mo.refl _).drew⟩
                    rw [HG1.out, HG2.out, HG3.out]
                    simp [At4, go_sem, *]
              · have hq : (i : Int) / 64 = 2 := by omega
                have HG1 : Hid _ := g1
                have HG2 : Hid _ := g2
                have HG3 : Hid _ := g3
                clear g1 g2 g3 hm
                go_region
                all_goals
                  go_wp2
                  go_meet
                  case rel =>
                    refine ⟨(v7.quo ?_).mo (Mo.refl _).drew, (n7.set1 (by omega) _ _).mo (Mo.refl _).drew⟩
                    rw [HG1.out, HG2.out, HG3.out]
                    simp [At4, go_sem, *]
              · have hq : (i : Int) / 64 = 3 := by omega
                have HG1 : Hid _ := g1
                have HG2 : Hid _ := g2
                have HG3 : Hid _ := g3
                clear g1 g2 g3 hm
                go_region
                all_goals
                  go_wp2
                  go_meet
                  case rel =>
                    refine ⟨(v7.quo ?_).mo (Mo.refl _).drew, (n7.set1 (by omega) _ _).mo (Mo.refl _).drew⟩
                    rw [HG1.out, HG2.out, HG3.out]
                    simp [At4, go_sem, *]
            case rest =>
              clear v7 n7
              obtain ⟨v7, n7⟩ := hcut
              have v8 := v7.rest (T - D)
              unfold st4 at v8
              obtain ⟨⟨d0, d1, d2, d3⟩, _, sx⟩ := n7
              obtain ⟨_, _, _, _, _, _, ⟨⟨c0, c1, c2, c3⟩, cf, s1⟩, _, _⟩ := v7
              have cf := fun o => cf o
              clear hbs
              go_wp2
              go_roundw
              case rel =>
                have hI := div_yes_step (by omega) HI.out
                have hb := HB.out
                have hT := HT.out
                rw [← hb, show 2 * R + b = T from by omega] at hI
                have hq1 : q < 2 ^ (255 - i) := by have := HQ.out; rwa [show 256 - (i + 1) = 255 - i from by omega] at this
                have hge := of_decide_eq_true HD.out
                refine ⟨i, 2 * q + 1, T - D, by omega, by go_num, by omega, (q_no (by omega) hq1).2, by omega, by omega, hI, ?_⟩
                rw [q_pow1, ← HQ2.out, ← HZ.out]
                exact v8
              case measure => simp [intOf]
          case false =>
            have v8 := v.rest T
            unfold st4 at v8
            obtain ⟨_, _, _, _, _, _, ⟨⟨b0, b1, b2, b3⟩, cf, s2⟩, _, _⟩ := v
            have cf := fun o => cf o
            clear df
            go_wp2
            go_roundw
            case rel =>
              have hI := div_no_step (by omega) HI.out
              have hb := HB.out
              have hT := HT.out
              rw [← hb, show 2 * R + b = T from by omega] at hI
              have hq1 : q < 2 ^ (255 - i) := by have := HQ.out; rwa [show 256 - (i + 1) = 255 - i from by omega] at this
              have hge := of_decide_eq_false HD.out
              refine ⟨i, 2 * q, T, by omega, by go_num, by omega, (q_no (by omega) hq1).1, by omega, by omega, hI, ?_⟩
              rw [q_pow]
              exact v8
            case measure => simp [intOf]
theorem rdiv_n (H L D : Int) (w : World) (hH0 : 0 ≤ H) (hHM : H < MM) (hL0 : 0 ≤ L) (hLM : L < MM) (hD0 : 0 ≤ D) (hDM : D < MM) :
    Calls Try.prog 19 #[nv H, nv L, nv D] w fun e w' => e = .returned (.tuple #[nv (dq H L D), nv (dr H L D), .bool (dok H D)]) ∧ Mo w w' := by
  unfold dq dr dok
  by_cases h : D ≤ H
  · rw [if_pos h, if_pos h, decide_eq_false (by omega)]
    exact rdiv_no H L D w hH0 hHM hD0 hDM h
  · rw [if_neg h, if_neg h, decide_eq_true (by omega)]
    exact rdiv_yes H L D w hH0 hL0 hLM hDM (by omega)
end Go.Proofs.Ytoiiekmkcpcbgaa
/-
  Decimals as the program holds them, and the smallest functions of package decimal: the walks.
-/
namespace Go.Proofs.Ytoiiekmkcpcbgaa
open Go.RowKit
/-- A decimal: its sign, its number, its scale. -/
abbrev dc (b : Bool) (n s : Int) : Value := .agg #[.bool b, .int .u64 (l0 n), .int .u64 (l1 n), .int .u64 (l2 n), .int .u64 (l3 n), .int .i64 s]
/-- A number of twice as many bits. -/
abbrev dw (X : Int) : Value := .agg #[.int .u64 (l0 (X / MM)), .int .u64 (l1 (X / MM)), .int .u64 (l2 (X / MM)), .int .u64 (l3 (X / MM)), .int .u64 (l0 X), .int .u64 (l1 X), .int .u64 (l2 X), .int .u64 (l3 X)]
/-- The block k holds a decimal. -/
def AtD (w : World) (k : Nat) (b : Bool) (n s : Int) : Prop := (w.cell? ⟨k, 0, none⟩ = some (.bool b) ∧ w.cell? ⟨k, 1, none⟩ = some (.int .u64 (l0 n)) ∧ w.cell? ⟨k, 2, none⟩ = some (.int .u64 (l1 n)) ∧ w.cell? ⟨k, 3, none⟩ = some (.int .u64 (l2 n)) ∧ w.cell? ⟨k, 4, none⟩ = some (.int .u64 (l3 n)) ∧ w.cell? ⟨k, 5, none⟩ = some (.int .i64 s)) ∧ Fz w k ∧ k < w.heap.size
theorem AtD.mo {w w' : World} {k : Nat} {b : Bool} {n s : Int} (h : AtD w k b n s) (m : Mo w w') : AtD w' k b n s := by
  obtain ⟨c, f, z⟩ := h
  refine ⟨?_, f.mo m, Nat.lt_of_lt_of_le z m.size⟩
  simp only [m.cell k _ z]; exact c
/-- The block k holds a number of twice as many bits. -/
def AtW (w : World) (k : Nat) (X : Int) : Prop := (w.cell? ⟨k, 0, none⟩ = some (.int .u64 (l0 (X / MM))) ∧ w.cell? ⟨k, 1, none⟩ = some (.int .u64 (l1 (X / MM))) ∧ w.cell? ⟨k, 2, none⟩ = some (.int .u64 (l2 (X / MM))) ∧ w.cell? ⟨k, 3, none⟩ = some (.int .u64 (l3 (X / MM))) ∧ w.cell? ⟨k, 4, none⟩ = some (.int .u64 (l0 X)) ∧ w.cell? ⟨k, 5, none⟩ = some (.int .u64 (l1 X)) ∧ w.cell? ⟨k, 6, none⟩ = some (.int .u64 (l2 X)) ∧ w.cell? ⟨k, 7, none⟩ = some (.int .u64 (l3 X))) ∧ Fz w k ∧ k < w.heap.size
theorem AtW.mo {w w' : World} {k : Nat} {X : Int} (h : AtW w k X) (m : Mo w w') : AtW w' k X := by
  obtain ⟨c, f, z⟩ := h
  refine ⟨?_, f.mo m, Nat.lt_of_lt_of_le z m.size⟩
  simp only [m.cell k _ z]; exact c

/-- The scale may be. -/
def sc (s : Int) : Bool := decide (0 ≤ s) && decide (s ≤ 18)
set_option maxHeartbeats 1000000 in
theorem isScale_n (s : Int) (w : World) : Calls Try.prog 72 #[.int .i64 s] w fun e w' => e = .returned (.bool (sc s)) ∧ Mo w w' := by
  by_cases h : 0 ≤ s
  · have h1 : decide (s ≥ 0) = true := decide_eq_true h
    have e : sc s = decide (s ≤ 18) := by unfold sc; rw [decide_eq_true h]; rfl
    rw [e]
    go_enter Try.func72, Try.ntmps72
    go_wp2
    go_ret
    exact ⟨rfl, Mo.refl _⟩
  · have h1 : decide (s ≥ 0) = false := decide_eq_false h
    have e : sc s = false := by unfold sc; rw [decide_eq_false h]; rfl
    rw [e]
    go_enter Try.func72, Try.ntmps72
    go_wp2
    go_ret
    exact ⟨rfl, Mo.refl _⟩
/-- The number is 0, by its limbs. -/
theorem zb {n : Int} (h0 : 0 ≤ n) (h : n < MM) : (l0 n == 0 && (l1 n == 0 && (l2 n == 0 && l3 n == 0))) = decide (n = 0) := zero4 h0 h
/-- What Check answers. -/
def ck (b : Bool) (n s : Int) : Int := if sc s && !(b && decide (n = 0)) then 0 else 20
set_option maxHeartbeats 2000000 in
theorem check_n (b : Bool) (n s : Int) (w : World) (hn0 : 0 ≤ n) (hn : n < MM) : Calls Try.prog 29 #[dc b n s] w fun e w' => e = .returned (.int .i64 (ck b n s)) ∧ Mo w w' := by
  have q4 := eq4
  have z4 := zb hn0 hn
  have Q : AtD (w.alloc (.cells #[.bool b, .int .u64 (l0 n), .int .u64 (l1 n), .int .u64 (l2 n), .int .u64 (l3 n), .int .i64 s] 40)) w.heap.size b n s := ⟨by simp [go_sem], fun o => by simp [go_sem], by simp⟩
  go_enter Try.func29, Try.ntmps29
  go_wp2_with fail
  refine (isScale_n s _).mono ?_
  rintro e w1 ⟨rfl, hm1⟩
  have M1 : Mo w w1 := ((Mo.refl _).alloc _ _).trans hm1
  obtain ⟨⟨a0, a1, a2, a3, a4, a5⟩, _, sz⟩ := Q.mo hm1
  clear Q hm1
  cases hs : sc s <;> cases hb : b <;> cases hz : decide (n = 0)
  all_goals
    rw [hz] at z4
    go_wp2
    go_ret
    exact ⟨by simp [ck, *], M1⟩
end Go.Proofs.Ytoiiekmkcpcbgaa
/-
  decimal.signed, ten, mulDouble: the walks.
-/
namespace Go.Proofs.Ytoiiekmkcpcbgaa
open Go.RowKit
set_option maxHeartbeats 2000000 in
theorem signed_n (b : Bool) (n s : Int) (w : World) (hn0 : 0 ≤ n) (hn : n < MM) :
    Calls Try.prog 73 #[.bool b, nv n, .int .i64 s] w fun e w' => e = .returned (dc (b && !decide (n = 0)) n s) ∧ Mo w w' := by
  have q4 := eq4
  have z4 := zb hn0 hn
  go_enter Try.func73, Try.ntmps73
  cases hb : b <;> cases hz : decide (n = 0)
  all_goals
    rw [hz] at z4
    go_wp2
    go_region
    all_goals
      go_wp2
      refine bodyPost_ret (by simp [results, Try.results73, go_sem]; rfl) rfl ?_
      refine ⟨by simp, ?_⟩
      repeat (first | with_reducible exact Mo.refl _ | with_reducible apply Mo.drew | with_reducible apply Mo.drewN | with_reducible apply Mo.alloc | with_reducible refine Mo.setCell ?_ (by simp <;> omega) _)
set_option maxHeartbeats 2000000 in
theorem dten_n (k : Nat) (w : World) (hk : k ≤ 77) : Calls Try.prog 74 #[.int .i64 (k : Int)] w fun e w' => e = .returned (nv (10 ^ k)) ∧ Mo w w' := by
  go_enter Try.func74, Try.ntmps74
  go_wp2_with fail
  refine (ten_yes k _ hk).mono ?_
  rintro e w1 ⟨rfl, hm1⟩
  have M1 : Mo w w1 := ((Mo.refl _).alloc _ _).trans hm1
  have Q1 : At0 w1 w.heap.size := At0.mo ⟨by simp [At4, go_sem], fun o => by simp [go_sem], by simp <;> omega⟩ hm1
  obtain ⟨⟨a0, a1, a2, a3⟩, fa, sa⟩ := Q1
  have fa := fun o => fa o
  go_wp2
  refine bodyPost_ret (v := nv (10 ^ k)) (by simp [results, Try.results74, go_sem, *]) rfl ?_
  refine ⟨rfl, ?_⟩
  repeat (first | with_reducible exact M1 | with_reducible apply Mo.drew | with_reducible apply Mo.drewN | with_reducible apply Mo.alloc | with_reducible refine Mo.setCell ?_ (by simp <;> omega) _)
theorem zl0 : l0 0 = 0 := rfl
theorem zl1 : l1 0 = 0 := rfl
theorem zl2 : l2 0 = 0 := rfl
theorem zl3 : l3 0 = 0 := rfl
theorem zM : (0 : Int) / MM = 0 := by decide
set_option maxHeartbeats 2000000 in
theorem mulDouble_n (A B : Int) (w : World) (hA0 : 0 ≤ A) (hAM : A < MM) (hB0 : 0 ≤ B) (hBM : B < MM) :
    Calls Try.prog 87 #[nv A, nv B] w fun e w' => e = .returned (dw (A * B)) ∧ Mo w w' := by
  go_enter Try.func87, Try.ntmps87
  go_wp2_with fail
  refine (mul_n A B _ hA0 hAM hB0 hBM).mono ?_
  rintro e w1 ⟨rfl, hm1⟩
  have m : Mo w w1 := Mo.trans (by repeat (first | with_reducible exact Mo.refl _ | with_reducible apply Mo.drew | with_reducible apply Mo.alloc)) hm1
  have M := m
  have Qr : AtW w1 (w.heap.size + 1 + 1) 0 := AtW.mo ⟨by simp [go_sem, zl0, zl1, zl2, zl3], fun o => by simp [go_sem], by simp <;> omega⟩ hm1
  clear hm1 m
  have Or := Qr
  obtain ⟨⟨cr0, cr1, cr2, cr3, cr4, cr5, cr6, cr7⟩, fr, sr⟩ := Or
  have fr := fun o => fr o
  have sxr : w.heap.size + 1 + 1 < w1.heap.size + 1 := by omega
  have syr : w.heap.size + 1 + 1 < w1.heap.size + 1 + 1 := by omega
  have a : Mo w1 ((((w1).alloc (.cells #[.int .u64 (l0 (A * B / MM)), .int .u64 (l1 (A * B / MM)), .int .u64 (l2 (A * B / MM)), .int .u64 (l3 (A * B / MM))] 24))).alloc (.cells #[.int .u64 (l0 (A * B)), .int .u64 (l1 (A * B)), .int .u64 (l2 (A * B)), .int .u64 (l3 (A * B))] 24)) := by repeat (first | with_reducible exact Mo.refl _ | with_reducible apply Mo.alloc)
  clear cr0 cr1 cr2 cr3 cr4 cr5 cr6 cr7 fr sr sxr syr
  have Qr := Qr.mo a
  have M := M.trans a
  have Qh : AtN ((((w1).alloc (.cells #[.int .u64 (l0 (A * B / MM)), .int .u64 (l1 (A * B / MM)), .int .u64 (l2 (A * B / MM)), .int .u64 (l3 (A * B / MM))] 24))).alloc (.cells #[.int .u64 (l0 (A * B)), .int .u64 (l1 (A * B)), .int .u64 (l2 (A * B)), .int .u64 (l3 (A * B))] 24)) (w1.heap.size) (A * B / MM) := ⟨by simp [At4, go_sem], fun o => by simp [go_sem], by simp <;> omega⟩
  have Ql : AtN ((((w1).alloc (.cells #[.int .u64 (l0 (A * B / MM)), .int .u64 (l1 (A * B / MM)), .int .u64 (l2 (A * B / MM)), .int .u64 (l3 (A * B / MM))] 24))).alloc (.cells #[.int .u64 (l0 (A * B)), .int .u64 (l1 (A * B)), .int .u64 (l2 (A * B)), .int .u64 (l3 (A * B))] 24)) (w1.heap.size + 1) (A * B) := ⟨by simp [At4, go_sem], fun o => by simp [go_sem], by simp <;> omega⟩
  clear a
  go_upto_region 2 with fail
  generalize ((((w1).alloc (.cells #[.int .u64 (l0 (A * B / MM)), .int .u64 (l1 (A * B / MM)), .int .u64 (l2 (A * B / MM)), .int .u64 (l3 (A * B / MM))] 24))).alloc (.cells #[.int .u64 (l0 (A * B)), .int .u64 (l1 (A * B)), .int .u64 (l2 (A * B)), .int .u64 (l3 (A * B))] 24)) = W0 at *
  have Or := Qr
  obtain ⟨⟨cr0, cr1, cr2, cr3, cr4, cr5, cr6, cr7⟩, fr, sr⟩ := Or
  have fr := fun o => fr o
  have sxr : w.heap.size + 1 + 1 < W0.heap.size + 1 := by omega
  have syr : w.heap.size + 1 + 1 < W0.heap.size + 1 + 1 := by omega
  have Oh := Qh
  obtain ⟨⟨ch0, ch1, ch2, ch3⟩, fh, sh⟩ := Oh
  have fh := fun o => fh o
  have sxh : w1.heap.size < W0.heap.size + 1 := by omega
  have syh : w1.heap.size < W0.heap.size + 1 + 1 := by omega
  have Ol := Ql
  obtain ⟨⟨cl0, cl1, cl2, cl3⟩, fl, sl⟩ := Ol
  have fl := fun o => fl o
  have sxl : w1.heap.size + 1 < W0.heap.size + 1 := by omega
  have syl : w1.heap.size + 1 < W0.heap.size + 1 + 1 := by omega
  go_wp2
  refine bodyPost_ret (v := dw (A * B)) (by simp [results, Try.results87, go_sem, *]) rfl ?_
  refine ⟨rfl, ?_⟩
  repeat (first | with_reducible exact M | with_reducible exact Mo.refl _ | with_reducible apply Mo.drew | with_reducible apply Mo.drewN | with_reducible apply Mo.alloc | with_reducible refine Mo.setCell ?_ (by simp <;> omega) _)
end Go.Proofs.Ytoiiekmkcpcbgaa
/-
  == of decimals and of numbers of twice as many bits.
-/
namespace Go.Proofs.Ytoiiekmkcpcbgaa
open Go.RowKit
theorem eq4d (d : Nat) (a b c e f g h i : Int) (w : World) : (Op.equalIn (d + 1 + 1) 24 (.agg #[.int .u64 a, .int .u64 b, .int .u64 c, .int .u64 e]) (.agg #[.int .u64 f, .int .u64 g, .int .u64 h, .int .u64 i])).run Try.prog w = .ok (a == f && (b == g && (c == h && e == i))) w := by
  obtain ⟨j, hj⟩ := info22
  rw [run_equalIn_array w (d + 1) _ _ Try.underlying24 hj, cells22]
  have q : ∀ (x y : Int), (Op.equalIn (d + 1) 22 (.int .u64 x) (.int .u64 y)).run Try.prog w = .ok (x == y) w := fun x y => run_equalIn_int w d 22 .u64 .u64 x y Try.underlying22
  rw [show List.range 4 = [0, 1, 2, 3] from rfl]
  cases ha : a == f <;> cases hb : b == g <;> cases hc : c == h <;> cases hd : e == i <;> simp [Op.eqItems, Sem.run_bind, part0, part1, part2, part3, Result.andThen_ok, q, ha, hb, hc, hd, Sem.run_pure]
theorem ht40 : Try.prog.underlying 40 = some (.struct (Try.prog.fieldsOf 40)) := by kernel_rfl
theorem ht81 : Try.prog.underlying 81 = some (.struct (Try.prog.fieldsOf 81)) := by kernel_rfl
theorem hp40 : Try.prog.stoodInHeld 40 = false := by kernel_rfl
theorem hp81 : Try.prog.stoodInHeld 81 = false := by kernel_rfl
theorem fo40 : (Try.prog.fieldsOf 40).toList.map (fun f => (f.name, f.type, f.offset)) = [("Neg", 4, 0), ("N", 24, 1), ("Scale", 3, 5)] := by kernel_rfl
theorem fo81 : (Try.prog.fieldsOf 81).toList.map (fun f => (f.name, f.type, f.offset)) = [("high", 24, 0), ("low", 24, 4)] := by kernel_rfl
theorem pt40 (x0 x1 x2 x3 x4 x5 : Value) (w : World) : (part 4 #[x0, x1, x2, x3, x4, x5] 0).run Try.prog w = .ok x0 w := by kernel_rfl
theorem pt41 (x0 x1 x2 x3 x4 x5 : Value) (w : World) : (part 24 #[x0, x1, x2, x3, x4, x5] 1).run Try.prog w = .ok (.agg #[x1, x2, x3, x4]) w := by kernel_rfl
theorem pt45 (x0 x1 x2 x3 x4 x5 : Value) (w : World) : (part 3 #[x0, x1, x2, x3, x4, x5] 5).run Try.prog w = .ok x5 w := by kernel_rfl
theorem pt80 (x0 x1 x2 x3 x4 x5 x6 x7 : Value) (w : World) : (part 24 #[x0, x1, x2, x3, x4, x5, x6, x7] 0).run Try.prog w = .ok (.agg #[x0, x1, x2, x3]) w := by kernel_rfl
theorem pt84 (x0 x1 x2 x3 x4 x5 x6 x7 : Value) (w : World) : (part 24 #[x0, x1, x2, x3, x4, x5, x6, x7] 4).run Try.prog w = .ok (.agg #[x4, x5, x6, x7]) w := by kernel_rfl
theorem eq40n (b c : Bool) (n0 n1 n2 n3 m0 m1 m2 m3 s t : Int) (w : World) : (Op.equalIn 10000 40 (.agg #[.bool b, .int .u64 n0, .int .u64 n1, .int .u64 n2, .int .u64 n3, .int .i64 s]) (.agg #[.bool c, .int .u64 m0, .int .u64 m1, .int .u64 m2, .int .u64 m3, .int .i64 t])).run Try.prog w = .ok (b == c && ((n0 == m0 && (n1 == m1 && (n2 == m2 && n3 == m3))) && s == t)) w := by
  rw [show (10000 : Nat) = 9999 + 1 from rfl, run_equalIn_struct w 9999 40 _ _ ht40 hp40]
  have h := fo40
  generalize (Try.prog.fieldsOf 40).toList = L at h
  have hl : L.length = 3 := by have := congrArg List.length h; simpa using this
  match L, hl with
  | [f0, f1, f2], _ =>
    simp at h
    obtain ⟨⟨a0, a1, a2⟩, ⟨b0, b1, b2⟩, ⟨c0, c1, c2⟩⟩ := h
    have q1 : (Op.equalIn 9999 4 (.bool b) (.bool c)).run Try.prog w = .ok (b == c) w := by kernel_rfl
    have q2 := eq4d 9997 n0 n1 n2 n3 m0 m1 m2 m3 w
    have q3 : (Op.equalIn 9999 3 (.int .i64 s) (.int .i64 t)).run Try.prog w = .ok (s == t) w := run_equalIn_int w 9998 3 .i64 .i64 s t Try.underlying3
    generalize hz : (n0 == m0 && (n1 == m1 && (n2 == m2 && n3 == m3))) = z at q2 ⊢
    simp only [Op.eqFields, a0, a1, a2, b0, b1, b2, c0, c1, c2]
    cases h1 : (b == c) <;> cases z <;> cases h3 : (s == t) <;> simp [Sem.run_bind, pt40, pt41, pt45, Result.andThen_ok, q1, q2, q3, h1, h3, Sem.run_pure]
theorem eq81n (a0 a1 a2 a3 a4 a5 a6 a7 b0 b1 b2 b3 b4 b5 b6 b7 : Int) (w : World) : (Op.equalIn 10000 81 (.agg #[.int .u64 a0, .int .u64 a1, .int .u64 a2, .int .u64 a3, .int .u64 a4, .int .u64 a5, .int .u64 a6, .int .u64 a7]) (.agg #[.int .u64 b0, .int .u64 b1, .int .u64 b2, .int .u64 b3, .int .u64 b4, .int .u64 b5, .int .u64 b6, .int .u64 b7])).run Try.prog w = .ok ((a0 == b0 && (a1 == b1 && (a2 == b2 && a3 == b3))) && (a4 == b4 && (a5 == b5 && (a6 == b6 && a7 == b7)))) w := by
  rw [show (10000 : Nat) = 9999 + 1 from rfl, run_equalIn_struct w 9999 81 _ _ ht81 hp81]
  have h := fo81
  generalize (Try.prog.fieldsOf 81).toList = L at h
  have hl : L.length = 2 := by have := congrArg List.length h; simpa using this
  match L, hl with
  | [f0, f1], _ =>
    simp at h
    obtain ⟨⟨x0, x1, x2⟩, ⟨y0, y1, y2⟩⟩ := h
    have q1 := eq4d 9997 a0 a1 a2 a3 b0 b1 b2 b3 w
    have q2 := eq4d 9997 a4 a5 a6 a7 b4 b5 b6 b7 w
    generalize hz : (a0 == b0 && (a1 == b1 && (a2 == b2 && a3 == b3))) = z at q1 ⊢
    generalize hz : (a4 == b4 && (a5 == b5 && (a6 == b6 && a7 == b7))) = y at q2 ⊢
    simp only [Op.eqFields, x0, x1, x2, y0, y1, y2]
    cases z <;> cases y <;> simp [Sem.run_bind, pt80, pt84, Result.andThen_ok, q1, q2, Sem.run_pure]
/-- Two numbers of 256 bits are the same just if their limbs are. -/
theorem limbs_eq {n m : Int} (hn0 : 0 ≤ n) (hn : n < MM) (hm0 : 0 ≤ m) (hm : m < MM) : (l0 n == l0 m && (l1 n == l1 m && (l2 n == l2 m && l3 n == l3 m))) = decide (n = m) := by
  rw [Bool.eq_iff_iff]
  simp
  constructor
  · rintro ⟨a, b, c, d⟩; exact nv_inj hn0 hn hm0 hm ⟨a, b, c, d⟩
  · rintro rfl; exact ⟨rfl, rfl, rfl, rfl⟩
theorem l0_mod (n : Int) : l0 (n % MM) = l0 n := by unfold l0 MM; omega
theorem l1_mod (n : Int) : l1 (n % MM) = l1 n := by unfold l1 MM; omega
theorem l2_mod (n : Int) : l2 (n % MM) = l2 n := by unfold l2 MM; omega
theorem l3_mod (n : Int) : l3 (n % MM) = l3 n := by unfold l3 MM; omega
theorem wide_eqn {X Y : Int} (hX0 : 0 ≤ X) (hX : X < MM * MM) (hY0 : 0 ≤ Y) (hY : Y < MM * MM) : ((l0 (X / MM) == l0 (Y / MM) && (l1 (X / MM) == l1 (Y / MM) && (l2 (X / MM) == l2 (Y / MM) && l3 (X / MM) == l3 (Y / MM)))) && (l0 X == l0 Y && (l1 X == l1 Y && (l2 X == l2 Y && l3 X == l3 Y)))) = decide (X = Y) := by
  have p : (0 : Int) < MM := by decide
  rw [limbs_eq (Int.ediv_nonneg hX0 (by omega)) (Int.ediv_lt_of_lt_mul p hX) (Int.ediv_nonneg hY0 (by omega)) (Int.ediv_lt_of_lt_mul p hY), ← l0_mod X, ← l1_mod X, ← l2_mod X, ← l3_mod X, ← l0_mod Y, ← l1_mod Y, ← l2_mod Y, ← l3_mod Y, limbs_eq (Int.emod_nonneg _ (by omega)) (Int.emod_lt_of_pos _ p) (Int.emod_nonneg _ (by omega)) (Int.emod_lt_of_pos _ p)]
  rw [Bool.eq_iff_iff]
  simp
  constructor
  · rintro ⟨a, b⟩
    rw [← Int.mul_ediv_add_emod X MM, ← Int.mul_ediv_add_emod Y MM, a, b]
  · rintro rfl; exact ⟨rfl, rfl⟩
theorem eq40 (b c : Bool) (n0 n1 n2 n3 m0 m1 m2 m3 s t : Int) (w : World) : (Op.equalIn 10000 40 (.agg #[.bool b, .int .u64 n0, .int .u64 n1, .int .u64 n2, .int .u64 n3, .int .i64 s]) (.agg #[.bool c, .int .u64 m0, .int .u64 m1, .int .u64 m2, .int .u64 m3, .int .i64 t])).run Try.prog w = .ok (b == c && (n0 == m0 && (n1 == m1 && (n2 == m2 && (n3 == m3 && s == t))))) w := by
  rw [eq40n]; simp only [Bool.and_assoc]
theorem eq81 (a0 a1 a2 a3 a4 a5 a6 a7 b0 b1 b2 b3 b4 b5 b6 b7 : Int) (w : World) : (Op.equalIn 10000 81 (.agg #[.int .u64 a0, .int .u64 a1, .int .u64 a2, .int .u64 a3, .int .u64 a4, .int .u64 a5, .int .u64 a6, .int .u64 a7]) (.agg #[.int .u64 b0, .int .u64 b1, .int .u64 b2, .int .u64 b3, .int .u64 b4, .int .u64 b5, .int .u64 b6, .int .u64 b7])).run Try.prog w = .ok (a0 == b0 && (a1 == b1 && (a2 == b2 && (a3 == b3 && (a4 == b4 && (a5 == b5 && (a6 == b6 && a7 == b7))))))) w := by
  rw [eq81n]; simp only [Bool.and_assoc]
theorem wide_eq {X Y : Int} (hX0 : 0 ≤ X) (hX : X < MM * MM) (hY0 : 0 ≤ Y) (hY : Y < MM * MM) : (l0 (X / MM) == l0 (Y / MM) && (l1 (X / MM) == l1 (Y / MM) && (l2 (X / MM) == l2 (Y / MM) && (l3 (X / MM) == l3 (Y / MM) && (l0 X == l0 Y && (l1 X == l1 Y && (l2 X == l2 Y && l3 X == l3 Y))))))) = decide (X = Y) := by
  rw [← wide_eqn hX0 hX hY0 hY]; simp only [Bool.and_assoc]
end Go.Proofs.Ytoiiekmkcpcbgaa
/-
  decimal.fit and cmpDouble: the walks.
-/
namespace Go.Proofs.Ytoiiekmkcpcbgaa
open Go.RowKit
/-- An error, and no number. -/
abbrev er (c : Int) : Value := .tuple #[.agg #[.bool false, .int .u64 0, .int .u64 0, .int .u64 0, .int .u64 0, .int .i64 0], .int .i64 c]
theorem cmp_m (A B : Int) (w : World) : Calls Try.prog 57 #[nv A, nv B] w fun e w' => e = .returned (.int .i64 (cm (A % MM) (B % MM))) ∧ Mo w w' := by
  have h := cmp15_any (l0 A) (l1 A) (l2 A) (l3 A) (l0 B) (l1 B) (l2 B) (l3 B) w (u4_lb A) (u4_lb B)
  rw [vl_nv, vl_nv] at h
  exact h
set_option maxHeartbeats 4000000 in
theorem fit_yes (b : Bool) (X s : Int) (w : World) (hX0 : 0 ≤ X) (hX : X < MM) :
    Calls Try.prog 77 #[.bool b, dw X, .int .i64 s] w fun e w' => e = .returned (.tuple #[dc (b && !decide (X = 0)) X s, .int .i64 0]) ∧ Mo w w' := by
  have q4 := eq4
  have e0 : X / MM = 0 := Int.ediv_eq_zero_of_lt hX0 hX
  have y0 : l0 0 = 0 := rfl
  have y1 : l1 0 = 0 := rfl
  have y2 : l2 0 = 0 := rfl
  have y3 : l3 0 = 0 := rfl
  rw [dw, e0, y0, y1, y2, y3]
  clear e0 y0 y1 y2 y3
  go_enter Try.func77, Try.ntmps77
  go_wp2_with fail
  refine (signed_n b X s _ hX0 hX).mono ?_
  rintro e w1 ⟨rfl, hm1⟩
  have m : Mo w w1 := Mo.trans (by repeat (first | with_reducible exact Mo.refl _ | with_reducible apply Mo.drew | with_reducible apply Mo.alloc)) hm1
  have M := m
  have Qr : AtD w1 (w.heap.size + 1) false 0 0 := AtD.mo ⟨by simp [go_sem, zl0, zl1, zl2, zl3], fun o => by simp [go_sem], by simp <;> omega⟩ hm1
  clear hm1 m
  have Or := Qr
  obtain ⟨⟨cr0, cr1, cr2, cr3, cr4, cr5⟩, fr, sr⟩ := Or
  have fr := fun o => fr o
  have sxr : w.heap.size + 1 < w1.heap.size + 1 := by omega
  have syr : w.heap.size + 1 < w1.heap.size + 1 + 1 := by omega
  go_wp2
  refine bodyPost_ret (v := .tuple #[dc (b && !decide (X = 0)) X s, .int .i64 0]) (by simp [results, Try.results77, go_sem, *]) rfl ?_
  refine ⟨rfl, ?_⟩
  repeat (first | with_reducible exact M | with_reducible exact Mo.refl _ | with_reducible apply Mo.drew | with_reducible apply Mo.drewN | with_reducible apply Mo.alloc | with_reducible refine Mo.setCell ?_ (by simp <;> omega) _)
set_option maxHeartbeats 4000000 in
theorem fit_no (b : Bool) (X s : Int) (w : World) (hX0 : MM ≤ X) (hX : X < MM * MM) :
    Calls Try.prog 77 #[.bool b, dw X, .int .i64 s] w fun e w' => e = .returned (er 7) ∧ Mo w w' := by
  have q4 := eq4
  have p : (0 : Int) < MM := by decide
  have z4 : (l0 (X / MM) == 0 && (l1 (X / MM) == 0 && (l2 (X / MM) == 0 && l3 (X / MM) == 0))) = false := by
    rw [zero4 (Int.ediv_nonneg (by omega) (by omega)) (Int.ediv_lt_of_lt_mul p hX)]
    refine decide_eq_false fun h => ?_
    have := Int.lt_mul_of_ediv_lt p (show X / MM < 1 by omega)
    omega
  clear p
  go_enter Try.func77, Try.ntmps77
  go_wp2
  refine bodyPost_ret (v := er 7) (by simp [results, Try.results77, go_sem, *]) rfl ?_
  refine ⟨rfl, ?_⟩
  repeat (first | with_reducible exact Mo.refl _ | with_reducible apply Mo.drew | with_reducible apply Mo.drewN | with_reducible apply Mo.alloc | with_reducible refine Mo.setCell ?_ (by simp <;> omega) _)
theorem cm_wide {X Y : Int} : cm X Y = if cm (X / MM) (Y / MM) = 0 then cm (X % MM) (Y % MM) else cm (X / MM) (Y / MM) := by
  have p : (0 : Int) < MM := by decide
  have eX := Int.mul_ediv_add_emod X MM
  have eY := Int.mul_ediv_add_emod Y MM
  have cX := Int.emod_nonneg X (show MM ≠ 0 by omega)
  have dX := Int.emod_lt_of_pos X p
  have cY := Int.emod_nonneg Y (show MM ≠ 0 by omega)
  have dY := Int.emod_lt_of_pos Y p
  unfold cm
  unfold MM at *
  split <;> split <;> split <;> (try split) <;> (try split) <;> (try split) <;> omega
set_option maxHeartbeats 4000000 in
theorem cmpDouble_n (X Y : Int) (w : World) (hX0 : 0 ≤ X) (hX : X < MM * MM) (hY0 : 0 ≤ Y) (hY : Y < MM * MM) :
    Calls Try.prog 79 #[dw X, dw Y] w fun e w' => e = .returned (.int .i64 (cm X Y)) ∧ Mo w w' := by
  have q8 := eq81
  have we := wide_eq hX0 hX hY0 hY
  have p : (0 : Int) < MM := by decide
  have a1 : X / MM % MM = X / MM := Int.emod_eq_of_lt (Int.ediv_nonneg hX0 (by omega)) (Int.ediv_lt_of_lt_mul p hX)
  have b1 : Y / MM % MM = Y / MM := Int.emod_eq_of_lt (Int.ediv_nonneg hY0 (by omega)) (Int.ediv_lt_of_lt_mul p hY)
  have A1 : Hid _ := a1
  have B1 : Hid _ := b1
  clear a1 b1 p
  by_cases h : X = Y
  · rw [decide_eq_true h] at we
    have e : Hid (cm X Y = 0) := by show _ = _; subst h; unfold cm; simp
    clear h
    go_enter Try.func79, Try.ntmps79
    go_wp2
    go_ret
    exact ⟨by rw [e.out]; rfl, ((Mo.refl _).alloc _ _).alloc _ _⟩
  · rw [decide_eq_false h] at we
    have e : Hid _ := cm_wide (X := X) (Y := Y)
    clear h
    go_enter Try.func79, Try.ntmps79
    go_wp2_with fail
    refine (cmp_m (X / MM) (Y / MM) _).mono ?_
    rintro e w1 ⟨rfl, hm1⟩
    rw [A1.out, B1.out]
    have m : Mo w w1 := Mo.trans (by repeat (first | with_reducible exact Mo.refl _ | with_reducible apply Mo.drew | with_reducible apply Mo.alloc)) hm1
    have M := m
    have Qx : AtW w1 (w.heap.size) X := AtW.mo ⟨by simp [go_sem], fun o => by simp [go_sem], by simp <;> omega⟩ hm1
    have Qy : AtW w1 (w.heap.size + 1) Y := AtW.mo ⟨by simp [go_sem], fun o => by simp [go_sem], by simp <;> omega⟩ hm1
    clear hm1 m
    have Ox := Qx
    obtain ⟨⟨cx0, cx1, cx2, cx3, cx4, cx5, cx6, cx7⟩, fx, sx⟩ := Ox
    have fx := fun o => fx o
    have sxx : w.heap.size < w1.heap.size + 1 := by omega
    have syx : w.heap.size < w1.heap.size + 1 + 1 := by omega
    have Oy := Qy
    obtain ⟨⟨cy0, cy1, cy2, cy3, cy4, cy5, cy6, cy7⟩, fy, sy⟩ := Oy
    have fy := fun o => fy o
    have sxy : w.heap.size + 1 < w1.heap.size + 1 := by omega
    have syy : w.heap.size + 1 < w1.heap.size + 1 + 1 := by omega
    by_cases hz : cm (X / MM) (Y / MM) = 0
    · have hb : (cm (X / MM) (Y / MM) == 0) = true := by rw [hz]; rfl
      have e2 := e.out
      rw [if_pos hz] at e2
      have E2 : Hid _ := e2
      clear e2 hz
      go_wp2_with fail
      refine (cmp_m X Y _).mono ?_
      rintro e w2 ⟨rfl, hm2⟩
      have m : Mo w1 w2 := Mo.trans (by repeat (first | with_reducible exact Mo.refl _ | with_reducible apply Mo.drew | with_reducible apply Mo.alloc)) hm2
      clear cx0 cx1 cx2 cx3 cx4 cx5 cx6 cx7 fx sx sxx syx cy0 cy1 cy2 cy3 cy4 cy5 cy6 cy7 fy sy sxy syy
      have Qx := Qx.mo m
      have Qy := Qy.mo m
      have M := M.trans m
      clear hm2 m
      have Ox := Qx
      obtain ⟨⟨cx0, cx1, cx2, cx3, cx4, cx5, cx6, cx7⟩, fx, sx⟩ := Ox
      have fx := fun o => fx o
      have sxx : w.heap.size < w2.heap.size + 1 := by omega
      have syx : w.heap.size < w2.heap.size + 1 + 1 := by omega
      have Oy := Qy
      obtain ⟨⟨cy0, cy1, cy2, cy3, cy4, cy5, cy6, cy7⟩, fy, sy⟩ := Oy
      have fy := fun o => fy o
      have sxy : w.heap.size + 1 < w2.heap.size + 1 := by omega
      have syy : w.heap.size + 1 < w2.heap.size + 1 + 1 := by omega
      go_wp2
      go_ret
      exact ⟨by rw [E2.out]; rfl, M⟩
    · have hb : (cm (X / MM) (Y / MM) == 0) = false := by simp [hz]
      have e2 := e.out
      rw [if_neg hz] at e2
      have E2 : Hid _ := e2
      clear e2 hz
      go_wp2
      go_ret
      exact ⟨by rw [E2.out]; rfl, M⟩
end Go.Proofs.Ytoiiekmkcpcbgaa
/-
  decimal.checkBoth, Neg, Abs, Sign: the walks.
-/
namespace Go.Proofs.Ytoiiekmkcpcbgaa
open Go.RowKit
theorem ck_20 {b : Bool} {n s : Int} (h : ck b n s ≠ 0) : ck b n s = 20 := by unfold ck at *; split at h <;> simp_all
theorem check_ok (b : Bool) (n s : Int) (w : World) (hn0 : 0 ≤ n) (hn : n < MM) (h : ck b n s = 0) : Calls Try.prog 29 #[dc b n s] w fun e w' => e = .returned (.int .i64 0) ∧ Mo w w' := by
  have := check_n b n s w hn0 hn
  rw [h] at this
  exact this
theorem check_no (b : Bool) (n s : Int) (w : World) (hn0 : 0 ≤ n) (hn : n < MM) (h : ck b n s ≠ 0) : Calls Try.prog 29 #[dc b n s] w fun e w' => e = .returned (.int .i64 20) ∧ Mo w w' := by
  have := check_n b n s w hn0 hn
  rw [ck_20 h] at this
  exact this
set_option maxHeartbeats 4000000 in
theorem both_ok (b : Bool) (n s : Int) (c : Bool) (m t : Int) (w : World) (hn0 : 0 ≤ n) (hn : n < MM) (hm0 : 0 ≤ m) (hm : m < MM) (h1 : ck b n s = 0) (h2 : ck c m t = 0) :
    Calls Try.prog 75 #[dc b n s, dc c m t] w fun e w' => e = .returned (.int .i64 0) ∧ Mo w w' := by
  go_enter Try.func75, Try.ntmps75
  go_wp2_with fail
  refine (check_ok b n s _ hn0 hn h1).mono ?_
  rintro e w1 ⟨rfl, hm1⟩
  have mz : Mo w w1 := Mo.trans (by repeat (first | with_reducible exact Mo.refl _ | with_reducible apply Mo.drew | with_reducible apply Mo.alloc)) hm1
  have M := mz
  have Qa : AtD w1 (w.heap.size) b n s := AtD.mo ⟨by simp [go_sem], fun o => by simp [go_sem], by simp <;> omega⟩ hm1
  have Qb : AtD w1 (w.heap.size + 1) c m t := AtD.mo ⟨by simp [go_sem], fun o => by simp [go_sem], by simp <;> omega⟩ hm1
  clear hm1 mz
  have Oa := Qa
  obtain ⟨⟨ca0, ca1, ca2, ca3, ca4, ca5⟩, fa, sa⟩ := Oa
  have fa := fun o => fa o
  have sxa : w.heap.size < w1.heap.size + 1 := by omega
  have sya : w.heap.size < w1.heap.size + 1 + 1 := by omega
  have Ob := Qb
  obtain ⟨⟨cb0, cb1, cb2, cb3, cb4, cb5⟩, fb, sb⟩ := Ob
  have fb := fun o => fb o
  have sxb : w.heap.size + 1 < w1.heap.size + 1 := by omega
  have syb : w.heap.size + 1 < w1.heap.size + 1 + 1 := by omega
  go_wp2_with fail
  refine (check_ok c m t _ hm0 hm h2).mono ?_
  rintro e w2 ⟨rfl, hm2⟩
  have mz : Mo w1 w2 := Mo.trans (by repeat (first | with_reducible exact Mo.refl _ | with_reducible apply Mo.drew | with_reducible apply Mo.alloc)) hm2
  clear ca0 ca1 ca2 ca3 ca4 ca5 fa sa sxa sya cb0 cb1 cb2 cb3 cb4 cb5 fb sb sxb syb
  have Qa := Qa.mo mz
  have Qb := Qb.mo mz
  have M := M.trans mz
  clear hm2 mz
  have Oa := Qa
  obtain ⟨⟨ca0, ca1, ca2, ca3, ca4, ca5⟩, fa, sa⟩ := Oa
  have fa := fun o => fa o
  have sxa : w.heap.size < w2.heap.size + 1 := by omega
  have sya : w.heap.size < w2.heap.size + 1 + 1 := by omega
  have Ob := Qb
  obtain ⟨⟨cb0, cb1, cb2, cb3, cb4, cb5⟩, fb, sb⟩ := Ob
  have fb := fun o => fb o
  have sxb : w.heap.size + 1 < w2.heap.size + 1 := by omega
  have syb : w.heap.size + 1 < w2.heap.size + 1 + 1 := by omega
  go_wp2
  go_ret
  exact ⟨rfl, M⟩
set_option maxHeartbeats 4000000 in
theorem both_no1 (b : Bool) (n s : Int) (c : Bool) (m t : Int) (w : World) (hn0 : 0 ≤ n) (hn : n < MM) (_hm0 : 0 ≤ m) (_hm : m < MM) (h1 : ck b n s ≠ 0)  :
    Calls Try.prog 75 #[dc b n s, dc c m t] w fun e w' => e = .returned (.int .i64 20) ∧ Mo w w' := by
  go_enter Try.func75, Try.ntmps75
  go_wp2_with fail
  refine (check_no b n s _ hn0 hn h1).mono ?_
  rintro e w1 ⟨rfl, hm1⟩
  have mz : Mo w w1 := Mo.trans (by repeat (first | with_reducible exact Mo.refl _ | with_reducible apply Mo.drew | with_reducible apply Mo.alloc)) hm1
  have M := mz
  have Qa : AtD w1 (w.heap.size) b n s := AtD.mo ⟨by simp [go_sem], fun o => by simp [go_sem], by simp <;> omega⟩ hm1
  have Qb : AtD w1 (w.heap.size + 1) c m t := AtD.mo ⟨by simp [go_sem], fun o => by simp [go_sem], by simp <;> omega⟩ hm1
  clear hm1 mz
  have Oa := Qa
  obtain ⟨⟨ca0, ca1, ca2, ca3, ca4, ca5⟩, fa, sa⟩ := Oa
  have fa := fun o => fa o
  have sxa : w.heap.size < w1.heap.size + 1 := by omega
  have sya : w.heap.size < w1.heap.size + 1 + 1 := by omega
  have Ob := Qb
  obtain ⟨⟨cb0, cb1, cb2, cb3, cb4, cb5⟩, fb, sb⟩ := Ob
  have fb := fun o => fb o
  have sxb : w.heap.size + 1 < w1.heap.size + 1 := by omega
  have syb : w.heap.size + 1 < w1.heap.size + 1 + 1 := by omega
  go_wp2
  go_ret
  exact ⟨rfl, M⟩
set_option maxHeartbeats 4000000 in
theorem both_no2 (b : Bool) (n s : Int) (c : Bool) (m t : Int) (w : World) (hn0 : 0 ≤ n) (hn : n < MM) (hm0 : 0 ≤ m) (hm : m < MM) (h1 : ck b n s = 0) (h2 : ck c m t ≠ 0) :
    Calls Try.prog 75 #[dc b n s, dc c m t] w fun e w' => e = .returned (.int .i64 20) ∧ Mo w w' := by
  go_enter Try.func75, Try.ntmps75
  go_wp2_with fail
  refine (check_ok b n s _ hn0 hn h1).mono ?_
  rintro e w1 ⟨rfl, hm1⟩
  have mz : Mo w w1 := Mo.trans (by repeat (first | with_reducible exact Mo.refl _ | with_reducible apply Mo.drew | with_reducible apply Mo.alloc)) hm1
  have M := mz
  have Qa : AtD w1 (w.heap.size) b n s := AtD.mo ⟨by simp [go_sem], fun o => by simp [go_sem], by simp <;> omega⟩ hm1
  have Qb : AtD w1 (w.heap.size + 1) c m t := AtD.mo ⟨by simp [go_sem], fun o => by simp [go_sem], by simp <;> omega⟩ hm1
  clear hm1 mz
  have Oa := Qa
  obtain ⟨⟨ca0, ca1, ca2, ca3, ca4, ca5⟩, fa, sa⟩ := Oa
  have fa := fun o => fa o
  have sxa : w.heap.size < w1.heap.size + 1 := by omega
  have sya : w.heap.size < w1.heap.size + 1 + 1 := by omega
  have Ob := Qb
  obtain ⟨⟨cb0, cb1, cb2, cb3, cb4, cb5⟩, fb, sb⟩ := Ob
  have fb := fun o => fb o
  have sxb : w.heap.size + 1 < w1.heap.size + 1 := by omega
  have syb : w.heap.size + 1 < w1.heap.size + 1 + 1 := by omega
  go_wp2_with fail
  refine (check_no c m t _ hm0 hm h2).mono ?_
  rintro e w2 ⟨rfl, hm2⟩
  have mz : Mo w1 w2 := Mo.trans (by repeat (first | with_reducible exact Mo.refl _ | with_reducible apply Mo.drew | with_reducible apply Mo.alloc)) hm2
  clear ca0 ca1 ca2 ca3 ca4 ca5 fa sa sxa sya cb0 cb1 cb2 cb3 cb4 cb5 fb sb sxb syb
  have Qa := Qa.mo mz
  have Qb := Qb.mo mz
  have M := M.trans mz
  clear hm2 mz
  have Oa := Qa
  obtain ⟨⟨ca0, ca1, ca2, ca3, ca4, ca5⟩, fa, sa⟩ := Oa
  have fa := fun o => fa o
  have sxa : w.heap.size < w2.heap.size + 1 := by omega
  have sya : w.heap.size < w2.heap.size + 1 + 1 := by omega
  have Ob := Qb
  obtain ⟨⟨cb0, cb1, cb2, cb3, cb4, cb5⟩, fb, sb⟩ := Ob
  have fb := fun o => fb o
  have sxb : w.heap.size + 1 < w2.heap.size + 1 := by omega
  have syb : w.heap.size + 1 < w2.heap.size + 1 + 1 := by omega
  go_wp2
  go_ret
  exact ⟨rfl, M⟩
theorem both_no (b : Bool) (n s : Int) (c : Bool) (m t : Int) (w : World) (hn0 : 0 ≤ n) (hn : n < MM) (hm0 : 0 ≤ m) (hm : m < MM) (h : ¬ (ck b n s = 0 ∧ ck c m t = 0)) :
    Calls Try.prog 75 #[dc b n s, dc c m t] w fun e w' => e = .returned (.int .i64 20) ∧ Mo w w' := by
  by_cases h1 : ck b n s = 0
  · exact both_no2 b n s c m t w hn0 hn hm0 hm h1 (fun h2 => h ⟨h1, h2⟩)
  · exact both_no1 b n s c m t w hn0 hn hm0 hm h1
set_option maxHeartbeats 4000000 in
theorem neg_no (b : Bool) (n s : Int) (w : World) (hn0 : 0 ≤ n) (hn : n < MM) (h : ck b n s ≠ 0) :
    Calls Try.prog 47 #[dc b n s] w fun e w' => e = .returned (er 20) ∧ Mo w w' := by
  go_enter Try.func47, Try.ntmps47
  go_wp2_with fail
  refine (check_no b n s _ hn0 hn h).mono ?_
  rintro e w1 ⟨rfl, hm1⟩
  have mz : Mo w w1 := Mo.trans (by repeat (first | with_reducible exact Mo.refl _ | with_reducible apply Mo.drew | with_reducible apply Mo.alloc)) hm1
  have M := mz
  have Qa : AtD w1 (w.heap.size) b n s := AtD.mo ⟨by simp [go_sem], fun o => by simp [go_sem], by simp <;> omega⟩ hm1
  have Qr : AtD w1 (w.heap.size + 1) false 0 0 := AtD.mo ⟨by simp [go_sem, zl0, zl1, zl2, zl3], fun o => by simp [go_sem], by simp <;> omega⟩ hm1
  clear hm1 mz
  have Oa := Qa
  obtain ⟨⟨ca0, ca1, ca2, ca3, ca4, ca5⟩, fa, sa⟩ := Oa
  have fa := fun o => fa o
  have sxa : w.heap.size < w1.heap.size + 1 := by omega
  have sya : w.heap.size < w1.heap.size + 1 + 1 := by omega
  have Or := Qr
  obtain ⟨⟨cr0, cr1, cr2, cr3, cr4, cr5⟩, fr, sr⟩ := Or
  have fr := fun o => fr o
  have sxr : w.heap.size + 1 < w1.heap.size + 1 := by omega
  have syr : w.heap.size + 1 < w1.heap.size + 1 + 1 := by omega
  go_wp2
  refine bodyPost_ret (v := er 20) (by simp [results, Try.results47, go_sem, *]) rfl ?_
  refine ⟨rfl, ?_⟩
  repeat (first | with_reducible exact M | with_reducible exact Mo.refl _ | with_reducible apply Mo.drew | with_reducible apply Mo.drewN | with_reducible apply Mo.alloc | with_reducible refine Mo.setCell ?_ (by simp <;> omega) _)
set_option maxHeartbeats 4000000 in
theorem neg_ok (b : Bool) (n s : Int) (w : World) (hn0 : 0 ≤ n) (hn : n < MM) (h : ck b n s = 0) :
    Calls Try.prog 47 #[dc b n s] w fun e w' => e = .returned (.tuple #[dc (!b && !decide (n = 0)) n s, .int .i64 0]) ∧ Mo w w' := by
  go_enter Try.func47, Try.ntmps47
  go_wp2_with fail
  refine (check_ok b n s _ hn0 hn h).mono ?_
  rintro e w1 ⟨rfl, hm1⟩
  have mz : Mo w w1 := Mo.trans (by repeat (first | with_reducible exact Mo.refl _ | with_reducible apply Mo.drew | with_reducible apply Mo.alloc)) hm1
  have M := mz
  have Qa : AtD w1 (w.heap.size) b n s := AtD.mo ⟨by simp [go_sem], fun o => by simp [go_sem], by simp <;> omega⟩ hm1
  have Qr : AtD w1 (w.heap.size + 1) false 0 0 := AtD.mo ⟨by simp [go_sem, zl0, zl1, zl2, zl3], fun o => by simp [go_sem], by simp <;> omega⟩ hm1
  clear hm1 mz
  have Oa := Qa
  obtain ⟨⟨ca0, ca1, ca2, ca3, ca4, ca5⟩, fa, sa⟩ := Oa
  have fa := fun o => fa o
  have sxa : w.heap.size < w1.heap.size + 1 := by omega
  have sya : w.heap.size < w1.heap.size + 1 + 1 := by omega
  have Or := Qr
  obtain ⟨⟨cr0, cr1, cr2, cr3, cr4, cr5⟩, fr, sr⟩ := Or
  have fr := fun o => fr o
  have sxr : w.heap.size + 1 < w1.heap.size + 1 := by omega
  have syr : w.heap.size + 1 < w1.heap.size + 1 + 1 := by omega
  go_wp2_with fail
  refine (signed_n (!b) n s _ hn0 hn).mono ?_
  rintro e w2 ⟨rfl, hm2⟩
  have mz : Mo w1 w2 := Mo.trans (by repeat (first | with_reducible exact Mo.refl _ | with_reducible apply Mo.drew | with_reducible apply Mo.alloc)) hm2
  clear ca0 ca1 ca2 ca3 ca4 ca5 fa sa sxa sya cr0 cr1 cr2 cr3 cr4 cr5 fr sr sxr syr
  have Qa := Qa.mo mz
  have Qr := Qr.mo mz
  have M := M.trans mz
  clear hm2 mz
  have Oa := Qa
  obtain ⟨⟨ca0, ca1, ca2, ca3, ca4, ca5⟩, fa, sa⟩ := Oa
  have fa := fun o => fa o
  have sxa : w.heap.size < w2.heap.size + 1 := by omega
  have sya : w.heap.size < w2.heap.size + 1 + 1 := by omega
  have Or := Qr
  obtain ⟨⟨cr0, cr1, cr2, cr3, cr4, cr5⟩, fr, sr⟩ := Or
  have fr := fun o => fr o
  have sxr : w.heap.size + 1 < w2.heap.size + 1 := by omega
  have syr : w.heap.size + 1 < w2.heap.size + 1 + 1 := by omega
  go_wp2
  refine bodyPost_ret (v := .tuple #[dc (!b && !decide (n = 0)) n s, .int .i64 0]) (by simp [results, Try.results47, go_sem, *]) rfl ?_
  refine ⟨rfl, ?_⟩
  repeat (first | with_reducible exact M | with_reducible exact Mo.refl _ | with_reducible apply Mo.drew | with_reducible apply Mo.drewN | with_reducible apply Mo.alloc | with_reducible refine Mo.setCell ?_ (by simp <;> omega) _)
set_option maxHeartbeats 4000000 in
theorem abs_no (b : Bool) (n s : Int) (w : World) (hn0 : 0 ≤ n) (hn : n < MM) (h : ck b n s ≠ 0) :
    Calls Try.prog 49 #[dc b n s] w fun e w' => e = .returned (er 20) ∧ Mo w w' := by
  go_enter Try.func49, Try.ntmps49
  go_wp2_with fail
  refine (check_no b n s _ hn0 hn h).mono ?_
  rintro e w1 ⟨rfl, hm1⟩
  have mz : Mo w w1 := Mo.trans (by repeat (first | with_reducible exact Mo.refl _ | with_reducible apply Mo.drew | with_reducible apply Mo.alloc)) hm1
  have M := mz
  have Qa : AtD w1 (w.heap.size) b n s := AtD.mo ⟨by simp [go_sem], fun o => by simp [go_sem], by simp <;> omega⟩ hm1
  have Qr : AtD w1 (w.heap.size + 1) false 0 0 := AtD.mo ⟨by simp [go_sem, zl0, zl1, zl2, zl3], fun o => by simp [go_sem], by simp <;> omega⟩ hm1
  clear hm1 mz
  have Oa := Qa
  obtain ⟨⟨ca0, ca1, ca2, ca3, ca4, ca5⟩, fa, sa⟩ := Oa
  have fa := fun o => fa o
  have sxa : w.heap.size < w1.heap.size + 1 := by omega
  have sya : w.heap.size < w1.heap.size + 1 + 1 := by omega
  have Or := Qr
  obtain ⟨⟨cr0, cr1, cr2, cr3, cr4, cr5⟩, fr, sr⟩ := Or
  have fr := fun o => fr o
  have sxr : w.heap.size + 1 < w1.heap.size + 1 := by omega
  have syr : w.heap.size + 1 < w1.heap.size + 1 + 1 := by omega
  go_wp2
  refine bodyPost_ret (v := er 20) (by simp [results, Try.results49, go_sem, *]) rfl ?_
  refine ⟨rfl, ?_⟩
  repeat (first | with_reducible exact M | with_reducible exact Mo.refl _ | with_reducible apply Mo.drew | with_reducible apply Mo.drewN | with_reducible apply Mo.alloc | with_reducible refine Mo.setCell ?_ (by simp <;> omega) _)
set_option maxHeartbeats 4000000 in
theorem abs_ok (b : Bool) (n s : Int) (w : World) (hn0 : 0 ≤ n) (hn : n < MM) (h : ck b n s = 0) :
    Calls Try.prog 49 #[dc b n s] w fun e w' => e = .returned (.tuple #[dc (false && !decide (n = 0)) n s, .int .i64 0]) ∧ Mo w w' := by
  go_enter Try.func49, Try.ntmps49
  go_wp2_with fail
  refine (check_ok b n s _ hn0 hn h).mono ?_
  rintro e w1 ⟨rfl, hm1⟩
  have mz : Mo w w1 := Mo.trans (by repeat (first | with_reducible exact Mo.refl _ | with_reducible apply Mo.drew | with_reducible apply Mo.alloc)) hm1
  have M := mz
  have Qa : AtD w1 (w.heap.size) b n s := AtD.mo ⟨by simp [go_sem], fun o => by simp [go_sem], by simp <;> omega⟩ hm1
  have Qr : AtD w1 (w.heap.size + 1) false 0 0 := AtD.mo ⟨by simp [go_sem, zl0, zl1, zl2, zl3], fun o => by simp [go_sem], by simp <;> omega⟩ hm1
  clear hm1 mz
  have Oa := Qa
  obtain ⟨⟨ca0, ca1, ca2, ca3, ca4, ca5⟩, fa, sa⟩ := Oa
  have fa := fun o => fa o
  have sxa : w.heap.size < w1.heap.size + 1 := by omega
  have sya : w.heap.size < w1.heap.size + 1 + 1 := by omega
  have Or := Qr
  obtain ⟨⟨cr0, cr1, cr2, cr3, cr4, cr5⟩, fr, sr⟩ := Or
  have fr := fun o => fr o
  have sxr : w.heap.size + 1 < w1.heap.size + 1 := by omega
  have syr : w.heap.size + 1 < w1.heap.size + 1 + 1 := by omega
  go_wp2_with fail
  refine (signed_n (false) n s _ hn0 hn).mono ?_
  rintro e w2 ⟨rfl, hm2⟩
  have mz : Mo w1 w2 := Mo.trans (by repeat (first | with_reducible exact Mo.refl _ | with_reducible apply Mo.drew | with_reducible apply Mo.alloc)) hm2
  clear ca0 ca1 ca2 ca3 ca4 ca5 fa sa sxa sya cr0 cr1 cr2 cr3 cr4 cr5 fr sr sxr syr
  have Qa := Qa.mo mz
  have Qr := Qr.mo mz
  have M := M.trans mz
  clear hm2 mz
  have Oa := Qa
  obtain ⟨⟨ca0, ca1, ca2, ca3, ca4, ca5⟩, fa, sa⟩ := Oa
  have fa := fun o => fa o
  have sxa : w.heap.size < w2.heap.size + 1 := by omega
  have sya : w.heap.size < w2.heap.size + 1 + 1 := by omega
  have Or := Qr
  obtain ⟨⟨cr0, cr1, cr2, cr3, cr4, cr5⟩, fr, sr⟩ := Or
  have fr := fun o => fr o
  have sxr : w.heap.size + 1 < w2.heap.size + 1 := by omega
  have syr : w.heap.size + 1 < w2.heap.size + 1 + 1 := by omega
  go_wp2
  refine bodyPost_ret (v := .tuple #[dc (false && !decide (n = 0)) n s, .int .i64 0]) (by simp [results, Try.results49, go_sem, *]) rfl ?_
  refine ⟨rfl, ?_⟩
  repeat (first | with_reducible exact M | with_reducible exact Mo.refl _ | with_reducible apply Mo.drew | with_reducible apply Mo.drewN | with_reducible apply Mo.alloc | with_reducible refine Mo.setCell ?_ (by simp <;> omega) _)
/-- A number's sign. -/
def sg (b : Bool) (n : Int) : Int := if n = 0 then 0 else if b then -1 else 1
set_option maxHeartbeats 4000000 in
theorem sign_n (b : Bool) (n s : Int) (w : World) (hn0 : 0 ≤ n) (hn : n < MM) : Calls Try.prog 31 #[dc b n s] w fun e w' => e = .returned (.int .i64 (sg b n)) ∧ Mo w w' := by
  have q4 := eq4
  have z4 := zb hn0 hn
  cases hz : decide (n = 0) <;> cases hb : b
  all_goals
    rw [hz] at z4
    have hz2 : Hid _ := hz
    clear hz
    go_enter Try.func31, Try.ntmps31
    go_wp2
    go_ret
    exact ⟨by have := hz2.out; simp at this; simp [sg, this], (Mo.refl _).alloc _ _⟩
end Go.Proofs.Ytoiiekmkcpcbgaa
/-
  decimal.lift: the walk.
-/
namespace Go.Proofs.Ytoiiekmkcpcbgaa
open Go.RowKit
theorem ten_bd (k : Nat) (h : k ≤ 77) : (0 : Int) < 10 ^ k ∧ (10 : Int) ^ k < MM := by
  refine ⟨Int.pow_pos (by decide), ?_⟩
  have h1 : (10 : Nat) ^ k ≤ 10 ^ 77 := Nat.pow_le_pow_right (by decide) h
  have h2 : (10 : Nat) ^ 77 < 115792089237316195423570985008687907853269984665640564039457584007913129639936 := by decide
  have h3 : ((10 ^ k : Nat) : Int) = (10 : Int) ^ k := by rw [Int.natCast_pow]; rfl
  rw [← h3]
  unfold MM
  omega
set_option maxHeartbeats 4000000 in
theorem lift_n (b : Bool) (n s S : Int) (k : Nat) (w : World) (hn0 : 0 ≤ n) (hn : n < MM) (hk : S - s = (k : Int)) (hk7 : k ≤ 77) :
    Calls Try.prog 76 #[dc b n s, .int .i64 S] w fun e w' => e = .returned (dw (n * 10 ^ k)) ∧ Mo w w' := by
  have wk : IntKind.i64.wrap (k : Int) = (k : Int) := by rw [IntKind.wrap_i64]; omega
  have t0 := (ten_bd k hk7).1
  have t1 := (ten_bd k hk7).2
  go_enter Try.func76, Try.ntmps76
  have a : Mo w ((((w).alloc (.cells #[.bool b, .int .u64 (l0 (n)), .int .u64 (l1 (n)), .int .u64 (l2 (n)), .int .u64 (l3 (n)), .int .i64 (s)] 40))).alloc (.cells #[.int .u64 0, .int .u64 0, .int .u64 0, .int .u64 0, .int .u64 0, .int .u64 0, .int .u64 0, .int .u64 0] 81)) := by repeat (first | with_reducible exact Mo.refl _ | with_reducible apply Mo.alloc)
  have M := a
  have Qd : AtD ((((w).alloc (.cells #[.bool b, .int .u64 (l0 (n)), .int .u64 (l1 (n)), .int .u64 (l2 (n)), .int .u64 (l3 (n)), .int .i64 (s)] 40))).alloc (.cells #[.int .u64 0, .int .u64 0, .int .u64 0, .int .u64 0, .int .u64 0, .int .u64 0, .int .u64 0, .int .u64 0] 81)) (w.heap.size) b n s := ⟨by simp [go_sem], fun o => by simp [go_sem], by simp <;> omega⟩
  have Qr : AtW ((((w).alloc (.cells #[.bool b, .int .u64 (l0 (n)), .int .u64 (l1 (n)), .int .u64 (l2 (n)), .int .u64 (l3 (n)), .int .i64 (s)] 40))).alloc (.cells #[.int .u64 0, .int .u64 0, .int .u64 0, .int .u64 0, .int .u64 0, .int .u64 0, .int .u64 0, .int .u64 0] 81)) (w.heap.size + 1) 0 := ⟨by simp [go_sem, zl0, zl1, zl2, zl3], fun o => by simp [go_sem], by simp <;> omega⟩
  clear a
  go_upto_region 1 with fail
  generalize ((((w).alloc (.cells #[.bool b, .int .u64 (l0 (n)), .int .u64 (l1 (n)), .int .u64 (l2 (n)), .int .u64 (l3 (n)), .int .i64 (s)] 40))).alloc (.cells #[.int .u64 0, .int .u64 0, .int .u64 0, .int .u64 0, .int .u64 0, .int .u64 0, .int .u64 0, .int .u64 0] 81)) = W0 at *
  have Od := Qd
  obtain ⟨⟨cd0, cd1, cd2, cd3, cd4, cd5⟩, fd, sd⟩ := Od
  have fd := fun o => fd o
  have sxd : w.heap.size < W0.heap.size + 1 := by omega
  have syd : w.heap.size < W0.heap.size + 1 + 1 := by omega
  have Or := Qr
  obtain ⟨⟨cr0, cr1, cr2, cr3, cr4, cr5, cr6, cr7⟩, fr, sr⟩ := Or
  have fr := fun o => fr o
  have sxr : w.heap.size + 1 < W0.heap.size + 1 := by omega
  have syr : w.heap.size + 1 < W0.heap.size + 1 + 1 := by omega
  go_region_with
    (first | (go_at_call 74; refine (dten_n k _ hk7).mono ?_; rintro e w1 ⟨rfl, hm1⟩; have m1 : Mo W0 w1 := Mo.trans (by repeat (first | with_reducible exact Mo.refl _ | with_reducible apply Mo.drew | with_reducible apply Mo.alloc)) hm1; have d1 := Qd.mo m1; obtain ⟨⟨x0, x1, x2, x3, x4, x5⟩, _, xs⟩ := d1; have r1 := Qr.mo m1; obtain ⟨⟨y0, y1, y2, y3, y4, y5, y6, y7⟩, yf, ys⟩ := r1; have yf := fun o => yf o) | (go_at_call 87; refine (mulDouble_n n (10 ^ k) _ hn0 hn (by omega) t1).mono ?_; rintro e w2 ⟨rfl, hm2⟩; have m2 : Mo w1 w2 := Mo.trans (by repeat (first | with_reducible exact Mo.refl _ | with_reducible apply Mo.drew | with_reducible apply Mo.alloc)) hm2; have m3 := m1.trans m2; have r2 := Qr.mo m3; obtain ⟨⟨z0, z1, z2, z3, z4, z5, z6, z7⟩, zf, zs⟩ := r2; have zf := fun o => zf o))
  all_goals
    go_wp2
    refine bodyPost_ret (v := dw (n * 10 ^ k)) (by simp [results, Try.results76, go_sem, *]) rfl ?_
    have M := M.trans m3
    refine ⟨rfl, ?_⟩
    repeat (first | with_reducible exact M | with_reducible exact Mo.refl _ | with_reducible apply Mo.drew | with_reducible apply Mo.drewN | with_reducible apply Mo.alloc | with_reducible refine Mo.setCell ?_ (by simp <;> omega) _)
end Go.Proofs.Ytoiiekmkcpcbgaa
/-
  decimal.addDouble: the walk.
-/
namespace Go.Proofs.Ytoiiekmkcpcbgaa
open Go.RowKit
theorem add_m (A B : Int) (w : World) : Calls Try.prog 60 #[nv A, nv B] w fun e w' => e = .returned (.tuple #[nv (A % MM + B % MM), .bool (ov (A % MM + B % MM))]) ∧ Mo w w' := by
  have h := add_any (l0 A) (l1 A) (l2 A) (l3 A) (l0 B) (l1 B) (l2 B) (l3 B) w (u4_lb A) (u4_lb B)
  rw [vl_nv, vl_nv] at h
  exact h
theorem dsum {X Y : Int} (hX0 : 0 ≤ X) (hX : X < MM * MM) (hY0 : 0 ≤ Y) (hY : Y < MM * MM) :
    nv (X % MM + Y % MM) = nv (X + Y) ∧ ((ov (X % MM + Y % MM) = false ∧ nv (X / MM % MM + Y / MM % MM) = nv ((X + Y) / MM)) ∨ (ov (X % MM + Y % MM) = true ∧ nv ((X / MM % MM + Y / MM % MM) % MM + 1 % MM) = nv ((X + Y) / MM))) := by
  have p : (0 : Int) < MM := by decide
  have a1 := Int.ediv_nonneg hX0 (show (0 : Int) ≤ MM by omega)
  have a2 := Int.ediv_lt_of_lt_mul p hX
  have b1 := Int.ediv_nonneg hY0 (show (0 : Int) ≤ MM by omega)
  have b2 := Int.ediv_lt_of_lt_mul p hY
  rw [Int.emod_eq_of_lt a1 a2, Int.emod_eq_of_lt b1 b2]
  refine ⟨nv_add_mod X Y, ?_⟩
  have eX := Int.mul_ediv_add_emod X MM
  have eY := Int.mul_ediv_add_emod Y MM
  have cX := Int.emod_nonneg X (show MM ≠ 0 by omega)
  have dX := Int.emod_lt_of_pos X p
  have cY := Int.emod_nonneg Y (show MM ≠ 0 by omega)
  have dY := Int.emod_lt_of_pos Y p
  by_cases h : MM ≤ X % MM + Y % MM
  · refine Or.inr ⟨decide_eq_true h, ?_⟩
    rw [nv_add_mod]
    congr 1
    unfold MM at *
    omega
  · refine Or.inl ⟨decide_eq_false h, ?_⟩
    congr 1
    unfold MM at *
    omega
theorem AtW.set178 {w : World} {k j : Nat} {X : Int} (h : AtW w j X) (hk : j ≠ k) (o : Nat) (v : Value) : AtW (w.setCell ⟨k, o, none⟩ v) j X := by
  obtain ⟨⟨b0, b1, b2, b3, b4, b5, b6, b7⟩, f, s⟩ := h
  refine ⟨by simp [go_sem, *], fun o => by simp [World.frozen?_setCell, f o], by simpa [World.setCell] using s⟩
theorem dw_of78 {h l Z : Int} (h1 : nv h = nv (Z / MM)) (h2 : nv l = nv Z) : (Value.agg #[.int .u64 (l0 (h)), .int .u64 (l1 (h)), .int .u64 (l2 (h)), .int .u64 (l3 (h)), .int .u64 (l0 (l)), .int .u64 (l1 (l)), .int .u64 (l2 (l)), .int .u64 (l3 (l))]) = dw Z := by
  simp [nv] at h1 h2
  simp [h1, h2]
set_option maxHeartbeats 4000000 in
theorem addDouble_n (X Y : Int) (w : World) (hX0 : 0 ≤ X) (hX : X < MM * MM) (hY0 : 0 ≤ Y) (hY : Y < MM * MM) :
    Calls Try.prog 78 #[dw X, dw Y] w fun e w' => e = .returned (dw (X + Y)) ∧ Mo w w' := by
  obtain ⟨f1, f2⟩ := dsum hX0 hX hY0 hY
  have F1 : Hid _ := f1
  clear f1
  go_enter Try.func78, Try.ntmps78
  go_wp2_with fail
  refine (add_m X Y _).mono ?_
  rintro e w1 ⟨rfl, hm1⟩
  have m : Mo w w1 := Mo.trans (by repeat (first | with_reducible exact Mo.refl _ | with_reducible apply Mo.drew | with_reducible apply Mo.alloc)) hm1
  have M := m
  have Qx : AtW w1 (w.heap.size) X := AtW.mo ⟨by simp [go_sem], fun o => by simp [go_sem], by simp <;> omega⟩ hm1
  have Qy : AtW w1 (w.heap.size + 1) Y := AtW.mo ⟨by simp [go_sem], fun o => by simp [go_sem], by simp <;> omega⟩ hm1
  have Qr : AtW w1 (w.heap.size + 1 + 1) 0 := AtW.mo ⟨by simp [go_sem, zl0, zl1, zl2, zl3], fun o => by simp [go_sem], by simp <;> omega⟩ hm1
  clear hm1 m
  have Ox := Qx
  obtain ⟨⟨cx0, cx1, cx2, cx3, cx4, cx5, cx6, cx7⟩, fx, sx⟩ := Ox
  have fx := fun o => fx o
  have sxx : w.heap.size < w1.heap.size + 1 := by omega
  have syx : w.heap.size < w1.heap.size + 1 + 1 := by omega
  have Oy := Qy
  obtain ⟨⟨cy0, cy1, cy2, cy3, cy4, cy5, cy6, cy7⟩, fy, sy⟩ := Oy
  have fy := fun o => fy o
  have sxy : w.heap.size + 1 < w1.heap.size + 1 := by omega
  have syy : w.heap.size + 1 < w1.heap.size + 1 + 1 := by omega
  have Or := Qr
  obtain ⟨⟨cr0, cr1, cr2, cr3, cr4, cr5, cr6, cr7⟩, fr, sr⟩ := Or
  have fr := fun o => fr o
  have sxr : w.heap.size + 1 + 1 < w1.heap.size + 1 := by omega
  have syr : w.heap.size + 1 + 1 < w1.heap.size + 1 + 1 := by omega
  obtain ⟨lo, hlo⟩ : ∃ lo, lo = X % MM + Y % MM := ⟨_, rfl⟩
  rw [← hlo] at f2 F1 ⊢
  have HL : Hid _ := hlo
  clear hlo
  go_wp2_with fail
  refine (add_m (X / MM) (Y / MM) _).mono ?_
  rintro e w2 ⟨rfl, hm2⟩
  have m : Mo w1 w2 := Mo.trans (by repeat (first | with_reducible exact Mo.refl _ | with_reducible apply Mo.drew | with_reducible apply Mo.alloc)) hm2
  clear cx0 cx1 cx2 cx3 cx4 cx5 cx6 cx7 fx sx sxx syx cy0 cy1 cy2 cy3 cy4 cy5 cy6 cy7 fy sy sxy syy cr0 cr1 cr2 cr3 cr4 cr5 cr6 cr7 fr sr sxr syr
  have Qx := Qx.mo m
  have Qy := Qy.mo m
  have Qr := Qr.mo m
  have M := M.trans m
  have Ql : AtN w2 (w1.heap.size) lo := AtN.mo ⟨by simp [At4, go_sem], fun o => by simp [go_sem], by simp <;> omega⟩ hm2
  clear hm2 m
  have Ox := Qx
  obtain ⟨⟨cx0, cx1, cx2, cx3, cx4, cx5, cx6, cx7⟩, fx, sx⟩ := Ox
  have fx := fun o => fx o
  have sxx : w.heap.size < w2.heap.size + 1 := by omega
  have syx : w.heap.size < w2.heap.size + 1 + 1 := by omega
  have Oy := Qy
  obtain ⟨⟨cy0, cy1, cy2, cy3, cy4, cy5, cy6, cy7⟩, fy, sy⟩ := Oy
  have fy := fun o => fy o
  have sxy : w.heap.size + 1 < w2.heap.size + 1 := by omega
  have syy : w.heap.size + 1 < w2.heap.size + 1 + 1 := by omega
  have Or := Qr
  obtain ⟨⟨cr0, cr1, cr2, cr3, cr4, cr5, cr6, cr7⟩, fr, sr⟩ := Or
  have fr := fun o => fr o
  have sxr : w.heap.size + 1 + 1 < w2.heap.size + 1 := by omega
  have syr : w.heap.size + 1 + 1 < w2.heap.size + 1 + 1 := by omega
  have Ol := Ql
  obtain ⟨⟨cl0, cl1, cl2, cl3⟩, fl, sl⟩ := Ol
  have fl := fun o => fl o
  have sxl : w1.heap.size < w2.heap.size + 1 := by omega
  have syl : w1.heap.size < w2.heap.size + 1 + 1 := by omega
  obtain ⟨hi, hhi⟩ : ∃ hi, hi = X / MM % MM + Y / MM % MM := ⟨_, rfl⟩
  rw [← hhi] at f2 ⊢
  have HH : Hid _ := hhi
  clear hhi
  rcases f2 with ⟨g1, g2⟩ | ⟨g1, g2⟩
  · have G2 : Hid _ := g2
    clear g2
    have a : Mo w2 ((w2).alloc (.cells #[.int .u64 (l0 (hi)), .int .u64 (l1 (hi)), .int .u64 (l2 (hi)), .int .u64 (l3 (hi))] 24)) := by repeat (first | with_reducible exact Mo.refl _ | with_reducible apply Mo.alloc)
    have zW0x := sx
    have zW0y := sy
    have zW0r := sr
    have zW0l := sl
    clear cx0 cx1 cx2 cx3 cx4 cx5 cx6 cx7 fx sx sxx syx cy0 cy1 cy2 cy3 cy4 cy5 cy6 cy7 fy sy sxy syy cr0 cr1 cr2 cr3 cr4 cr5 cr6 cr7 fr sr sxr syr cl0 cl1 cl2 cl3 fl sl sxl syl
    have Qx := Qx.mo a
    have Qy := Qy.mo a
    have Qr := Qr.mo a
    have Ql := Ql.mo a
    have M := M.trans a
    have Qh : AtN ((w2).alloc (.cells #[.int .u64 (l0 (hi)), .int .u64 (l1 (hi)), .int .u64 (l2 (hi)), .int .u64 (l3 (hi))] 24)) (w2.heap.size) hi := ⟨by simp [At4, go_sem], fun o => by simp [go_sem], by simp <;> omega⟩
    clear a
    go_upto_region 5 with fail
    generalize ((w2).alloc (.cells #[.int .u64 (l0 (hi)), .int .u64 (l1 (hi)), .int .u64 (l2 (hi)), .int .u64 (l3 (hi))] 24)) = W0 at *
    have Ox := Qx
    obtain ⟨⟨cx0, cx1, cx2, cx3, cx4, cx5, cx6, cx7⟩, fx, sx⟩ := Ox
    have fx := fun o => fx o
    have sxx : w.heap.size < W0.heap.size + 1 := by omega
    have syx : w.heap.size < W0.heap.size + 1 + 1 := by omega
    have Oy := Qy
    obtain ⟨⟨cy0, cy1, cy2, cy3, cy4, cy5, cy6, cy7⟩, fy, sy⟩ := Oy
    have fy := fun o => fy o
    have sxy : w.heap.size + 1 < W0.heap.size + 1 := by omega
    have syy : w.heap.size + 1 < W0.heap.size + 1 + 1 := by omega
    have Or := Qr
    obtain ⟨⟨cr0, cr1, cr2, cr3, cr4, cr5, cr6, cr7⟩, fr, sr⟩ := Or
    have fr := fun o => fr o
    have sxr : w.heap.size + 1 + 1 < W0.heap.size + 1 := by omega
    have syr : w.heap.size + 1 + 1 < W0.heap.size + 1 + 1 := by omega
    have Ol := Ql
    obtain ⟨⟨cl0, cl1, cl2, cl3⟩, fl, sl⟩ := Ol
    have fl := fun o => fl o
    have sxl : w1.heap.size < W0.heap.size + 1 := by omega
    have syl : w1.heap.size < W0.heap.size + 1 + 1 := by omega
    have Oh := Qh
    obtain ⟨⟨ch0, ch1, ch2, ch3⟩, fh, sh⟩ := Oh
    have fh := fun o => fh o
    have sxh : w2.heap.size < W0.heap.size + 1 := by omega
    have syh : w2.heap.size < W0.heap.size + 1 + 1 := by omega
    go_wp2
    refine bodyPost_ret (v := .agg #[.int .u64 (l0 (hi)), .int .u64 (l1 (hi)), .int .u64 (l2 (hi)), .int .u64 (l3 (hi)), .int .u64 (l0 (lo)), .int .u64 (l1 (lo)), .int .u64 (l2 (lo)), .int .u64 (l3 (lo))]) (by simp [results, Try.results78, go_sem, *]) rfl ?_
    refine ⟨by rw [dw_of78 G2.out F1.out], ?_⟩
    repeat (first | with_reducible exact M | with_reducible exact Mo.refl _ | with_reducible apply Mo.drew | with_reducible apply Mo.drewN | with_reducible apply Mo.alloc | with_reducible refine Mo.setCell ?_ (by simp <;> omega) _)
  · have G2 : Hid _ := g2
    clear g2
    have a : Mo w2 ((w2).alloc (.cells #[.int .u64 (l0 (hi)), .int .u64 (l1 (hi)), .int .u64 (l2 (hi)), .int .u64 (l3 (hi))] 24)) := by repeat (first | with_reducible exact Mo.refl _ | with_reducible apply Mo.alloc)
    have zW0x := sx
    have zW0y := sy
    have zW0r := sr
    have zW0l := sl
    clear cx0 cx1 cx2 cx3 cx4 cx5 cx6 cx7 fx sx sxx syx cy0 cy1 cy2 cy3 cy4 cy5 cy6 cy7 fy sy sxy syy cr0 cr1 cr2 cr3 cr4 cr5 cr6 cr7 fr sr sxr syr cl0 cl1 cl2 cl3 fl sl sxl syl
    have Qx := Qx.mo a
    have Qy := Qy.mo a
    have Qr := Qr.mo a
    have Ql := Ql.mo a
    have M := M.trans a
    have Qh : AtN ((w2).alloc (.cells #[.int .u64 (l0 (hi)), .int .u64 (l1 (hi)), .int .u64 (l2 (hi)), .int .u64 (l3 (hi))] 24)) (w2.heap.size) hi := ⟨by simp [At4, go_sem], fun o => by simp [go_sem], by simp <;> omega⟩
    clear a
    go_upto_region 4 with fail
    generalize ((w2).alloc (.cells #[.int .u64 (l0 (hi)), .int .u64 (l1 (hi)), .int .u64 (l2 (hi)), .int .u64 (l3 (hi))] 24)) = W0 at *
    have Ox := Qx
    obtain ⟨⟨cx0, cx1, cx2, cx3, cx4, cx5, cx6, cx7⟩, fx, sx⟩ := Ox
    have fx := fun o => fx o
    have sxx : w.heap.size < W0.heap.size + 1 := by omega
    have syx : w.heap.size < W0.heap.size + 1 + 1 := by omega
    have Oy := Qy
    obtain ⟨⟨cy0, cy1, cy2, cy3, cy4, cy5, cy6, cy7⟩, fy, sy⟩ := Oy
    have fy := fun o => fy o
    have sxy : w.heap.size + 1 < W0.heap.size + 1 := by omega
    have syy : w.heap.size + 1 < W0.heap.size + 1 + 1 := by omega
    have Or := Qr
    obtain ⟨⟨cr0, cr1, cr2, cr3, cr4, cr5, cr6, cr7⟩, fr, sr⟩ := Or
    have fr := fun o => fr o
    have sxr : w.heap.size + 1 + 1 < W0.heap.size + 1 := by omega
    have syr : w.heap.size + 1 + 1 < W0.heap.size + 1 + 1 := by omega
    have Ol := Ql
    obtain ⟨⟨cl0, cl1, cl2, cl3⟩, fl, sl⟩ := Ol
    have fl := fun o => fl o
    have sxl : w1.heap.size < W0.heap.size + 1 := by omega
    have syl : w1.heap.size < W0.heap.size + 1 + 1 := by omega
    have Oh := Qh
    obtain ⟨⟨ch0, ch1, ch2, ch3⟩, fh, sh⟩ := Oh
    have fh := fun o => fh o
    have sxh : w2.heap.size < W0.heap.size + 1 := by omega
    have syh : w2.heap.size < W0.heap.size + 1 + 1 := by omega
    go_cut [] from 26 to 31 (fun wx => Mo w wx ∧ AtN wx w2.heap.size (hi % MM + 1 % MM) ∧ AtN wx w1.heap.size lo ∧ AtW wx (w.heap.size + 1 + 1) 0)
    case first =>
      go_region_with
        (first | (go_at_call 56; refine (from20_any 1 _ ⟨by decide, by decide⟩).mono ?_; rintro e w5 ⟨rfl, hm5⟩; have m5 : Mo W0 w5 := Mo.trans (by repeat (first | with_reducible exact Mo.refl _ | with_reducible apply Mo.drew | with_reducible apply Mo.alloc)) hm5; obtain ⟨⟨x0, x1, x2, x3⟩, _, xs⟩ := Qh.mo m5) | (go_at_call 60; refine (add_m hi 1 _).mono ?_; rintro e w6 ⟨rfl, hm6⟩; have m6 : Mo w5 w6 := Mo.trans (by repeat (first | with_reducible exact Mo.refl _ | with_reducible apply Mo.drew | with_reducible apply Mo.alloc)) hm6; have m7 := m5.trans m6; obtain ⟨⟨z0, z1, z2, z3⟩, zf, zs⟩ := Qh.mo m7; have zf := fun o => zf o))
      all_goals
        go_wp2
        go_meet
        case rel => exact ⟨(M.trans m7).st4 (by omega) _, (Qh.mo m7).same _, (Ql.mo m7).other (by omega) _, ((((Qr.mo m7).set178 (by omega) _ _).set178 (by omega) _ _).set178 (by omega) _ _).set178 (by omega) _ _⟩
    case rest =>
      clear cx0 cx1 cx2 cx3 cx4 cx5 cx6 cx7 fx sx sxx syx cy0 cy1 cy2 cy3 cy4 cy5 cy6 cy7 fy sy sxy syy cr0 cr1 cr2 cr3 cr4 cr5 cr6 cr7 fr sr sxr syr cl0 cl1 cl2 cl3 fl sl sxl syl ch0 ch1 ch2 ch3 fh sh sxh syh Qx Qy Qr Ql Qh M
      obtain ⟨M, Qh, Ql, Qr⟩ := hcut
      obtain ⟨⟨a0, a1, a2, a3⟩, _, sa⟩ := Qh
      obtain ⟨⟨b0, b1, b2, b3⟩, _, sb⟩ := Ql
      obtain ⟨⟨c0, c1, c2, c3, c4, c5, c6, c7⟩, fc, sc⟩ := Qr
      have fc := fun o => fc o
      go_wp2
      refine bodyPost_ret (v := .agg #[.int .u64 (l0 (hi % MM + 1 % MM)), .int .u64 (l1 (hi % MM + 1 % MM)), .int .u64 (l2 (hi % MM + 1 % MM)), .int .u64 (l3 (hi % MM + 1 % MM)), .int .u64 (l0 (lo)), .int .u64 (l1 (lo)), .int .u64 (l2 (lo)), .int .u64 (l3 (lo))]) (by simp [results, Try.results78, go_sem, *]) rfl ?_
      refine ⟨by rw [dw_of78 G2.out F1.out], ?_⟩
      repeat (first | with_reducible exact M | with_reducible exact Mo.refl _ | with_reducible apply Mo.drew | with_reducible apply Mo.drewN | with_reducible apply Mo.alloc | with_reducible refine Mo.setCell ?_ (by simp <;> omega) _)
end Go.Proofs.Ytoiiekmkcpcbgaa
/-
  decimal.subDouble: the walk.
-/
namespace Go.Proofs.Ytoiiekmkcpcbgaa
open Go.RowKit
theorem sub_m (A B : Int) (w : World) : Calls Try.prog 100 #[nv A, nv B] w fun e w' => e = .returned (.tuple #[nv (A % MM - B % MM), .bool (un (A % MM - B % MM))]) ∧ Mo w w' := by
  have h := sub_any (l0 A) (l1 A) (l2 A) (l3 A) (l0 B) (l1 B) (l2 B) (l3 B) w (u4_lb A) (u4_lb B)
  rw [vl_nv, vl_nv, nv_mod] at h
  exact h
theorem ddif {X Y : Int} (hX0 : 0 ≤ X) (hX : X < MM * MM) (hY0 : 0 ≤ Y) (hY : Y < MM * MM) :
    nv (X % MM - Y % MM) = nv (X - Y) ∧ ((un (X % MM - Y % MM) = false ∧ nv (X / MM % MM - Y / MM % MM) = nv ((X - Y) / MM)) ∨ (un (X % MM - Y % MM) = true ∧ nv ((X / MM % MM - Y / MM % MM) % MM - 1 % MM) = nv ((X - Y) / MM))) := by
  have p : (0 : Int) < MM := by decide
  have a1 := Int.ediv_nonneg hX0 (show (0 : Int) ≤ MM by omega)
  have a2 := Int.ediv_lt_of_lt_mul p hX
  have b1 := Int.ediv_nonneg hY0 (show (0 : Int) ≤ MM by omega)
  have b2 := Int.ediv_lt_of_lt_mul p hY
  have em : ∀ a b : Int, nv (a % MM - b % MM) = nv (a - b) := fun a b => by rw [← nv_mod (a % MM - b % MM), ← nv_mod (a - b), ← Int.sub_emod]
  rw [Int.emod_eq_of_lt a1 a2, Int.emod_eq_of_lt b1 b2]
  refine ⟨em X Y, ?_⟩
  have eX := Int.mul_ediv_add_emod X MM
  have eY := Int.mul_ediv_add_emod Y MM
  have cX := Int.emod_nonneg X (show MM ≠ 0 by omega)
  have dX := Int.emod_lt_of_pos X p
  have cY := Int.emod_nonneg Y (show MM ≠ 0 by omega)
  have dY := Int.emod_lt_of_pos Y p
  by_cases h : X % MM - Y % MM < 0
  · refine Or.inr ⟨decide_eq_true h, ?_⟩
    rw [em]
    congr 1
    unfold MM at *
    omega
  · refine Or.inl ⟨decide_eq_false h, ?_⟩
    congr 1
    unfold MM at *
    omega
theorem AtW.set180 {w : World} {k j : Nat} {X : Int} (h : AtW w j X) (hk : j ≠ k) (o : Nat) (v : Value) : AtW (w.setCell ⟨k, o, none⟩ v) j X := by
  obtain ⟨⟨b0, b1, b2, b3, b4, b5, b6, b7⟩, f, s⟩ := h
  refine ⟨by simp [go_sem, *], fun o => by simp [World.frozen?_setCell, f o], by simpa [World.setCell] using s⟩
theorem dw_of80 {h l Z : Int} (h1 : nv h = nv (Z / MM)) (h2 : nv l = nv Z) : (Value.agg #[.int .u64 (l0 (h)), .int .u64 (l1 (h)), .int .u64 (l2 (h)), .int .u64 (l3 (h)), .int .u64 (l0 (l)), .int .u64 (l1 (l)), .int .u64 (l2 (l)), .int .u64 (l3 (l))]) = dw Z := by
  simp [nv] at h1 h2
  simp [h1, h2]
set_option maxHeartbeats 4000000 in
theorem subDouble_n (X Y : Int) (w : World) (hX0 : 0 ≤ X) (hX : X < MM * MM) (hY0 : 0 ≤ Y) (hY : Y < MM * MM) :
    Calls Try.prog 80 #[dw X, dw Y] w fun e w' => e = .returned (dw (X - Y)) ∧ Mo w w' := by
  obtain ⟨f1, f2⟩ := ddif hX0 hX hY0 hY
  have F1 : Hid _ := f1
  clear f1
  go_enter Try.func80, Try.ntmps80
  go_wp2_with fail
  refine (sub_m X Y _).mono ?_
  rintro e w1 ⟨rfl, hm1⟩
  have m : Mo w w1 := Mo.trans (by repeat (first | with_reducible exact Mo.refl _ | with_reducible apply Mo.drew | with_reducible apply Mo.alloc)) hm1
  have M := m
  have Qx : AtW w1 (w.heap.size) X := AtW.mo ⟨by simp [go_sem], fun o => by simp [go_sem], by simp <;> omega⟩ hm1
  have Qy : AtW w1 (w.heap.size + 1) Y := AtW.mo ⟨by simp [go_sem], fun o => by simp [go_sem], by simp <;> omega⟩ hm1
  have Qr : AtW w1 (w.heap.size + 1 + 1) 0 := AtW.mo ⟨by simp [go_sem, zl0, zl1, zl2, zl3], fun o => by simp [go_sem], by simp <;> omega⟩ hm1
  clear hm1 m
  have Ox := Qx
  obtain ⟨⟨cx0, cx1, cx2, cx3, cx4, cx5, cx6, cx7⟩, fx, sx⟩ := Ox
  have fx := fun o => fx o
  have sxx : w.heap.size < w1.heap.size + 1 := by omega
  have syx : w.heap.size < w1.heap.size + 1 + 1 := by omega
  have Oy := Qy
  obtain ⟨⟨cy0, cy1, cy2, cy3, cy4, cy5, cy6, cy7⟩, fy, sy⟩ := Oy
  have fy := fun o => fy o
  have sxy : w.heap.size + 1 < w1.heap.size + 1 := by omega
  have syy : w.heap.size + 1 < w1.heap.size + 1 + 1 := by omega
  have Or := Qr
  obtain ⟨⟨cr0, cr1, cr2, cr3, cr4, cr5, cr6, cr7⟩, fr, sr⟩ := Or
  have fr := fun o => fr o
  have sxr : w.heap.size + 1 + 1 < w1.heap.size + 1 := by omega
  have syr : w.heap.size + 1 + 1 < w1.heap.size + 1 + 1 := by omega
  obtain ⟨lo, hlo⟩ : ∃ lo, lo = X % MM - Y % MM := ⟨_, rfl⟩
  rw [← hlo] at f2 F1 ⊢
  have HL : Hid _ := hlo
  clear hlo
  go_wp2_with fail
  refine (sub_m (X / MM) (Y / MM) _).mono ?_
  rintro e w2 ⟨rfl, hm2⟩
  have m : Mo w1 w2 := Mo.trans (by repeat (first | with_reducible exact Mo.refl _ | with_reducible apply Mo.drew | with_reducible apply Mo.alloc)) hm2
  clear cx0 cx1 cx2 cx3 cx4 cx5 cx6 cx7 fx sx sxx syx cy0 cy1 cy2 cy3 cy4 cy5 cy6 cy7 fy sy sxy syy cr0 cr1 cr2 cr3 cr4 cr5 cr6 cr7 fr sr sxr syr
  have Qx := Qx.mo m
  have Qy := Qy.mo m
  have Qr := Qr.mo m
  have M := M.trans m
  have Ql : AtN w2 (w1.heap.size) lo := AtN.mo ⟨by simp [At4, go_sem], fun o => by simp [go_sem], by simp <;> omega⟩ hm2
  clear hm2 m
  have Ox := Qx
  obtain ⟨⟨cx0, cx1, cx2, cx3, cx4, cx5, cx6, cx7⟩, fx, sx⟩ := Ox
  have fx := fun o => fx o
  have sxx : w.heap.size < w2.heap.size + 1 := by omega
  have syx : w.heap.size < w2.heap.size + 1 + 1 := by omega
  have Oy := Qy
  obtain ⟨⟨cy0, cy1, cy2, cy3, cy4, cy5, cy6, cy7⟩, fy, sy⟩ := Oy
  have fy := fun o => fy o
  have sxy : w.heap.size + 1 < w2.heap.size + 1 := by omega
  have syy : w.heap.size + 1 < w2.heap.size + 1 + 1 := by omega
  have Or := Qr
  obtain ⟨⟨cr0, cr1, cr2, cr3, cr4, cr5, cr6, cr7⟩, fr, sr⟩ := Or
  have fr := fun o => fr o
  have sxr : w.heap.size + 1 + 1 < w2.heap.size + 1 := by omega
  have syr : w.heap.size + 1 + 1 < w2.heap.size + 1 + 1 := by omega
  have Ol := Ql
  obtain ⟨⟨cl0, cl1, cl2, cl3⟩, fl, sl⟩ := Ol
  have fl := fun o => fl o
  have sxl : w1.heap.size < w2.heap.size + 1 := by omega
  have syl : w1.heap.size < w2.heap.size + 1 + 1 := by omega
  obtain ⟨hi, hhi⟩ : ∃ hi, hi = X / MM % MM - Y / MM % MM := ⟨_, rfl⟩
  rw [← hhi] at f2 ⊢
  have HH : Hid _ := hhi
  clear hhi
  rcases f2 with ⟨g1, g2⟩ | ⟨g1, g2⟩
  · have G2 : Hid _ := g2
    clear g2
    have a : Mo w2 ((w2).alloc (.cells #[.int .u64 (l0 (hi)), .int .u64 (l1 (hi)), .int .u64 (l2 (hi)), .int .u64 (l3 (hi))] 24)) := by repeat (first | with_reducible exact Mo.refl _ | with_reducible apply Mo.alloc)
    have zW0x := sx
    have zW0y := sy
    have zW0r := sr
    have zW0l := sl
    clear cx0 cx1 cx2 cx3 cx4 cx5 cx6 cx7 fx sx sxx syx cy0 cy1 cy2 cy3 cy4 cy5 cy6 cy7 fy sy sxy syy cr0 cr1 cr2 cr3 cr4 cr5 cr6 cr7 fr sr sxr syr cl0 cl1 cl2 cl3 fl sl sxl syl
    have Qx := Qx.mo a
    have Qy := Qy.mo a
    have Qr := Qr.mo a
    have Ql := Ql.mo a
    have M := M.trans a
    have Qh : AtN ((w2).alloc (.cells #[.int .u64 (l0 (hi)), .int .u64 (l1 (hi)), .int .u64 (l2 (hi)), .int .u64 (l3 (hi))] 24)) (w2.heap.size) hi := ⟨by simp [At4, go_sem], fun o => by simp [go_sem], by simp <;> omega⟩
    clear a
    go_upto_region 5 with fail
    generalize ((w2).alloc (.cells #[.int .u64 (l0 (hi)), .int .u64 (l1 (hi)), .int .u64 (l2 (hi)), .int .u64 (l3 (hi))] 24)) = W0 at *
    have Ox := Qx
    obtain ⟨⟨cx0, cx1, cx2, cx3, cx4, cx5, cx6, cx7⟩, fx, sx⟩ := Ox
    have fx := fun o => fx o
    have sxx : w.heap.size < W0.heap.size + 1 := by omega
    have syx : w.heap.size < W0.heap.size + 1 + 1 := by omega
    have Oy := Qy
    obtain ⟨⟨cy0, cy1, cy2, cy3, cy4, cy5, cy6, cy7⟩, fy, sy⟩ := Oy
    have fy := fun o => fy o
    have sxy : w.heap.size + 1 < W0.heap.size + 1 := by omega
    have syy : w.heap.size + 1 < W0.heap.size + 1 + 1 := by omega
    have Or := Qr
    obtain ⟨⟨cr0, cr1, cr2, cr3, cr4, cr5, cr6, cr7⟩, fr, sr⟩ := Or
    have fr := fun o => fr o
    have sxr : w.heap.size + 1 + 1 < W0.heap.size + 1 := by omega
    have syr : w.heap.size + 1 + 1 < W0.heap.size + 1 + 1 := by omega
    have Ol := Ql
    obtain ⟨⟨cl0, cl1, cl2, cl3⟩, fl, sl⟩ := Ol
    have fl := fun o => fl o
    have sxl : w1.heap.size < W0.heap.size + 1 := by omega
    have syl : w1.heap.size < W0.heap.size + 1 + 1 := by omega
    have Oh := Qh
    obtain ⟨⟨ch0, ch1, ch2, ch3⟩, fh, sh⟩ := Oh
    have fh := fun o => fh o
    have sxh : w2.heap.size < W0.heap.size + 1 := by omega
    have syh : w2.heap.size < W0.heap.size + 1 + 1 := by omega
    go_wp2
    refine bodyPost_ret (v := .agg #[.int .u64 (l0 (hi)), .int .u64 (l1 (hi)), .int .u64 (l2 (hi)), .int .u64 (l3 (hi)), .int .u64 (l0 (lo)), .int .u64 (l1 (lo)), .int .u64 (l2 (lo)), .int .u64 (l3 (lo))]) (by simp [results, Try.results80, go_sem, *]) rfl ?_
    refine ⟨by rw [dw_of80 G2.out F1.out], ?_⟩
    repeat (first | with_reducible exact M | with_reducible exact Mo.refl _ | with_reducible apply Mo.drew | with_reducible apply Mo.drewN | with_reducible apply Mo.alloc | with_reducible refine Mo.setCell ?_ (by simp <;> omega) _)
  · have G2 : Hid _ := g2
    clear g2
    have a : Mo w2 ((w2).alloc (.cells #[.int .u64 (l0 (hi)), .int .u64 (l1 (hi)), .int .u64 (l2 (hi)), .int .u64 (l3 (hi))] 24)) := by repeat (first | with_reducible exact Mo.refl _ | with_reducible apply Mo.alloc)
    have zW0x := sx
    have zW0y := sy
    have zW0r := sr
    have zW0l := sl
    clear cx0 cx1 cx2 cx3 cx4 cx5 cx6 cx7 fx sx sxx syx cy0 cy1 cy2 cy3 cy4 cy5 cy6 cy7 fy sy sxy syy cr0 cr1 cr2 cr3 cr4 cr5 cr6 cr7 fr sr sxr syr cl0 cl1 cl2 cl3 fl sl sxl syl
    have Qx := Qx.mo a
    have Qy := Qy.mo a
    have Qr := Qr.mo a
    have Ql := Ql.mo a
    have M := M.trans a
    have Qh : AtN ((w2).alloc (.cells #[.int .u64 (l0 (hi)), .int .u64 (l1 (hi)), .int .u64 (l2 (hi)), .int .u64 (l3 (hi))] 24)) (w2.heap.size) hi := ⟨by simp [At4, go_sem], fun o => by simp [go_sem], by simp <;> omega⟩
    clear a
    go_upto_region 4 with fail
    generalize ((w2).alloc (.cells #[.int .u64 (l0 (hi)), .int .u64 (l1 (hi)), .int .u64 (l2 (hi)), .int .u64 (l3 (hi))] 24)) = W0 at *
    have Ox := Qx
    obtain ⟨⟨cx0, cx1, cx2, cx3, cx4, cx5, cx6, cx7⟩, fx, sx⟩ := Ox
    have fx := fun o => fx o
    have sxx : w.heap.size < W0.heap.size + 1 := by omega
    have syx : w.heap.size < W0.heap.size + 1 + 1 := by omega
    have Oy := Qy
    obtain ⟨⟨cy0, cy1, cy2, cy3, cy4, cy5, cy6, cy7⟩, fy, sy⟩ := Oy
    have fy := fun o => fy o
    have sxy : w.heap.size + 1 < W0.heap.size + 1 := by omega
    have syy : w.heap.size + 1 < W0.heap.size + 1 + 1 := by omega
    have Or := Qr
    obtain ⟨⟨cr0, cr1, cr2, cr3, cr4, cr5, cr6, cr7⟩, fr, sr⟩ := Or
    have fr := fun o => fr o
    have sxr : w.heap.size + 1 + 1 < W0.heap.size + 1 := by omega
    have syr : w.heap.size + 1 + 1 < W0.heap.size + 1 + 1 := by omega
    have Ol := Ql
    obtain ⟨⟨cl0, cl1, cl2, cl3⟩, fl, sl⟩ := Ol
    have fl := fun o => fl o
    have sxl : w1.heap.size < W0.heap.size + 1 := by omega
    have syl : w1.heap.size < W0.heap.size + 1 + 1 := by omega
    have Oh := Qh
    obtain ⟨⟨ch0, ch1, ch2, ch3⟩, fh, sh⟩ := Oh
    have fh := fun o => fh o
    have sxh : w2.heap.size < W0.heap.size + 1 := by omega
    have syh : w2.heap.size < W0.heap.size + 1 + 1 := by omega
    go_cut [] from 26 to 31 (fun wx => Mo w wx ∧ AtN wx w2.heap.size (hi % MM - 1 % MM) ∧ AtN wx w1.heap.size lo ∧ AtW wx (w.heap.size + 1 + 1) 0)
    case first =>
      go_region_with
        (first | (go_at_call 56; refine (from20_any 1 _ ⟨by decide, by decide⟩).mono ?_; rintro e w5 ⟨rfl, hm5⟩; have m5 : Mo W0 w5 := Mo.trans (by repeat (first | with_reducible exact Mo.refl _ | with_reducible apply Mo.drew | with_reducible apply Mo.alloc)) hm5; obtain ⟨⟨x0, x1, x2, x3⟩, _, xs⟩ := Qh.mo m5) | (go_at_call 100; refine (sub_m hi 1 _).mono ?_; rintro e w6 ⟨rfl, hm6⟩; have m6 : Mo w5 w6 := Mo.trans (by repeat (first | with_reducible exact Mo.refl _ | with_reducible apply Mo.drew | with_reducible apply Mo.alloc)) hm6; have m7 := m5.trans m6; obtain ⟨⟨z0, z1, z2, z3⟩, zf, zs⟩ := Qh.mo m7; have zf := fun o => zf o))
      all_goals
        go_wp2
        go_meet
        case rel => exact ⟨(M.trans m7).st4 (by omega) _, (Qh.mo m7).same _, (Ql.mo m7).other (by omega) _, ((((Qr.mo m7).set180 (by omega) _ _).set180 (by omega) _ _).set180 (by omega) _ _).set180 (by omega) _ _⟩
    case rest =>
      clear cx0 cx1 cx2 cx3 cx4 cx5 cx6 cx7 fx sx sxx syx cy0 cy1 cy2 cy3 cy4 cy5 cy6 cy7 fy sy sxy syy cr0 cr1 cr2 cr3 cr4 cr5 cr6 cr7 fr sr sxr syr cl0 cl1 cl2 cl3 fl sl sxl syl ch0 ch1 ch2 ch3 fh sh sxh syh Qx Qy Qr Ql Qh M
      obtain ⟨M, Qh, Ql, Qr⟩ := hcut
      obtain ⟨⟨a0, a1, a2, a3⟩, _, sa⟩ := Qh
      obtain ⟨⟨b0, b1, b2, b3⟩, _, sb⟩ := Ql
      obtain ⟨⟨c0, c1, c2, c3, c4, c5, c6, c7⟩, fc, sc⟩ := Qr
      have fc := fun o => fc o
      go_wp2
      refine bodyPost_ret (v := .agg #[.int .u64 (l0 (hi % MM - 1 % MM)), .int .u64 (l1 (hi % MM - 1 % MM)), .int .u64 (l2 (hi % MM - 1 % MM)), .int .u64 (l3 (hi % MM - 1 % MM)), .int .u64 (l0 (lo)), .int .u64 (l1 (lo)), .int .u64 (l2 (lo)), .int .u64 (l3 (lo))]) (by simp [results, Try.results80, go_sem, *]) rfl ?_
      refine ⟨by rw [dw_of80 G2.out F1.out], ?_⟩
      repeat (first | with_reducible exact M | with_reducible exact Mo.refl _ | with_reducible apply Mo.drew | with_reducible apply Mo.drewN | with_reducible apply Mo.alloc | with_reducible refine Mo.setCell ?_ (by simp <;> omega) _)
end Go.Proofs.Ytoiiekmkcpcbgaa
/-
  Decimals as whole numbers with a scale; decimal.fit by them.
-/
namespace Go.Proofs.Ytoiiekmkcpcbgaa
open Go.RowKit
/-- A whole number's size. -/
def ab (v : Int) : Int := if v < 0 then -v else v
/-- The decimal of a whole number and a scale. -/
abbrev dz (v s : Int) : Value := dc (decide (v < 0)) (ab v) s
theorem ab_nn (v : Int) : 0 ≤ ab v := by unfold ab; split <;> omega
theorem ck_dz {v s : Int} (h : sc s = true) : ck (decide (v < 0)) (ab v) s = 0 := by
  unfold ck
  rw [h]
  have : (decide (v < 0) && decide (ab v = 0)) = false := by
    unfold ab
    by_cases hv : v < 0
    · rw [if_pos hv, decide_eq_false (p := -v = 0) (by omega)]; simp
    · rw [decide_eq_false hv]; rfl
  rw [this]; rfl
theorem sc_iff {s : Int} : sc s = true ↔ 0 ≤ s ∧ s ≤ 18 := by unfold sc; simp
/-- A decimal that may be is one of a whole number. -/
theorem dz_of {b : Bool} {n s : Int} (hn : 0 ≤ n) (h : ck b n s = 0) : sc s = true ∧ ∃ v, ab v = n ∧ decide (v < 0) = b := by
  unfold ck at h
  split at h
  next hh =>
    simp at hh
    refine ⟨hh.1, ?_⟩
    cases b
    · exact ⟨n, by unfold ab; rw [if_neg (by omega)], decide_eq_false (by omega)⟩
    · have : n ≠ 0 := fun e => by simp [e] at hh
      exact ⟨-n, by unfold ab; rw [if_pos (by omega)]; omega, decide_eq_true (by omega)⟩
  next => cases h
/-- What is answered where the whole number has room, or not. -/
def fz (v s : Int) : Value := if ab v < MM then .tuple #[dz v s, .int .i64 0] else er 7
theorem fit_z (b : Bool) (X s v : Int) (w : World) (hX : X = ab v) (hX2 : X < MM * MM) (hb : X ≠ 0 → b = decide (v < 0)) :
    Calls Try.prog 77 #[.bool b, dw X, .int .i64 s] w fun e w' => e = .returned (fz v s) ∧ Mo w w' := by
  have h0 := ab_nn v
  unfold fz
  subst hX
  by_cases h : ab v < MM
  · rw [if_pos h]
    have e : (b && !decide (ab v = 0)) = decide (v < 0) := by
      by_cases hz : ab v = 0
      · rw [decide_eq_true hz, decide_eq_false (p := v < 0) (by unfold ab at hz; split at hz <;> omega)]; simp
      · rw [decide_eq_false hz, hb hz]; simp
    have hh := fit_yes b (ab v) s w h0 h
    rw [e] at hh
    exact hh
  · rw [if_neg h]
    exact fit_no b (ab v) s w (by omega) hX2
end Go.Proofs.Ytoiiekmkcpcbgaa
/-
  Numbers of twice as many bits as one row of cells: laid and read whole.
-/
namespace Go.Proofs.Ytoiiekmkcpcbgaa
open Go.RowKit
/-- The cells of a number of twice as many bits. -/
def dwa (X : Int) : Array Value := #[.int .u64 (l0 (X / MM)), .int .u64 (l1 (X / MM)), .int .u64 (l2 (X / MM)), .int .u64 (l3 (X / MM)), .int .u64 (l0 X), .int .u64 (l1 X), .int .u64 (l2 X), .int .u64 (l3 X)]
abbrev dx (X : Int) : Value := .agg (dwa X)
theorem dwa_size (X : Int) : (dwa X).size = 8 := rfl
theorem dwa_len (X : Int) : (dwa X).toList.length = 8 := rfl
/-- The block k holds a number of twice as many bits. -/
def AtX (w : World) (k : Nat) (X : Int) : Prop := w.rangeAt k 0 (dwa X).toList ∧ w.there k 0 8 ∧ k < w.heap.size
theorem Mo.there {w w' : World} {k n : Nat} (m : Mo w w') (h : w.there k 0 n) (hk : k < w.heap.size) : w'.there k 0 n := fun j hj => by
  rw [m.cell k _ hk, m.2]; exact h j hj
theorem AtX.mo {w w' : World} {k : Nat} {X : Int} (h : AtX w k X) (m : Mo w w') : AtX w' k X :=
  ⟨fun j v hv => (m.cell k _ h.2.2).trans (h.1 j v hv), m.there h.2.1 h.2.2, Nat.lt_of_lt_of_le h.2.2 m.size⟩
theorem size_setCells (k : Nat) : ∀ (l : List Value) (o : Nat) (w : World), (w.setCells k o l).heap.size = w.heap.size
  | [], _, _ => rfl
  | v :: r, o, w => by rw [World.setCells, size_setCells k r]; simp [World.setCell]
theorem Mo.setCells {a : World} {k : Nat} (hk : a.heap.size ≤ k) : ∀ (l : List Value) (o : Nat) (b : World), Mo a b → Mo a (b.setCells k o l)
  | [], _, _, h => h
  | v :: r, o, b, h => by rw [World.setCells]; exact Mo.setCells hk r (o + 1) _ (h.setCell hk v)
theorem AtX.same {w : World} {k : Nat} (X : Int) (h : w.there k 0 8) (hk : k < w.heap.size) : AtX (w.setCells k 0 (dwa X).toList) k X :=
  ⟨World.rangeAt_setCells_same w k 0 _ (by rw [dwa_len]; exact h), World.there_setCells h k 0 _, by rw [size_setCells]; exact hk⟩
theorem AtX.other {w : World} {k j : Nat} {X : Int} (h : AtX w j X) (hk : j ≠ k) (l : List Value) : AtX (w.setCells k 0 l) j X :=
  ⟨World.rangeAt_setCells_apart h.1 k 0 l (Or.inl hk), World.there_setCells h.2.1 k 0 _, by rw [size_setCells]; exact h.2.2⟩
theorem AtD.other {w : World} {k j : Nat} {b : Bool} {n s : Int} (h : AtD w j b n s) (hk : j ≠ k) (l : List Value) : AtD (w.setCells k 0 l) j b n s := by
  obtain ⟨⟨a0, a1, a2, a3, a4, a5⟩, f, z⟩ := h
  have e : ∀ o, (w.setCells k 0 l).cell? ⟨j, o, none⟩ = w.cell? ⟨j, o, none⟩ := fun o => World.cell?_setCells_out k l 0 w _ (fun hb _ => absurd hb hk)
  exact ⟨by simp only [e]; exact ⟨a0, a1, a2, a3, a4, a5⟩, fun o => by rw [World.frozen?_setCells]; exact f o, by rw [size_setCells]; exact z⟩
theorem there_new (w : World) : (w.alloc (.cells #[.int .u64 0, .int .u64 0, .int .u64 0, .int .u64 0, .int .u64 0, .int .u64 0, .int .u64 0, .int .u64 0] 81)).there w.heap.size 0 8 := fun j hj => by
  have hq : j = 0 ∨ j = 1 ∨ j = 2 ∨ j = 3 ∨ j = 4 ∨ j = 5 ∨ j = 6 ∨ j = 7 := by omega
  rcases hq with rfl | rfl | rfl | rfl | rfl | rfl | rfl | rfl <;> simp [go_sem]
theorem st81 (w : World) (k : Nat) (X : Int) (h : w.there k 0 8) : (storeCells ⟨k, 0, none⟩ (dwa X).toList 0).run Try.prog w = .ok () (w.setCells k 0 (dwa X).toList) := by
  have hh := run_storeAt_mid (P := Try.prog) w k 0 81 (dwa X) (by rw [dwa_size]; exact h) (by rw [dwa_size]; kernel_rfl) (by
    rw [Array.all_eq_true_iff_forall_mem]; intro v hv; simp [dwa] at hv; rcases hv with rfl | rfl | rfl | rfl | rfl | rfl | rfl | rfl <;> rfl)
  have e : (Instr.storeAt 81 (.pointer (some ⟨k, 0, none⟩)) (.agg (dwa X))).run Try.prog w = (storeCells ⟨k, 0, none⟩ (dwa X).toList 0).run Try.prog w := by
    simp [Instr.storeAt, Instr.sureAddr, storeVar, Sem.run_bind, go_sem, Value.cells, dwa_size]
  rw [← e]; exact hh
theorem ld81 (w : World) (k : Nat) (X : Int) (h : w.rangeAt k 0 (dwa X).toList) : (loadCellsFrom ⟨k, 0, none⟩ 0 8 #[]).run Try.prog w = .ok (dwa X) w := by
  have := run_loadCells_list (P := Try.prog) w ⟨k, 0, none⟩ (dwa X).toList (fun j v hv => by rw [Addr.add_mid]; exact h j v hv)
  simpa [loadCells, dwa_len, dwa_size] using this
theorem lift_x (b : Bool) (n s S : Int) (k : Nat) (w : World) (hn0 : 0 ≤ n) (hn : n < MM) (hk : S - s = (k : Int)) (hk7 : k ≤ 77) :
    Calls Try.prog 76 #[dc b n s, .int .i64 S] w fun e w' => e = .returned (dx (n * 10 ^ k)) ∧ Mo w w' := lift_n b n s S k w hn0 hn hk hk7
theorem addDouble_x (X Y : Int) (w : World) (hX0 : 0 ≤ X) (hX : X < MM * MM) (hY0 : 0 ≤ Y) (hY : Y < MM * MM) :
    Calls Try.prog 78 #[dx X, dx Y] w fun e w' => e = .returned (dx (X + Y)) ∧ Mo w w' := addDouble_n X Y w hX0 hX hY0 hY
theorem subDouble_x (X Y : Int) (w : World) (hX0 : 0 ≤ X) (hX : X < MM * MM) (hY0 : 0 ≤ Y) (hY : Y < MM * MM) :
    Calls Try.prog 80 #[dx X, dx Y] w fun e w' => e = .returned (dx (X - Y)) ∧ Mo w w' := subDouble_n X Y w hX0 hX hY0 hY
theorem cmpDouble_x (X Y : Int) (w : World) (hX0 : 0 ≤ X) (hX : X < MM * MM) (hY0 : 0 ≤ Y) (hY : Y < MM * MM) :
    Calls Try.prog 79 #[dx X, dx Y] w fun e w' => e = .returned (.int .i64 (cm X Y)) ∧ Mo w w' := cmpDouble_n X Y w hX0 hX hY0 hY
theorem mulDouble_x (A B : Int) (w : World) (hA0 : 0 ≤ A) (hAM : A < MM) (hB0 : 0 ≤ B) (hBM : B < MM) :
    Calls Try.prog 87 #[nv A, nv B] w fun e w' => e = .returned (dx (A * B)) ∧ Mo w w' := mulDouble_n A B w hA0 hAM hB0 hBM
theorem fit_x (b : Bool) (X s v : Int) (w : World) (hX : X = ab v) (hX2 : X < MM * MM) (hb : X ≠ 0 → b = decide (v < 0)) :
    Calls Try.prog 77 #[.bool b, dx X, .int .i64 s] w fun e w' => e = .returned (fz v s) ∧ Mo w w' := fit_z b X s v w hX hX2 hb
end Go.Proofs.Ytoiiekmkcpcbgaa
/-
  This program's types: how many cells they have; a builtin.
-/
namespace Go.Proofs.Ytoiiekmkcpcbgaa
theorem sz3 : (Try.prog.info? 3).map (·.size) = some 1 := by kernel_rfl
theorem sz4 : (Try.prog.info? 4).map (·.size) = some 1 := by kernel_rfl
theorem sz24 : (Try.prog.info? 24).map (·.size) = some 4 := by kernel_rfl
theorem sz40 : (Try.prog.info? 40).map (·.size) = some 6 := by kernel_rfl
theorem sz81 : (Try.prog.info? 81).map (·.size) = some 8 := by kernel_rfl
theorem sz87 : (Try.prog.info? 87).map (·.size) = some 8 := by kernel_rfl
theorem max_run (ρ : Operand → Value) (x y : Operand) (a b : Int) (hx : ρ x = .int .i64 a) (hy : ρ y = .int .i64 b) (dst : Option Tmp) (type : TypeId) (pos : String) (after : Array Edge) (guard : Option (Nat × Bool)) (w : World) : (execOp ρ { dst, op := .call { callee := .builtin .max, args := #[x, y], argTypes := #[3, 3] }, type, pos, after, guard }).run Try.prog w = .ok (.value (.int .i64 (max a b))) w := by
  simp [go_sem, hx, hy]
end Go.Proofs.Ytoiiekmkcpcbgaa
/-
  decimal.OfInt and cmp.Compare: the walks.
-/
namespace Go.Proofs.Ytoiiekmkcpcbgaa
open Go.RowKit
theorem nan_n (a : Int) (w : World) : Calls Try.prog 104 #[.int .i64 a] w fun e w' => e = .returned (.bool false) ∧ Mo w w' := by
  go_enter Try.func104, Try.ntmps104
  go_wp2
  go_ret
  exact ⟨by simp, Mo.refl _⟩
set_option maxHeartbeats 4000000 in
theorem compare_n (a b : Int) (w : World) : Calls Try.prog 92 #[.int .i64 a, .int .i64 b] w fun e w' => e = .returned (.int .i64 (cm a b)) ∧ Mo w w' := by
  have hc : (a < b ∧ cm a b = -1) ∨ (¬ a < b ∧ b < a ∧ cm a b = 1) ∨ (¬ a < b ∧ ¬ b < a ∧ cm a b = 0) := by
    unfold cm
    by_cases h : a < b
    · exact Or.inl ⟨h, if_pos h⟩
    · by_cases h2 : b < a
      · exact Or.inr (Or.inl ⟨h, h2, by rw [if_neg h, if_pos h2]⟩)
      · exact Or.inr (Or.inr ⟨h, h2, by rw [if_neg h, if_neg h2]⟩)
  rcases hc with ⟨h1, h2⟩ | ⟨h1, h2, h3⟩ | ⟨h1, h2, h3⟩
  · have d1 : decide (a < b) = true := decide_eq_true h1
    rw [h2]
    clear h1 h2
    go_enter Try.func92, Try.ntmps92
    go_wp2_with fail
    refine (nan_n a _).mono ?_
    rintro e w1 ⟨rfl, hm1⟩
    have mz : Mo w w1 := Mo.trans (by repeat (first | with_reducible exact Mo.refl _ | with_reducible apply Mo.drew | with_reducible apply Mo.alloc)) hm1
    have M := mz
    clear hm1 mz
    go_wp2_with fail
    refine (nan_n b _).mono ?_
    rintro e w2 ⟨rfl, hm2⟩
    have mz : Mo w1 w2 := Mo.trans (by repeat (first | with_reducible exact Mo.refl _ | with_reducible apply Mo.drew | with_reducible apply Mo.alloc)) hm2
    have M := M.trans mz
    clear hm2 mz
    go_wp2
    go_ret
    exact ⟨rfl, M⟩
  · have d1 : decide (a < b) = false := decide_eq_false h1
    have d2 : decide (a > b) = true := decide_eq_true h2
    rw [h3]
    clear h1 h2 h3
    go_enter Try.func92, Try.ntmps92
    go_wp2_with fail
    refine (nan_n a _).mono ?_
    rintro e w1 ⟨rfl, hm1⟩
    have mz : Mo w w1 := Mo.trans (by repeat (first | with_reducible exact Mo.refl _ | with_reducible apply Mo.drew | with_reducible apply Mo.alloc)) hm1
    have M := mz
    clear hm1 mz
    go_wp2_with fail
    refine (nan_n b _).mono ?_
    rintro e w2 ⟨rfl, hm2⟩
    have mz : Mo w1 w2 := Mo.trans (by repeat (first | with_reducible exact Mo.refl _ | with_reducible apply Mo.drew | with_reducible apply Mo.alloc)) hm2
    have M := M.trans mz
    clear hm2 mz
    go_wp2
    go_ret
    exact ⟨rfl, M⟩
  · have d1 : decide (a < b) = false := decide_eq_false h1
    have d2 : decide (a > b) = false := decide_eq_false h2
    rw [h3]
    clear h1 h2 h3
    go_enter Try.func92, Try.ntmps92
    go_wp2_with fail
    refine (nan_n a _).mono ?_
    rintro e w1 ⟨rfl, hm1⟩
    have mz : Mo w w1 := Mo.trans (by repeat (first | with_reducible exact Mo.refl _ | with_reducible apply Mo.drew | with_reducible apply Mo.alloc)) hm1
    have M := mz
    clear hm1 mz
    go_wp2_with fail
    refine (nan_n b _).mono ?_
    rintro e w2 ⟨rfl, hm2⟩
    have mz : Mo w1 w2 := Mo.trans (by repeat (first | with_reducible exact Mo.refl _ | with_reducible apply Mo.drew | with_reducible apply Mo.alloc)) hm2
    have M := M.trans mz
    clear hm2 mz
    go_wp2
    go_ret
    exact ⟨rfl, M⟩
set_option maxHeartbeats 4000000 in
theorem ofInt_no (n s : Int) (w : World) (h : sc s = false) : Calls Try.prog 26 #[.int .i64 n, .int .i64 s] w fun e w' => e = .returned (er 21) ∧ Mo w w' := by
  go_enter Try.func26, Try.ntmps26
  go_wp2_with fail
  refine (isScale_n s _).mono ?_
  rintro e w1 ⟨rfl, hm1⟩
  have mz : Mo w w1 := Mo.trans (by repeat (first | with_reducible exact Mo.refl _ | with_reducible apply Mo.drew | with_reducible apply Mo.alloc)) hm1
  have M := mz
  have Qr : AtD w1 (w.heap.size) false 0 0 := AtD.mo ⟨by simp [go_sem, zl0, zl1, zl2, zl3], fun o => by simp [go_sem], by simp <;> omega⟩ hm1
  clear hm1 mz
  have Or := Qr
  obtain ⟨⟨cr0, cr1, cr2, cr3, cr4, cr5⟩, fr, sr⟩ := Or
  have fr := fun o => fr o
  have sxr : w.heap.size < w1.heap.size + 1 := by omega
  have syr : w.heap.size < w1.heap.size + 1 + 1 := by omega
  go_wp2
  refine bodyPost_ret (v := er 21) (by simp [results, Try.results26, go_sem, *]) rfl ?_
  refine ⟨rfl, ?_⟩
  repeat (first | with_reducible exact M | with_reducible exact Mo.refl _ | with_reducible apply Mo.drew | with_reducible apply Mo.drewN | with_reducible apply Mo.alloc | with_reducible refine Mo.setCell ?_ (by simp <;> omega) _)
set_option maxHeartbeats 4000000 in
theorem ofInt_pos (n s : Int) (w : World) (h : sc s = true) (hn0 : 0 ≤ n) (hn : n < 9223372036854775808) : Calls Try.prog 26 #[.int .i64 n, .int .i64 s] w fun e w' => e = .returned (.tuple #[dz n s, .int .i64 0]) ∧ Mo w w' := by
  have d1 : decide (n < 0) = false := decide_eq_false (by omega)
  have w1 : IntKind.u64.wrap n = n := by rw [IntKind.wrap_u64]; omega
  have e1 : ab n = n := by unfold ab; rw [if_neg (by omega)]
  rw [dz, e1, d1]
  clear e1
  have HN : Hid _ := hn0
  have HM : Hid _ := hn
  clear hn0 hn
  go_enter Try.func26, Try.ntmps26
  go_wp2_with fail
  refine (isScale_n s _).mono ?_
  rintro e w1 ⟨rfl, hm1⟩
  have mz : Mo w w1 := Mo.trans (by repeat (first | with_reducible exact Mo.refl _ | with_reducible apply Mo.drew | with_reducible apply Mo.alloc)) hm1
  have M := mz
  have Qr : AtD w1 (w.heap.size) false 0 0 := AtD.mo ⟨by simp [go_sem, zl0, zl1, zl2, zl3], fun o => by simp [go_sem], by simp <;> omega⟩ hm1
  clear hm1 mz
  have Or := Qr
  obtain ⟨⟨cr0, cr1, cr2, cr3, cr4, cr5⟩, fr, sr⟩ := Or
  have fr := fun o => fr o
  have sxr : w.heap.size < w1.heap.size + 1 := by omega
  have syr : w.heap.size < w1.heap.size + 1 + 1 := by omega
  go_wp2_with fail
  refine (from20_any n _ ⟨by have := HN.out; omega, by have := HM.out; omega⟩).mono ?_
  rintro e w2 ⟨rfl, hm2⟩
  have mz : Mo w1 w2 := Mo.trans (by repeat (first | with_reducible exact Mo.refl _ | with_reducible apply Mo.drew | with_reducible apply Mo.alloc)) hm2
  clear cr0 cr1 cr2 cr3 cr4 cr5 fr sr sxr syr
  have Qr := Qr.mo mz
  have M := M.trans mz
  clear hm2 mz
  have Or := Qr
  obtain ⟨⟨cr0, cr1, cr2, cr3, cr4, cr5⟩, fr, sr⟩ := Or
  have fr := fun o => fr o
  have sxr : w.heap.size < w2.heap.size + 1 := by omega
  have syr : w.heap.size < w2.heap.size + 1 + 1 := by omega
  go_wp2_with fail
  refine (signed_n false n s _ (by have := HN.out; omega) (by have := HM.out; have := HN.out; unfold MM; omega)).mono ?_
  rintro e w3 ⟨rfl, hm3⟩
  have mz : Mo w2 w3 := Mo.trans (by repeat (first | with_reducible exact Mo.refl _ | with_reducible apply Mo.drew | with_reducible apply Mo.alloc)) hm3
  clear cr0 cr1 cr2 cr3 cr4 cr5 fr sr sxr syr
  have Qr := Qr.mo mz
  have M := M.trans mz
  clear hm3 mz
  have Or := Qr
  obtain ⟨⟨cr0, cr1, cr2, cr3, cr4, cr5⟩, fr, sr⟩ := Or
  have fr := fun o => fr o
  have sxr : w.heap.size < w3.heap.size + 1 := by omega
  have syr : w.heap.size < w3.heap.size + 1 + 1 := by omega
  go_wp2
  refine bodyPost_ret (v := .tuple #[dc (false && !decide (n = 0)) n s, .int .i64 0]) (by simp [results, Try.results26, go_sem, *]) rfl ?_
  refine ⟨by simp, ?_⟩
  repeat (first | with_reducible exact M | with_reducible exact Mo.refl _ | with_reducible apply Mo.drew | with_reducible apply Mo.drewN | with_reducible apply Mo.alloc | with_reducible refine Mo.setCell ?_ (by simp <;> omega) _)
set_option maxHeartbeats 4000000 in
theorem ofInt_neg (n s : Int) (w : World) (h : sc s = true) (hn0 : n < 0) (hn : -9223372036854775808 ≤ n) : Calls Try.prog 26 #[.int .i64 n, .int .i64 s] w fun e w' => e = .returned (.tuple #[dz n s, .int .i64 0]) ∧ Mo w w' := by
  have d1 : decide (n < 0) = true := decide_eq_true hn0
  have w1 : IntKind.u64.wrap n = n + 18446744073709551616 := by rw [IntKind.wrap_u64]; omega
  have w2 : IntKind.u64.wrap (-(n + 18446744073709551616)) = -n := by rw [IntKind.wrap_u64]; omega
  have e1 : ab n = -n := by unfold ab; rw [if_pos hn0]
  rw [dz, e1, d1]
  clear e1
  have HN : Hid _ := hn0
  have HM : Hid _ := hn
  clear hn0 hn
  go_enter Try.func26, Try.ntmps26
  go_wp2_with fail
  refine (isScale_n s _).mono ?_
  rintro e w1 ⟨rfl, hm1⟩
  have mz : Mo w w1 := Mo.trans (by repeat (first | with_reducible exact Mo.refl _ | with_reducible apply Mo.drew | with_reducible apply Mo.alloc)) hm1
  have M := mz
  have Qr : AtD w1 (w.heap.size) false 0 0 := AtD.mo ⟨by simp [go_sem, zl0, zl1, zl2, zl3], fun o => by simp [go_sem], by simp <;> omega⟩ hm1
  clear hm1 mz
  have Or := Qr
  obtain ⟨⟨cr0, cr1, cr2, cr3, cr4, cr5⟩, fr, sr⟩ := Or
  have fr := fun o => fr o
  have sxr : w.heap.size < w1.heap.size + 1 := by omega
  have syr : w.heap.size < w1.heap.size + 1 + 1 := by omega
  go_wp2_with fail
  refine (from20_any (-n) _ ⟨by have := HN.out; omega, by have := HM.out; omega⟩).mono ?_
  rintro e w2 ⟨rfl, hm2⟩
  have mz : Mo w1 w2 := Mo.trans (by repeat (first | with_reducible exact Mo.refl _ | with_reducible apply Mo.drew | with_reducible apply Mo.alloc)) hm2
  clear cr0 cr1 cr2 cr3 cr4 cr5 fr sr sxr syr
  have Qr := Qr.mo mz
  have M := M.trans mz
  clear hm2 mz
  have Or := Qr
  obtain ⟨⟨cr0, cr1, cr2, cr3, cr4, cr5⟩, fr, sr⟩ := Or
  have fr := fun o => fr o
  have sxr : w.heap.size < w2.heap.size + 1 := by omega
  have syr : w.heap.size < w2.heap.size + 1 + 1 := by omega
  go_wp2_with fail
  refine (signed_n true (-n) s _ (by have := HN.out; omega) (by have := HM.out; have := HN.out; unfold MM; omega)).mono ?_
  rintro e w3 ⟨rfl, hm3⟩
  have mz : Mo w2 w3 := Mo.trans (by repeat (first | with_reducible exact Mo.refl _ | with_reducible apply Mo.drew | with_reducible apply Mo.alloc)) hm3
  clear cr0 cr1 cr2 cr3 cr4 cr5 fr sr sxr syr
  have Qr := Qr.mo mz
  have M := M.trans mz
  clear hm3 mz
  have Or := Qr
  obtain ⟨⟨cr0, cr1, cr2, cr3, cr4, cr5⟩, fr, sr⟩ := Or
  have fr := fun o => fr o
  have sxr : w.heap.size < w3.heap.size + 1 := by omega
  have syr : w.heap.size < w3.heap.size + 1 + 1 := by omega
  go_wp2
  refine bodyPost_ret (v := .tuple #[dc (true && !decide ((-n) = 0)) (-n) s, .int .i64 0]) (by simp [results, Try.results26, go_sem, *]) rfl ?_
  refine ⟨by rw [decide_eq_false (p := -n = 0) (by have := HN.out; omega)]; rfl, ?_⟩
  repeat (first | with_reducible exact M | with_reducible exact Mo.refl _ | with_reducible apply Mo.drew | with_reducible apply Mo.drewN | with_reducible apply Mo.alloc | with_reducible refine Mo.setCell ?_ (by simp <;> omega) _)
theorem ofInt_ok (n s : Int) (w : World) (h : sc s = true) (h0 : -9223372036854775808 ≤ n) (h1 : n < 9223372036854775808) : Calls Try.prog 26 #[.int .i64 n, .int .i64 s] w fun e w' => e = .returned (.tuple #[dz n s, .int .i64 0]) ∧ Mo w w' := by
  by_cases hn : n < 0
  · exact ofInt_neg n s w h hn h0
  · exact ofInt_pos n s w h (by omega) h1
end Go.Proofs.Ytoiiekmkcpcbgaa
