/-
  limb.Ten, whatever the number: the walk.
-/
import Derived.Test.YthpekbohmfmffaaMul
import Derived.Test.YthpekbohmfmffaaAid
namespace Go.Proofs.Ythpekbohmfmffaa
open Go.RowKit
theorem nv_mul_mod (n c : Int) : nv (n % MM * c) = nv (n * c) := by
  rw [← nv_mod (n % MM * c), ← nv_mod (n * c), Int.mul_emod, Int.emod_emod, ← Int.mul_emod]
/-- The world between two rounds. -/
def TT (w wr : World) (b : Nat) (n : Int) : Prop := Mo w wr ∧ w.heap.size < b ∧ b < wr.heap.size ∧ At4 wr w.heap.size 0 0 0 0 ∧ Fz wr w.heap.size ∧ At4 wr b (l0 n) (l1 n) (l2 n) (l3 n) ∧ Fz wr b
theorem TT.mo {w wr w1 : World} {b : Nat} {n : Int} (h : TT w wr b n) (m : Mo wr w1) : TT w w1 b n := by
  obtain ⟨h1, h2, h3, h4, h5, h6, h7⟩ := h
  have := m.size
  exact ⟨h1.trans m, h2, by omega, h4.mo m (by omega), h5.mo m, h6.mo m h3, h7.mo m⟩
theorem TT.put {w w1 : World} {b : Nat} {n q : Int} (h : TT w w1 b n) : TT w ((((w1.setCell ⟨b, 0, none⟩ (.int .u64 (l0 q))).setCell ⟨b, 1, none⟩ (.int .u64 (l1 q))).setCell ⟨b, 2, none⟩ (.int .u64 (l2 q))).setCell ⟨b, 3, none⟩ (.int .u64 (l3 q))) b q := by
  obtain ⟨h1, h2, h3, ⟨c0, c1, c2, c3⟩, h5, ⟨b0, b1, b2, b3⟩, h7⟩ := h
  have ne : ¬ w.heap.size = b := by omega
  have le : w.heap.size ≤ b := by omega
  refine ⟨(((h1.setCell le _).setCell le _).setCell le _).setCell le _, h2, by simpa [World.setCell] using h3, ?_, ?_, ?_, ?_⟩
  · simp [At4, go_sem, *]
  · intro o; simp [World.frozen?_setCell, h5 o]
  · simp [At4, go_sem, *]
  · intro o; simp [World.frozen?_setCell, h7 o]

set_option maxHeartbeats 1000000 in
theorem ten_no (n : Int) (w : World) (h : n < 0 ∨ 77 < n) :
    Calls Try.prog 65 #[.int .i64 n] w fun e w' => e = .returned (.tuple #[nv 0, .bool false]) ∧ Mo w w' := by
  have e : nv 0 = .agg #[.int .u64 0, .int .u64 0, .int .u64 0, .int .u64 0] := by simp [nv, l0, l1, l2, l3]
  rw [e]
  clear e
  by_cases hn : n < 0
  · clear h
    go_enter Try.func65, Try.ntmps65
    go_wp2
    refine bodyPost_ret (by simp [results, Try.results65, go_sem]; rfl) rfl ?_
    exact ⟨rfl, (Mo.refl _).alloc _ _⟩
  · have h7 : 77 < n := by omega
    clear h
    go_enter Try.func65, Try.ntmps65
    go_wp2
    refine bodyPost_ret (by simp [results, Try.results65, go_sem]; rfl) rfl ?_
    exact ⟨rfl, (Mo.refl _).alloc _ _⟩

set_option maxHeartbeats 1000000 in
theorem ten_yes (n : Nat) (w : World) (h7 : n ≤ 77) :
    Calls Try.prog 65 #[.int .i64 n] w fun e w' => e = .returned (.tuple #[nv (10 ^ n), .bool true]) ∧ Mo w w' := by
  have e1 : nv 1 = .agg #[.int .u64 1, .int .u64 0, .int .u64 0, .int .u64 0] := by simp [nv, l0, l1, l2, l3]
  have hn : ¬ ((n : Int) < 0) := by omega
  have hn7 : ¬ (77 < (n : Int)) := by omega
  go_enter Try.func65, Try.ntmps65
  go_wp2_with fail
  refine (from20_any 1 _ ⟨by decide, by decide⟩).mono ?_
  rintro e w1 ⟨rfl, hm⟩
  have hz := hm.size
  simp only [World.size_alloc] at hz
  have hA : At4 w1 w.heap.size 0 0 0 0 := At4.mo (by simp [At4, go_sem]) hm (by simp)
  have hF : Fz w1 w.heap.size := Fz.mo (fun o => by simp [go_sem]) hm
  have hM : Mo w w1 := ((Mo.refl _).alloc _ _).trans hm
  have hS : TT w (w1.alloc (.cells #[.int .u64 (l0 1), .int .u64 (l1 1), .int .u64 (l2 1), .int .u64 (l3 1)] 24)) w1.heap.size 1 := by
    have z : w.heap.size < w1.heap.size := by omega
    exact ⟨hM.alloc _ _, z, by simp, hA.mo ((Mo.refl _).alloc _ _) z, hF.mo ((Mo.refl _).alloc _ _), by simp [At4, go_sem], fun o => by simp [go_sem]⟩
  have HS : Hid _ := hS
  clear hS hA hF e1
  go_wp2
  go_loopw [14] (fun i wr => ∃ k : Nat, k ≤ n ∧ i = .int .i64 k ∧ TT w wr w1.heap.size (10 ^ k)) (fun i _ => n - (intOf i).toNat)
  case atStart => exact ⟨0, Nat.zero_le _, rfl, HS.out⟩
  case round =>
    obtain ⟨k, hk, rfl, ht⟩ := hrel
    by_cases hlt : k < n
    · have ht0 := ht
      obtain ⟨g1, g2, g3, ⟨c0, c1, c2, c3⟩, g5, ⟨b0, b1, b2, b3⟩, g7⟩ := ht
      clear g5 g7
      go_wp2_with fail
      refine (mulLimb_any (l0 (10 ^ k)) (l1 (10 ^ k)) (l2 (10 ^ k)) (l3 (10 ^ k)) 10 _ (u4_lb _) ⟨by decide, by decide⟩).mono ?_
      rintro e w2 ⟨rfl, hm2⟩
      rw [vl_nv, nv_mul_mod, ← Int.pow_succ]
      have t1 := ht0.mo hm2
      have t3 := t1.put (q := 10 ^ (k + 1))
      clear b0 b1 b2 b3 c0 c1 c2 c3 g1 g2 g3
      obtain ⟨g1, g2, g3, ⟨c0, c1, c2, c3⟩, g5, ⟨b0, b1, b2, b3⟩, g7⟩ := t1
      have g7 := fun o => g7 o
      clear g5
      go_wp2
      go_roundw
      case rel => exact ⟨k + 1, by omega, by go_num, t3⟩
      case measure => simp [intOf]; omega
    · have hkn : k = n := by omega
      subst hkn
      obtain ⟨g1, g2, g3, ⟨c0, c1, c2, c3⟩, g5, ⟨b0, b1, b2, b3⟩, g7⟩ := ht
      have g5 := fun o => g5 o
      go_wp2
      refine bodyPost_ret (v := .tuple #[nv (10 ^ k), .bool true]) (by simp [results, Try.results65, go_sem, c0, c1, c2, c3]) rfl ?_
      refine ⟨rfl, ?_⟩
      exact (((g1.setCell (Nat.le_refl _) _).setCell (Nat.le_refl _) _).setCell (Nat.le_refl _) _).setCell (Nat.le_refl _) _
end Go.Proofs.Ythpekbohmfmffaa
