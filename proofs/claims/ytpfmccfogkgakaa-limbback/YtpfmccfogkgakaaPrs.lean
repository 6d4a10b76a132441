/-
  limb.Parse of a text of digits whose number has room: the walk.
-/
import Derived.Test.YtpfmccfogkgakaaApd
import Derived.Test.YtpfmccfogkgakaaIsd
namespace Go.Proofs.Ytpfmccfogkgakaa
open Go.RowKit
/-- The number that bytes say, as decimal digits. -/
def pv (l : List UInt8) : Int := l.foldl (fun v c => v * 10 + ((c.toNat : Int) - 48)) 0
theorem pv_snoc (l : List UInt8) (c : UInt8) : pv (l ++ [c]) = pv l * 10 + ((c.toNat : Int) - 48) := by unfold pv; rw [List.foldl_append]; rfl
/-- The world between two bytes. -/
def PW (w wr : World) (v : Int) : Prop := Mo w wr ∧ At0 wr w.heap.size ∧ AtN wr (w.heap.size + 1) v
theorem PW.mo {w wr w1 : World} {v : Int} (h : PW w wr v) (m : Mo wr w1) : PW w w1 v := ⟨h.1.trans m, h.2.1.mo m, h.2.2.mo m⟩
theorem PW.put {w w1 : World} {v : Int} (h : PW w w1 v) (z : Int) : PW w (st4 w1 (w.heap.size + 1) z) z :=
  ⟨h.1.st4 (by omega) z, h.2.1.st (by omega) z, h.2.2.same z⟩
theorem PW.start (w : World) : PW w ((w.alloc (.cells #[.int .u64 0, .int .u64 0, .int .u64 0, .int .u64 0] 24)).alloc (.cells #[.int .u64 0, .int .u64 0, .int .u64 0, .int .u64 0] 24)) 0 := by
  have z0 : l0 0 = 0 := by decide
  have z1 : l1 0 = 0 := by decide
  have z2 : l2 0 = 0 := by decide
  have z3 : l3 0 = 0 := by decide
  exact ⟨((Mo.refl _).alloc _ _).alloc _ _, ⟨by simp [At4, go_sem], fun o => by simp [go_sem], by simp <;> omega⟩, ⟨by simp [At4, go_sem, z0, z1, z2, z3], fun o => by simp [go_sem], by simp⟩⟩
set_option maxHeartbeats 1000000 in
theorem parse_yes (s : ByteArray) (w : World) (hs : s.size ≤ maxLen) (h0 : s.toList.isEmpty = false) (hd : Hid (∀ (k : Nat) (h : k < s.size), 48 ≤ (s[k].toNat : Int) ∧ (s[k].toNat : Int) ≤ 57)) (hp : 0 < s.size) (hz : Hid (s.size = 1 ∨ ((s[0].toNat : Int) == 48) = false))
    (hv : Hid (∀ k, k ≤ s.size → 0 ≤ pv (s.data.toList.take k) ∧ pv (s.data.toList.take k) < MM)) :
    Calls Try.prog 25 #[.string s] w fun e w' => e = .returned (.tuple #[nv (pv s.data.toList), .int .i64 0]) ∧ Mo w w' := by
  have HS := PW.start w
  have HS' : Hid _ := HS
  have hs' := hs
  unfold maxLen at hs
  clear HS
  go_enter Try.func25, Try.ntmps25
  go_wp2_with fail
  refine (isd_yes s _ hs' h0 hd hp hz.out).mono ?_
  rintro e w1 ⟨rfl, rfl⟩
  clear h0
  go_wp2
  go_loopw [13] (fun i wr => ∃ k : Nat, k ≤ s.size ∧ i = .int .i64 k ∧ PW w wr (pv (s.data.toList.take k))) (fun i _ => s.size - (intOf i).toNat)
  case atStart => exact ⟨0, Nat.zero_le _, rfl, HS'.out⟩
  case round =>
    obtain ⟨k, hk, rfl, hw⟩ := hrel
    by_cases hlt : k < s.size
    · obtain ⟨b1, b2⟩ := hd.out k hlt
      have hw0 := hw
      obtain ⟨_, _, ⟨⟨c0, c1, c2, c3⟩, _, _⟩⟩ := hw
      have v1 := hv.out k hk
      have v2 := hv.out (k + 1) hlt
      rw [take_snoc' s k hlt, pv_snoc] at v2
      have Hf : Hid (fits (pv (s.data.toList.take k)) ((s[k].toNat : Int) - 48) = true) := decide_eq_true v2.2
      have Hn : Hid (pv (s.data.toList.take k) * 10 + ((s[k].toNat : Int) - 48) = pv (s.data.toList.take (k + 1))) := by
        show _ = _
        rw [take_snoc' s k hlt, pv_snoc]
      have V1 : Hid _ := v1
      clear v1 v2
      generalize pv (s.data.toList.take k) = V at *
      go_wp2
      go_region_with
        (first | (go_at_call 44; refine (apd_any V (s[k].toNat : Int) _ V1.out.1 V1.out.2 b1 b2).mono ?_; rintro e w2 ⟨rfl, hm2⟩; rw [Hf.out, Hn.out]; have hw1 := hw0.mo (Mo.trans (by repeat (first | with_reducible exact Mo.refl _ | with_reducible apply Mo.drew)) hm2); have hw2 := hw1; obtain ⟨_, _, ⟨⟨c0, c1, c2, c3⟩, ff, _⟩⟩ := hw2; have ff := fun o => ff o))
      all_goals
        go_wp2
        go_roundw
        case rel => exact ⟨k + 1, by omega, by go_num, hw1.put _⟩
        case measure => simp [intOf]; omega
    · obtain ⟨m, ⟨⟨d0, d1, d2, d3⟩, fd, zd⟩, ⟨⟨c0, c1, c2, c3⟩, _, _⟩⟩ := hw
      have fd := fun o => fd o
      have Hk : Hid (s.data.toList.take k = s.data.toList) := List.take_of_length_le (by simp; omega)
      rw [Hk.out] at c0 c1 c2 c3
      clear Hk
      go_wp2
      refine bodyPost_ret (v := .tuple #[nv (pv s.data.toList), .int .i64 0]) (by simp [results, Try.results25, go_sem, d0, d1, d2, d3]) rfl ?_
      exact ⟨rfl, m.st4 (Nat.le_refl _) _⟩
end Go.Proofs.Ytpfmccfogkgakaa
