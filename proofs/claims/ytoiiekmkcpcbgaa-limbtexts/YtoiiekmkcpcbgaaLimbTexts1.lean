/-
  A part of the proof.
-/
import Derived.Test.YtoiiekmkcpcbgaaB6
/-
  The document's Ten, whatever the number: the walk.
-/
namespace Go.Proofs.Ytoiiekmkcpcbgaa
open Go.RowKit
set_option maxHeartbeats 1000000 in
theorem rten_no (n : Int) (w : World) (h : n < 0 ∨ 77 < n) :
    Calls Try.prog 23 #[.int .i64 n] w fun e w' => e = .returned (.tuple #[nv 0, .bool false]) ∧ Mo w w' := by
  have e : nv 0 = .agg #[.int .u64 0, .int .u64 0, .int .u64 0, .int .u64 0] := by simp [nv, l0, l1, l2, l3]
  rw [e]
  clear e
  by_cases hn : n < 0
  · clear h
    go_enter Try.func23, Try.ntmps23
    go_wp2
    refine bodyPost_ret (by simp [results, Try.results23, go_sem]; rfl) rfl ?_
    exact ⟨rfl, (Mo.refl _).alloc _ _⟩
  · have h7 : 77 < n := by omega
    clear h
    go_enter Try.func23, Try.ntmps23
    go_wp2
    refine bodyPost_ret (by simp [results, Try.results23, go_sem]; rfl) rfl ?_
    exact ⟨rfl, (Mo.refl _).alloc _ _⟩
theorem pow_lt (k : Nat) (h : k ≤ 77) : (0 : Int) < 10 ^ k ∧ (10 : Int) ^ k < MM := by
  refine ⟨Int.pow_pos (by decide), ?_⟩
  have h1 : (10 : Nat) ^ k ≤ 10 ^ 77 := Nat.pow_le_pow_right (by decide) h
  have h2 : (10 : Nat) ^ 77 < 115792089237316195423570985008687907853269984665640564039457584007913129639936 := by decide
  have h3 : ((10 ^ k : Nat) : Int) = (10 : Int) ^ k := by rw [Int.natCast_pow]; rfl
  rw [← h3]
  unfold MM
  omega
set_option maxHeartbeats 4000000 in
theorem rten_yes (n : Nat) (w : World) (h7 : n ≤ 77) :
    Calls Try.prog 23 #[.int .i64 n] w fun e w' => e = .returned (.tuple #[nv (10 ^ n), .bool true]) ∧ Mo w w' := by
  have hn : ¬ ((n : Int) < 0) := by omega
  have hn7 : ¬ (77 < (n : Int)) := by omega
  go_enter Try.func23, Try.ntmps23
  go_wp2_with fail
  refine (from34_any 1 _ ⟨by decide, by decide⟩).mono ?_
  rintro e w1 ⟨rfl, hm⟩
  have hz := hm.size
  simp only [World.size_alloc] at hz
  have hA : At4 w1 w.heap.size 0 0 0 0 := At4.mo (by simp [At4, go_sem]) hm (by simp)
  have hF : Fz w1 w.heap.size := Fz.mo (fun o => by simp [go_sem]) hm
  have hM : Mo w w1 := ((Mo.refl _).alloc _ _).trans hm
  have hS : TT w (w1.alloc (.cells #[.int .u64 (l0 1), .int .u64 (l1 1), .int .u64 (l2 1), .int .u64 (l3 1)] 24)) w1.heap.size 1 := by
    have z : w.heap.size < w1.heap.size := by omega
    exact ⟨hM.alloc _ _, z, by simp, hA.mo ((Mo.refl _).alloc _ _) z, hF.mo ((Mo.refl _).alloc _ _), by simp [At4, go_sem], fun o => by simp [go_sem]⟩
  have HS : Hid _ := hS
  clear hS hA hF
  go_wp2
  go_loopw [5] (fun i wr => ∃ k : Nat, k ≤ n ∧ i = .int .i64 k ∧ TT w wr w1.heap.size (10 ^ k)) (fun i _ => n - (intOf i).toNat)
  case atStart => exact ⟨0, Nat.zero_le _, rfl, HS.out⟩
  case round =>
    obtain ⟨k, hk, rfl, ht⟩ := hrel
    by_cases hlt : k < n
    · have pk := pow_lt k (by omega)
      have hstep : Hid (10 ^ k * 10 = (10 : Int) ^ (k + 1)) := (Int.pow_succ 10 k).symm
      obtain ⟨P, hP⟩ : ∃ P : Int, P = 10 ^ k := ⟨_, rfl⟩
      rw [← hP] at ht pk hstep
      have HP : Hid _ := hP
      clear hP
      have dk : decide ((k : Int) < (n : Int)) = true := decide_eq_true (by omega)
      go_upto_region 7 with fail
      have ht0 := ht
      obtain ⟨g1, g2, g3, ⟨c0, c1, c2, c3⟩, g5, ⟨b0, b1, b2, b3⟩, g7⟩ := ht0
      clear g5 g7
      go_region_with
        (first | (go_at_call 69; refine (from34_any 10 _ ⟨by decide, by decide⟩).mono ?_; rintro e w5 ⟨rfl, hm5⟩; have m5 : Mo wr w5 := Mo.trans (by repeat (first | with_reducible exact Mo.refl _ | with_reducible apply Mo.drew | with_reducible apply Mo.alloc)) hm5; obtain ⟨_, _, _, _, _, ⟨x0, x1, x2, x3⟩, _⟩ := ht.mo m5) | (go_at_call 16; refine (rmul_n P 10 _ (by omega) pk.2 (by decide) (by decide)).mono ?_; rintro e w6 ⟨rfl, hm6⟩; have m6 : Mo w5 w6 := Mo.trans (by repeat (first | with_reducible exact Mo.refl _ | with_reducible apply Mo.drew | with_reducible apply Mo.alloc)) hm6; have m7 := m5.trans m6; obtain ⟨_, _, zs, _, _, ⟨z0, z1, z2, z3⟩, zf⟩ := ht.mo m7; have zf := fun o => zf o))
      all_goals
        go_wp2
        go_roundw
        case rel =>
          refine ⟨k + 1, by omega, by go_num, ?_⟩
          rw [← hstep.out]
          exact (ht.mo m7).put
        case measure => simp [intOf]; omega
    · have hkn : k = n := by omega
      subst hkn
      obtain ⟨g1, g2, g3, ⟨c0, c1, c2, c3⟩, g5, ⟨b0, b1, b2, b3⟩, g7⟩ := ht
      have g5 := fun o => g5 o
      go_wp2
      refine bodyPost_ret (v := .tuple #[nv (10 ^ k), .bool true]) (by simp [results, Try.results23, go_sem, c0, c1, c2, c3]) rfl ?_
      refine ⟨rfl, ?_⟩
      exact (((g1.setCell (Nat.le_refl _) _).setCell (Nat.le_refl _) _).setCell (Nat.le_refl _) _).setCell (Nat.le_refl _) _
end Go.Proofs.Ytoiiekmkcpcbgaa
/-
  The document's Check, both, cmp, shift: the walks.
-/
namespace Go.Proofs.Ytoiiekmkcpcbgaa
open Go.RowKit
set_option maxHeartbeats 2000000 in
theorem rcheck_n (b : Bool) (n s : Int) (w : World) (hn0 : 0 ≤ n) (hn : n < MM) : Calls Try.prog 30 #[dc b n s] w fun e w' => e = .returned (.int .i64 (ck b n s)) ∧ Mo w w' := by
  have q4 := eq4
  have z4 := zb hn0 hn
  by_cases h1 : s < 0
  · have d1 : decide (s < 0) = true := decide_eq_true h1
    have e : Hid (ck b n s = 20) := by show _ = _; unfold ck sc; rw [decide_eq_false (p := 0 ≤ s) (by omega)]; rfl
    clear h1
    go_enter Try.func30, Try.ntmps30
    go_wp2
    go_ret
    exact ⟨by rw [e.out]; rfl, (Mo.refl _).alloc _ _⟩
  · by_cases h2 : s > 18
    · have d1 : decide (s < 0) = false := decide_eq_false h1
      have d2 : decide (s > 18) = true := decide_eq_true h2
      have e : Hid (ck b n s = 20) := by show _ = _; unfold ck sc; rw [decide_eq_false (p := s ≤ 18) (by omega)]; simp
      clear h1 h2
      go_enter Try.func30, Try.ntmps30
      go_wp2
      go_ret
      exact ⟨by rw [e.out]; rfl, (Mo.refl _).alloc _ _⟩
    · have d1 : decide (s < 0) = false := decide_eq_false h1
      have d2 : decide (s > 18) = false := decide_eq_false h2
      have e : Hid (sc s = true) := by show _ = _; unfold sc; rw [decide_eq_true (p := 0 ≤ s) (by omega), decide_eq_true (p := s ≤ 18) (by omega)]; rfl
      clear h1 h2
      cases hb : b <;> cases hz : decide (n = 0)
      all_goals
        rw [hz] at z4
        have HZ : Hid _ := hz
        clear hz
        go_enter Try.func30, Try.ntmps30
        go_wp2
        go_ret
        exact ⟨by rw [ck, e.out, HZ.out]; rfl, (Mo.refl _).alloc _ _⟩
theorem rcheck_ok (b : Bool) (n s : Int) (w : World) (hn0 : 0 ≤ n) (hn : n < MM) (h : ck b n s = 0) : Calls Try.prog 30 #[dc b n s] w fun e w' => e = .returned (.int .i64 0) ∧ Mo w w' := by
  have := rcheck_n b n s w hn0 hn
  rw [h] at this
  exact this
theorem rcheck_no (b : Bool) (n s : Int) (w : World) (hn0 : 0 ≤ n) (hn : n < MM) (h : ck b n s ≠ 0) : Calls Try.prog 30 #[dc b n s] w fun e w' => e = .returned (.int .i64 20) ∧ Mo w w' := by
  have := rcheck_n b n s w hn0 hn
  rw [ck_20 h] at this
  exact this
set_option maxHeartbeats 4000000 in
theorem rboth_ok (b : Bool) (n s : Int) (c : Bool) (m t : Int) (w : World) (hn0 : 0 ≤ n) (hn : n < MM) (hm0 : 0 ≤ m) (hm : m < MM) (h1 : ck b n s = 0) (h2 : ck c m t = 0) :
    Calls Try.prog 81 #[dc b n s, dc c m t] w fun e w' => e = .returned (.int .i64 0) ∧ Mo w w' := by
  go_enter Try.func81, Try.ntmps81
  go_wp2_with fail
  refine (rcheck_ok b n s _ hn0 hn h1).mono ?_
  rintro e w1 ⟨rfl, hm1⟩
  have mz : Mo w w1 := Mo.trans (by repeat (first | with_reducible exact Mo.refl _ | with_reducible apply Mo.drew | with_reducible apply Mo.alloc)) hm1
  have M := mz
  have Qa : AtD w1 (w.heap.size) b n s := AtD.mo ⟨by simp [go_sem], fun o => by simp [go_sem], by simp <;> omega⟩ hm1
  have Qb : AtD w1 (w.heap.size + 1) c m t := AtD.mo ⟨by simp [go_sem], fun o => by simp [go_sem], by simp <;> omega⟩ hm1
  clear hm1 mz
  have Oa := Qa
  obtain ⟨⟨ca0, ca1, ca2, ca3, ca4, ca5⟩, fa, sa⟩ := Oa
  have fa := fun o => fa o
  have sxa : w.heap.size < w1.heap.size + 1 := by omega
  have sya : w.heap.size < w1.heap.size + 1 + 1 := by omega
  have Ob := Qb
  obtain ⟨⟨cb0, cb1, cb2, cb3, cb4, cb5⟩, fb, sb⟩ := Ob
  have fb := fun o => fb o
  have sxb : w.heap.size + 1 < w1.heap.size + 1 := by omega
  have syb : w.heap.size + 1 < w1.heap.size + 1 + 1 := by omega
  go_wp2_with fail
  refine (rcheck_ok c m t _ hm0 hm h2).mono ?_
  rintro e w2 ⟨rfl, hm2⟩
  have mz : Mo w1 w2 := Mo.trans (by repeat (first | with_reducible exact Mo.refl _ | with_reducible apply Mo.drew | with_reducible apply Mo.alloc)) hm2
  clear ca0 ca1 ca2 ca3 ca4 ca5 fa sa sxa sya cb0 cb1 cb2 cb3 cb4 cb5 fb sb sxb syb
  have Qa := Qa.mo mz
  have Qb := Qb.mo mz
  have M := M.trans mz
  clear hm2 mz
  have Oa := Qa
  obtain ⟨⟨ca0, ca1, ca2, ca3, ca4, ca5⟩, fa, sa⟩ := Oa
  have fa := fun o => fa o
  have sxa : w.heap.size < w2.heap.size + 1 := by omega
  have sya : w.heap.size < w2.heap.size + 1 + 1 := by omega
  have Ob := Qb
  obtain ⟨⟨cb0, cb1, cb2, cb3, cb4, cb5⟩, fb, sb⟩ := Ob
  have fb := fun o => fb o
  have sxb : w.heap.size + 1 < w2.heap.size + 1 := by omega
  have syb : w.heap.size + 1 < w2.heap.size + 1 + 1 := by omega
  go_wp2
  go_ret
  exact ⟨rfl, M⟩
set_option maxHeartbeats 4000000 in
theorem rboth_no1 (b : Bool) (n s : Int) (c : Bool) (m t : Int) (w : World) (hn0 : 0 ≤ n) (hn : n < MM) (_hm0 : 0 ≤ m) (_hm : m < MM) (h1 : ck b n s ≠ 0)  :
    Calls Try.prog 81 #[dc b n s, dc c m t] w fun e w' => e = .returned (.int .i64 20) ∧ Mo w w' := by
  go_enter Try.func81, Try.ntmps81
  go_wp2_with fail
  refine (rcheck_no b n s _ hn0 hn h1).mono ?_
  rintro e w1 ⟨rfl, hm1⟩
  have mz : Mo w w1 := Mo.trans (by repeat (first | with_reducible exact Mo.refl _ | with_reducible apply Mo.drew | with_reducible apply Mo.alloc)) hm1
  have M := mz
  have Qa : AtD w1 (w.heap.size) b n s := AtD.mo ⟨by simp [go_sem], fun o => by simp [go_sem], by simp <;> omega⟩ hm1
  have Qb : AtD w1 (w.heap.size + 1) c m t := AtD.mo ⟨by simp [go_sem], fun o => by simp [go_sem], by simp <;> omega⟩ hm1
  clear hm1 mz
  have Oa := Qa
  obtain ⟨⟨ca0, ca1, ca2, ca3, ca4, ca5⟩, fa, sa⟩ := Oa
  have fa := fun o => fa o
  have sxa : w.heap.size < w1.heap.size + 1 := by omega
  have sya : w.heap.size < w1.heap.size + 1 + 1 := by omega
  have Ob := Qb
  obtain ⟨⟨cb0, cb1, cb2, cb3, cb4, cb5⟩, fb, sb⟩ := Ob
  have fb := fun o => fb o
  have sxb : w.heap.size + 1 < w1.heap.size + 1 := by omega
  have syb : w.heap.size + 1 < w1.heap.size + 1 + 1 := by omega
  go_wp2
  go_ret
  exact ⟨rfl, M⟩
set_option maxHeartbeats 4000000 in
theorem rboth_no2 (b : Bool) (n s : Int) (c : Bool) (m t : Int) (w : World) (hn0 : 0 ≤ n) (hn : n < MM) (hm0 : 0 ≤ m) (hm : m < MM) (h1 : ck b n s = 0) (h2 : ck c m t ≠ 0) :
    Calls Try.prog 81 #[dc b n s, dc c m t] w fun e w' => e = .returned (.int .i64 20) ∧ Mo w w' := by
  go_enter Try.func81, Try.ntmps81
  go_wp2_with fail
  refine (rcheck_ok b n s _ hn0 hn h1).mono ?_
  rintro e w1 ⟨rfl, hm1⟩
  have mz : Mo w w1 := Mo.trans (by repeat (first | with_reducible exact Mo.refl _ | with_reducible apply Mo.drew | with_reducible apply Mo.alloc)) hm1
  have M := mz
  have Qa : AtD w1 (w.heap.size) b n s := AtD.mo ⟨by simp [go_sem], fun o => by simp [go_sem], by simp <;> omega⟩ hm1
  have Qb : AtD w1 (w.heap.size + 1) c m t := AtD.mo ⟨by simp [go_sem], fun o => by simp [go_sem], by simp <;> omega⟩ hm1
  clear hm1 mz
  have Oa := Qa
  obtain ⟨⟨ca0, ca1, ca2, ca3, ca4, ca5⟩, fa, sa⟩ := Oa
  have fa := fun o => fa o
  have sxa : w.heap.size < w1.heap.size + 1 := by omega
  have sya : w.heap.size < w1.heap.size + 1 + 1 := by omega
  have Ob := Qb
  obtain ⟨⟨cb0, cb1, cb2, cb3, cb4, cb5⟩, fb, sb⟩ := Ob
  have fb := fun o => fb o
  have sxb : w.heap.size + 1 < w1.heap.size + 1 := by omega
  have syb : w.heap.size + 1 < w1.heap.size + 1 + 1 := by omega
  go_wp2_with fail
  refine (rcheck_no c m t _ hm0 hm h2).mono ?_
  rintro e w2 ⟨rfl, hm2⟩
  have mz : Mo w1 w2 := Mo.trans (by repeat (first | with_reducible exact Mo.refl _ | with_reducible apply Mo.drew | with_reducible apply Mo.alloc)) hm2
  clear ca0 ca1 ca2 ca3 ca4 ca5 fa sa sxa sya cb0 cb1 cb2 cb3 cb4 cb5 fb sb sxb syb
  have Qa := Qa.mo mz
  have Qb := Qb.mo mz
  have M := M.trans mz
  clear hm2 mz
  have Oa := Qa
  obtain ⟨⟨ca0, ca1, ca2, ca3, ca4, ca5⟩, fa, sa⟩ := Oa
  have fa := fun o => fa o
  have sxa : w.heap.size < w2.heap.size + 1 := by omega
  have sya : w.heap.size < w2.heap.size + 1 + 1 := by omega
  have Ob := Qb
  obtain ⟨⟨cb0, cb1, cb2, cb3, cb4, cb5⟩, fb, sb⟩ := Ob
  have fb := fun o => fb o
  have sxb : w.heap.size + 1 < w2.heap.size + 1 := by omega
  have syb : w.heap.size + 1 < w2.heap.size + 1 + 1 := by omega
  go_wp2
  go_ret
  exact ⟨rfl, M⟩
theorem rboth_no (b : Bool) (n s : Int) (c : Bool) (m t : Int) (w : World) (hn0 : 0 ≤ n) (hn : n < MM) (hm0 : 0 ≤ m) (hm : m < MM) (h : ¬ (ck b n s = 0 ∧ ck c m t = 0)) :
    Calls Try.prog 81 #[dc b n s, dc c m t] w fun e w' => e = .returned (.int .i64 20) ∧ Mo w w' := by
  by_cases h1 : ck b n s = 0
  · exact rboth_no2 b n s c m t w hn0 hn hm0 hm h1 (fun h2 => h ⟨h1, h2⟩)
  · exact rboth_no1 b n s c m t w hn0 hn hm0 hm h1
set_option maxHeartbeats 4000000 in
theorem shift_n (n : Int) (k : Nat) (w : World) (hn0 : 0 ≤ n) (hn : n < MM) (hk : k ≤ 77) :
    Calls Try.prog 82 #[nv n, .int .i64 (k : Int)] w fun e w' => e = .returned (dw (n * 10 ^ k)) ∧ Mo w w' := by
  have t := pow_lt k hk
  have hten : ∀ w, Calls Try.prog 23 #[.int .i64 (k : Int)] w fun e w' => e = .returned (.tuple #[nv (10 ^ k), .bool true]) ∧ Mo w w' := fun w => rten_yes k w hk
  generalize (10 : Int) ^ k = T at *
  go_enter Try.func82, Try.ntmps82
  go_wp2_with fail
  refine (hten _).mono ?_
  rintro e w1 ⟨rfl, hm1⟩
  have mz : Mo w w1 := Mo.trans (by repeat (first | with_reducible exact Mo.refl _ | with_reducible apply Mo.drew | with_reducible apply Mo.alloc)) hm1
  have M := mz
  have Qn : AtN w1 (w.heap.size) n := AtN.mo ⟨by simp [At4, go_sem], fun o => by simp [go_sem], by simp <;> omega⟩ hm1
  have Qr : AtW w1 (w.heap.size + 1) 0 := AtW.mo ⟨by simp [go_sem, zl0, zl1, zl2, zl3], fun o => by simp [go_sem], by simp <;> omega⟩ hm1
  clear hm1 mz
  have On := Qn
  obtain ⟨⟨cn0, cn1, cn2, cn3⟩, fn, sn⟩ := On
  have fn := fun o => fn o
  have sxn : w.heap.size < w1.heap.size + 1 := by omega
  have syn : w.heap.size < w1.heap.size + 1 + 1 := by omega
  have Or := Qr
  obtain ⟨⟨cr0, cr1, cr2, cr3, cr4, cr5, cr6, cr7⟩, fr, sr⟩ := Or
  have fr := fun o => fr o
  have sxr : w.heap.size + 1 < w1.heap.size + 1 := by omega
  have syr : w.heap.size + 1 < w1.heap.size + 1 + 1 := by omega
  go_wp2_with fail
  refine (rmul_n n T _ hn0 hn (by omega) t.2).mono ?_
  rintro e w2 ⟨rfl, hm2⟩
  have mz : Mo w1 w2 := Mo.trans (by repeat (first | with_reducible exact Mo.refl _ | with_reducible apply Mo.drew | with_reducible apply Mo.alloc)) hm2
  have zw1n := sn
  have zw1r := sr
  clear cn0 cn1 cn2 cn3 fn sn sxn syn cr0 cr1 cr2 cr3 cr4 cr5 cr6 cr7 fr sr sxr syr
  have Qn := Qn.mo mz
  have Qr := Qr.mo mz
  have M := M.trans mz
  clear hm2 mz
  have On := Qn
  obtain ⟨⟨cn0, cn1, cn2, cn3⟩, fn, sn⟩ := On
  have fn := fun o => fn o
  have sxn : w.heap.size < w2.heap.size + 1 := by omega
  have syn : w.heap.size < w2.heap.size + 1 + 1 := by omega
  have Or := Qr
  obtain ⟨⟨cr0, cr1, cr2, cr3, cr4, cr5, cr6, cr7⟩, fr, sr⟩ := Or
  have fr := fun o => fr o
  have sxr : w.heap.size + 1 < w2.heap.size + 1 := by omega
  have syr : w.heap.size + 1 < w2.heap.size + 1 + 1 := by omega
  have a : Mo w2 ((((w2).alloc (.cells #[.int .u64 (l0 (n * T / MM)), .int .u64 (l1 (n * T / MM)), .int .u64 (l2 (n * T / MM)), .int .u64 (l3 (n * T / MM))] 24))).alloc (.cells #[.int .u64 (l0 (n * T)), .int .u64 (l1 (n * T)), .int .u64 (l2 (n * T)), .int .u64 (l3 (n * T))] 24)) := by repeat (first | with_reducible exact Mo.refl _ | with_reducible apply Mo.alloc)
  have zW0n := sn
  have zW0r := sr
  clear cn0 cn1 cn2 cn3 fn sn sxn syn cr0 cr1 cr2 cr3 cr4 cr5 cr6 cr7 fr sr sxr syr
  have Qn := Qn.mo a
  have Qr := Qr.mo a
  have M := M.trans a
  have Qh : AtN ((((w2).alloc (.cells #[.int .u64 (l0 (n * T / MM)), .int .u64 (l1 (n * T / MM)), .int .u64 (l2 (n * T / MM)), .int .u64 (l3 (n * T / MM))] 24))).alloc (.cells #[.int .u64 (l0 (n * T)), .int .u64 (l1 (n * T)), .int .u64 (l2 (n * T)), .int .u64 (l3 (n * T))] 24)) (w2.heap.size) (n * T / MM) := ⟨by simp [At4, go_sem], fun o => by simp [go_sem], by simp <;> omega⟩
  have Ql : AtN ((((w2).alloc (.cells #[.int .u64 (l0 (n * T / MM)), .int .u64 (l1 (n * T / MM)), .int .u64 (l2 (n * T / MM)), .int .u64 (l3 (n * T / MM))] 24))).alloc (.cells #[.int .u64 (l0 (n * T)), .int .u64 (l1 (n * T)), .int .u64 (l2 (n * T)), .int .u64 (l3 (n * T))] 24)) (w2.heap.size + 1) (n * T) := ⟨by simp [At4, go_sem], fun o => by simp [go_sem], by simp <;> omega⟩
  clear a
  go_upto_region 3 with fail
  generalize ((((w2).alloc (.cells #[.int .u64 (l0 (n * T / MM)), .int .u64 (l1 (n * T / MM)), .int .u64 (l2 (n * T / MM)), .int .u64 (l3 (n * T / MM))] 24))).alloc (.cells #[.int .u64 (l0 (n * T)), .int .u64 (l1 (n * T)), .int .u64 (l2 (n * T)), .int .u64 (l3 (n * T))] 24)) = W0 at *
  have On := Qn
  obtain ⟨⟨cn0, cn1, cn2, cn3⟩, fn, sn⟩ := On
  have fn := fun o => fn o
  have sxn : w.heap.size < W0.heap.size + 1 := by omega
  have syn : w.heap.size < W0.heap.size + 1 + 1 := by omega
  have Or := Qr
  obtain ⟨⟨cr0, cr1, cr2, cr3, cr4, cr5, cr6, cr7⟩, fr, sr⟩ := Or
  have fr := fun o => fr o
  have sxr : w.heap.size + 1 < W0.heap.size + 1 := by omega
  have syr : w.heap.size + 1 < W0.heap.size + 1 + 1 := by omega
  have Oh := Qh
  obtain ⟨⟨ch0, ch1, ch2, ch3⟩, fh, sh⟩ := Oh
  have fh := fun o => fh o
  have sxh : w2.heap.size < W0.heap.size + 1 := by omega
  have syh : w2.heap.size < W0.heap.size + 1 + 1 := by omega
  have Ol := Ql
  obtain ⟨⟨cl0, cl1, cl2, cl3⟩, fl, sl⟩ := Ol
  have fl := fun o => fl o
  have sxl : w2.heap.size + 1 < W0.heap.size + 1 := by omega
  have syl : w2.heap.size + 1 < W0.heap.size + 1 + 1 := by omega
  go_wp2
  refine bodyPost_ret (v := dw (n * T)) (by simp [results, Try.results82, go_sem, *]) rfl ?_
  refine ⟨rfl, ?_⟩
  repeat (first | with_reducible exact M | with_reducible exact Mo.refl _ | with_reducible apply Mo.drew | with_reducible apply Mo.drewN | with_reducible apply Mo.alloc | with_reducible refine Mo.setCell ?_ (by simp <;> omega) _)
end Go.Proofs.Ytoiiekmkcpcbgaa
/-
  Trim, the program's and the document's.
-/
namespace Go.Proofs.Ytoiiekmkcpcbgaa
open Go.RowKit
abbrev dcl (b : Bool) (n s : Int) : List Value := [.bool b, .int .u64 (l0 n), .int .u64 (l1 n), .int .u64 (l2 n), .int .u64 (l3 n), .int .i64 s]
abbrev dcr (b : Bool) (n s : Int) : Array Value := #[.bool b, .int .u64 (l0 n), .int .u64 (l1 n), .int .u64 (l2 n), .int .u64 (l3 n), .int .i64 s]
abbrev nvli (n : Int) : List Value := [.int .u64 (l0 n), .int .u64 (l1 n), .int .u64 (l2 n), .int .u64 (l3 n)]
abbrev nvar (n : Int) : Array Value := #[.int .u64 (l0 n), .int .u64 (l1 n), .int .u64 (l2 n), .int .u64 (l3 n)]
abbrev z40l : List Value := [.bool false, .int .u64 0, .int .u64 0, .int .u64 0, .int .u64 0, .int .i64 0]
/-- A number with as few digits behind the point as it needs. -/
def trN : Nat → Int → Int × Nat
  | 0, n => (n, 0)
  | k + 1, n => if n % 10 = 0 then trN k (n / 10) else (n, k + 1)
theorem gtr0_run {a b : Int} (h : decide (a > b) = false) (x y : Operand) (w : World) : (do eqGuard .gtr 3 x y (.int .i64 a) (.int .i64 b); binOp .gtr 3 (.int .i64 a) (.int .i64 b)).run Try.prog w = .ok (.bool false) w := by
  rw [← h]; kernel_rfl
theorem gtr1_run {a b : Int} (h : decide (a > b) = true) (x y : Operand) (w : World) : (do eqGuard .gtr 3 x y (.int .i64 a) (.int .i64 b); binOp .gtr 3 (.int .i64 a) (.int .i64 b)).run Try.prog w = .ok (.bool true) w := by
  rw [← h]; kernel_rfl
theorem sub1_run {k : Nat} (hk : k ≤ 18) (x y : Operand) (w : World) : (do eqGuard .sub 3 x y (.int .i64 ((k + 1 : Nat) : Int)) (.int .i64 1); binOp .sub 3 (.int .i64 ((k + 1 : Nat) : Int)) (.int .i64 1)).run Try.prog w = .ok (.int .i64 (k : Int)) w := by
  have e : (do eqGuard .sub 3 x y (.int .i64 ((k + 1 : Nat) : Int)) (.int .i64 1); binOp .sub 3 (.int .i64 ((k + 1 : Nat) : Int)) (.int .i64 1)).run Try.prog w = .ok (.int .i64 (IntKind.i64.wrap (((k + 1 : Nat) : Int) - 1))) w := by kernel_rfl
  have h : IntKind.i64.wrap (((k + 1 : Nat) : Int) - 1) = (k : Int) := by rw [IntKind.wrap_i64]; omega
  rw [e, h]
theorem ten1_n (w : World) : Calls Try.prog 74 #[.int .i64 1] w fun e w' => e = .returned (nv 10) ∧ Mo w w' := dten_n 1 w (by decide)
theorem from69_n (w : World) : Calls Try.prog 69 #[.int .u64 10] w fun e w' => e = .returned (nv 10) ∧ Mo w w' := from34_any 10 w ⟨by decide, by decide⟩
theorem div10_n (n : Int) (w : World) (h0 : 0 ≤ n) (h : n < MM) : Calls Try.prog 18 #[.agg #[.int .u64 0, .int .u64 0, .int .u64 0, .int .u64 0], nv n, nv 10] w fun e w' => e = .returned (.tuple #[nv (n / 10), nv (n % 10), .bool true]) ∧ Mo w w' := by
  have := div_n 0 n 10 w (by decide) (by decide) h0 h (by decide) (by decide)
  have e1 : dq 0 n 10 = n / 10 := by unfold dq; rw [if_neg (by decide)]; simp
  have e2 : dr 0 n 10 = n % 10 := by unfold dr; rw [if_neg (by decide)]; simp
  have e3 : dok 0 10 = true := rfl
  rw [e1, e2, e3] at this
  exact this
theorem rdiv10_n (n : Int) (w : World) (h0 : 0 ≤ n) (h : n < MM) : Calls Try.prog 19 #[.agg #[.int .u64 0, .int .u64 0, .int .u64 0, .int .u64 0], nv n, nv 10] w fun e w' => e = .returned (.tuple #[nv (n / 10), nv (n % 10), .bool true]) ∧ Mo w w' := by
  have := rdiv_n 0 n 10 w (by decide) (by decide) h0 h (by decide) (by decide)
  have e1 : dq 0 n 10 = n / 10 := by unfold dq; rw [if_neg (by decide)]; simp
  have e2 : dr 0 n 10 = n % 10 := by unfold dr; rw [if_neg (by decide)]; simp
  have e3 : dok 0 10 = true := rfl
  rw [e1, e2, e3] at this
  exact this
/-- Two new blocks in slots that hold older ones, or nothing. -/
theorem Ds.two {sp : List Sp} {f : Nat → Value} {w : World} (i j : Nat) (h : ∀ q, spNew (spAt sp q) = true → q = i ∨ q = j) (h1 : ∀ k, f i = pt k 0 → k < w.heap.size) (h2 : ∀ k, f j = pt k 0 → k < w.heap.size) (h3 : ∀ k, f i = pt k 0 → f j ≠ pt k 0) : Ds sp f w := by
  refine ⟨fun q hq k hk => ?_, fun q r hq hr hne k hk hk2 => ?_⟩
  · rcases h q hq with rfl | rfl
    · exact h1 k hk
    · exact h2 k hk
  · rcases h q hq with rfl | rfl <;> rcases h r hr with rfl | rfl
    · exact hne rfl
    · exact h3 k hk hk2
    · exact h3 k hk2 hk
    · exact hne rfl
theorem trim_no (b : Bool) (n0 s0 : Int) (w : World) (hn0 : 0 ≤ n0) (hnM : n0 < MM) (hck : ck b n0 s0 ≠ 0) :
    Calls Try.prog 45 #[dc b n0 s0] w fun e' w' => e' = .returned (er 20) ∧ Mo w w' := by
  refine w_enter 36 Try.func45 Try.ntmps45 rfl rfl ?_
  have M : Mo w w := Mo.refl _
  refine w_seq ?_
  refine w_reg ?_
  refine wl_box 40 (.tmp 0) (dc b (n0) (s0)) ((dcr b (n0) (s0))) rfl rfl (fun _ => by kernel_rfl) rfl ?_
  intro k1 w1 hk hz hq Q1
  have N_k1 : w.heap.size ≤ k1 := by have := M.size; omega
  replace M := M.trans hq
  clear hk hz hq
  refine wl_alloc 40 #[.bool false, .int .u64 0, .int .u64 0, .int .u64 0, .int .u64 0, .int .i64 0] rfl (fun _ => by kernel_rfl) rfl ?_
  intro k2 w2 hk hz hq Q2
  have ne_k1_k2 : k1 ≠ k2 := by have := Q1.lt; omega
  have N_k2 : w.heap.size ≤ k2 := by have := M.size; omega
  replace Q1 := Q1.mo hq
  replace M := M.trans hq
  clear hk hz hq
  refine wl_mv (.const (.int .i64 (0))) (.int .i64 (0)) (fun _ => rfl) rfl rfl ?_
  refine w_nil ?_
  refine xn_then ?_
  refine w_seq ?_
  refine w_seq ?_
  refine w_reg ?_
  refine wl_load 40 (.tmp 1) (pt k1 0) (dc b (n0) (s0)) rfl rfl (run_row Q1 40 0 6 (dcl b (n0) (s0)) rfl Try.underlying40 rfl sz40) rfl ?_
  refine wl_call 29 [(.tmp 8)] _ [dc b (n0) (s0)] (.int .i64 (20)) rfl rfl (fun _ _ => by kernel_rfl) (check_no b n0 s0 _ hn0 hnM hck) rfl ?_
  intro w3 hq
  replace Q1 := Q1.mo hq
  replace Q2 := Q2.mo hq
  replace M := M.trans hq
  clear hq
  refine wl_mv (.tmp 9) (.int .i64 (20)) (fun _ => rfl) rfl rfl ?_
  refine w_nil ?_
  refine xn_then ?_
  refine w_seq ?_
  refine w_reg ?_
  refine wl_mv (.tmp 4) (.int .i64 (20)) (fun _ => rfl) rfl rfl ?_
  refine wl_bin (fun x y => do eqGuard .neq 32 (.tmp 10) (.const (.int .i64 (0))) x y; binOp .neq 32 x y) (.tmp 10) (.const (.int .i64 (0))) (.int .i64 (20)) (.int .i64 (0)) (.bool true) (fun _ => rfl) rfl rfl (by kernel_rfl) rfl ?_
  refine w_nil ?_
  refine xn_then ?_
  refine w_condT rfl ?_
  refine w_seq ?_
  refine w_reg ?_
  refine wl_build 40 [] [] (.agg #[.bool false, .int .u64 0, .int .u64 0, .int .u64 0, .int .u64 0, .int .i64 0]) rfl rfl (by kernel_rfl) rfl ?_
  refine wl_mv (.tmp 4) (.int .i64 (20)) (fun _ => rfl) rfl rfl ?_
  refine wl_st 40 (.tmp 2) (.tmp 12) k2 0 #[.bool false, .int .u64 0, .int .u64 0, .int .u64 0, .int .u64 0, .int .i64 0] [.bool false, .int .u64 0, .int .u64 0, .int .u64 0, .int .u64 0, .int .i64 0] [.bool false, .int .u64 0, .int .u64 0, .int .u64 0, .int .u64 0, .int .i64 0] Q2 rfl rfl rfl rfl rfl sz40 rfl rfl rfl ?_
  intro w4 hS Qn
  replace Q2 := Qn
  clear Qn
  replace Q1 := hS.other _ _ ne_k1_k2 Q1
  replace M := hS.mo _ N_k2 M
  clear hS
  refine wl_mv (.tmp 13) (.int .i64 (20)) (fun _ => rfl) rfl rfl ?_
  refine w_nil ?_
  refine xn_then ?_
  refine w_ret ?_
  refine xr_then ?_
  exact w_ret2 _ _ (.agg #[.bool false, .int .u64 0, .int .u64 0, .int .u64 0, .int .u64 0, .int .i64 0]) (.int .i64 (20)) rfl ⟨k2, rfl, (run_row Q2 40 0 6 [.bool false, .int .u64 0, .int .u64 0, .int .u64 0, .int .u64 0, .int .i64 0] rfl Try.underlying40 rfl sz40)⟩ rfl ⟨rfl, M⟩
theorem trim_ok (b : Bool) (n0 : Int) (k0 : Nat) (w : World) (hn0 : 0 ≤ n0) (hnM : n0 < MM) (hk18 : k0 ≤ 18) (hck : ck b n0 (k0 : Int) = 0) :
    Calls Try.prog 45 #[dc b n0 (k0 : Int)] w fun e' w' => e' = .returned (.tuple #[dc b (trN k0 n0).1 ((trN k0 n0).2 : Nat), .int .i64 0]) ∧ Mo w w' := by
  refine w_enter 36 Try.func45 Try.ntmps45 rfl rfl ?_
  have M : Mo w w := Mo.refl _
  refine w_seq ?_
  refine w_reg ?_
  refine wl_box 40 (.tmp 0) (dc b (n0) (k0)) ((dcr b (n0) (k0))) rfl rfl (fun _ => by kernel_rfl) rfl ?_
  intro k1 w1 hk hz hq Q1
  have N_k1 : w.heap.size ≤ k1 := by have := M.size; omega
  replace M := M.trans hq
  clear hk hz hq
  refine wl_alloc 40 #[.bool false, .int .u64 0, .int .u64 0, .int .u64 0, .int .u64 0, .int .i64 0] rfl (fun _ => by kernel_rfl) rfl ?_
  intro k2 w2 hk hz hq Q2
  have ne_k1_k2 : k1 ≠ k2 := by have := Q1.lt; omega
  have N_k2 : w.heap.size ≤ k2 := by have := M.size; omega
  replace Q1 := Q1.mo hq
  replace M := M.trans hq
  clear hk hz hq
  refine wl_mv (.const (.int .i64 (0))) (.int .i64 (0)) (fun _ => rfl) rfl rfl ?_
  refine w_nil ?_
  refine xn_then ?_
  refine w_seq ?_
  refine w_seq ?_
  refine w_reg ?_
  refine wl_load 40 (.tmp 1) (pt k1 0) (dc b (n0) (k0)) rfl rfl (run_row Q1 40 0 6 (dcl b (n0) (k0)) rfl Try.underlying40 rfl sz40) rfl ?_
  refine wl_call 29 [(.tmp 8)] _ [dc b (n0) (k0)] (.int .i64 (0)) rfl rfl (fun _ _ => by kernel_rfl) (check_ok b n0 (k0 : Int) _ hn0 hnM hck) rfl ?_
  intro w3 hq
  replace Q1 := Q1.mo hq
  replace Q2 := Q2.mo hq
  replace M := M.trans hq
  clear hq
  refine wl_mv (.tmp 9) (.int .i64 (0)) (fun _ => rfl) rfl rfl ?_
  refine w_nil ?_
  refine xn_then ?_
  refine w_seq ?_
  refine w_reg ?_
  refine wl_mv (.tmp 4) (.int .i64 (0)) (fun _ => rfl) rfl rfl ?_
  refine wl_bin (fun x y => do eqGuard .neq 32 (.tmp 10) (.const (.int .i64 (0))) x y; binOp .neq 32 x y) (.tmp 10) (.const (.int .i64 (0))) (.int .i64 (0)) (.int .i64 (0)) (.bool false) (fun _ => rfl) rfl rfl (by kernel_rfl) rfl ?_
  refine w_nil ?_
  refine xn_then ?_
  refine w_condF rfl ?_
  refine w_skip ?_
  refine xn_then ?_
  refine w_seq ?_
  refine w_block ?_
  refine w_loop (fun m l w1 => ∃ n : Int, 0 ≤ n ∧ n < MM ∧ trN m n = trN k0 n0 ∧ look l 1 = pt k1 0 ∧ look l 2 = pt k2 0 ∧ At w1 k1 (dcl b (n) ((m : Int))) ∧ At w1 k2 [.bool false, .int .u64 0, .int .u64 0, .int .u64 0, .int .u64 0, .int .i64 0] ∧ Mo w w1 ∧ (∀ k, look l 5 = pt k 0 → k < w1.heap.size) ∧ (∀ k, look l 6 = pt k 0 → k < w1.heap.size) ∧ (∀ k, look l 5 = pt k 0 → look l 6 ≠ pt k 0) ∧ m ≤ 18) k0 ⟨n0, hn0, hnM, rfl, rfl, rfl, Q1, Q2, M, (fun k h => by cases h), (fun k h => by cases h), (fun k h => by cases h), hk18⟩ ?_
  clear M Q1 Q2
  rintro m l wl ⟨n, hn, hnm, ht, e1, e2, Q1, Q2, M, d5, d6, d56, hm18⟩
  rcases m with _ | k
  · have hk : decide ((0 : Int) > 0) = false := rfl
    have htr : trN 0 n = (n, 0) := rfl
    refine w_seq ?_
    refine w_seq ?_
    refine w_reg ?_
    refine wl_un (fun v => Instr.fieldAt 40 v 2) (.tmp 1) (pt k1 0) (pt k1 5) (fun _ => rfl) e1 (by kernel_rfl) rfl ?_
    refine wl_load 3 (.tmp 14) (pt k1 5) (.int .i64 (((0 : Nat) : Int))) rfl rfl (run_one Q1 3 5 rfl Try.underlying3 rfl) rfl ?_
    refine wl_bin (fun x y => do eqGuard .gtr 3 (.tmp 15) (.const (.int .i64 (0))) x y; binOp .gtr 3 x y) (.tmp 15) (.const (.int .i64 (0))) (.int .i64 (((0 : Nat) : Int))) (.int .i64 (0)) (.bool false) (fun _ => rfl) rfl rfl (gtr0_run hk _ _ _) rfl ?_
    refine w_nil ?_
    refine xn_then ?_
    refine w_condF rfl ?_
    refine w_exit ?_
    refine xx_then ?_
    refine xx_then ?_
    refine xx_blk ?_
    refine xn_then ?_
    refine w_seq ?_
    refine w_reg ?_
    refine wl_load 40 (.tmp 1) (pt k1 0) (dc b (n) (((0 : Nat) : Int))) rfl e1 (run_row Q1 40 0 6 (dcl b (n) (((0 : Nat) : Int))) rfl Try.underlying40 rfl sz40) rfl ?_
    refine wl_st 40 (.tmp 2) (.tmp 35) k2 0 (dcr b (n) (((0 : Nat) : Int))) [.bool false, .int .u64 0, .int .u64 0, .int .u64 0, .int .u64 0, .int .i64 0] (dcl b (n) (((0 : Nat) : Int))) Q2 rfl rfl e2 rfl rfl sz40 rfl rfl rfl ?_
    intro w51 hS Qn
    replace Q2 := Qn
    clear Qn
    replace Q1 := hS.other _ _ ne_k1_k2 Q1
    replace M := hS.mo _ N_k2 M
    clear hS
    refine wl_mv (.const (.int .i64 (0))) (.int .i64 (0)) (fun _ => rfl) rfl rfl ?_
    refine w_nil ?_
    refine xn_then ?_
    refine w_ret ?_
    exact w_ret2 _ _ (dc b (n) (((0 : Nat) : Int))) (.int .i64 (0)) rfl ⟨k2, e2, (run_row Q2 40 0 6 (dcl b (n) (((0 : Nat) : Int))) rfl Try.underlying40 rfl sz40)⟩ rfl ⟨by rw [← ht, htr], M⟩
  · have hk : decide (((k + 1 : Nat) : Int) > 0) = true := decide_eq_true (by omega)
    by_cases hr : n % 10 = 0
    · have hz : (l0 (n % 10) == 0 && (l1 (n % 10) == 0 && (l2 (n % 10) == 0 && l3 (n % 10) == 0))) = true := by rw [zb (by omega) (by unfold MM; omega)]; exact decide_eq_true hr
      have htr : trN (k + 1) n = trN k (n / 10) := by show (if n % 10 = 0 then trN k (n / 10) else (n, k + 1)) = _; rw [if_pos hr]
      refine w_seq ?_
      refine w_seq ?_
      refine w_reg ?_
      refine wl_un (fun v => Instr.fieldAt 40 v 2) (.tmp 1) (pt k1 0) (pt k1 5) (fun _ => rfl) e1 (by kernel_rfl) rfl ?_
      refine wl_load 3 (.tmp 14) (pt k1 5) (.int .i64 (((k + 1 : Nat) : Int))) rfl rfl (run_one Q1 3 5 rfl Try.underlying3 rfl) rfl ?_
      refine wl_bin (fun x y => do eqGuard .gtr 3 (.tmp 15) (.const (.int .i64 (0))) x y; binOp .gtr 3 x y) (.tmp 15) (.const (.int .i64 (0))) (.int .i64 (((k + 1 : Nat) : Int))) (.int .i64 (0)) (.bool true) (fun _ => rfl) rfl rfl (gtr1_run hk _ _ _) rfl ?_
      refine w_nil ?_
      refine xn_then ?_
      refine w_condT rfl ?_
      refine w_skip ?_
      refine xn_then ?_
      refine w_block ?_
      refine w_seq ?_
      refine w_any 11 [.inl (.agg #[.int .u64 0, .int .u64 0, .int .u64 0, .int .u64 0]), .inl (pt k1 1), .inl (.agg #[.int .u64 (l0 (n)), .int .u64 (l1 (n)), .int .u64 (l2 (n)), .int .u64 (l3 (n))]), .inl (nv (10)), .inl (.tuple #[nv (n / 10), nv (n % 10), .bool true]), .inl (.tuple #[nv (n / 10), nv (n % 10), .bool true]), .inl (nv (n / 10)), .inl (nv (n % 10)), .inl (.bool true), .inr [.int .u64 0, .int .u64 0, .int .u64 0, .int .u64 0], .inr [.int .u64 0, .int .u64 0, .int .u64 0, .int .u64 0]] [7, 8] (by kernel_rfl) (by kernel_rfl) (by kernel_rfl) (by kernel_rfl) rfl (by kernel_rfl) (by kernel_rfl) (late_cons ⟨_, _, rfl, rfl, fun _ _ _ _ h => h, fun f hd => ⟨rfl, la_un (fun v => Instr.extract v 1) (.tmp 17) (.tuple #[nv (n / 10), nv (n % 10), .bool true]) (nv (n % 10)) (fun _ => rfl) (hd 5 rfl _ rfl) (fun w => by kernel_rfl)⟩⟩ (late_cons ⟨_, _, rfl, rfl, fun _ _ _ _ h => h, fun f hd => ⟨rfl, la_un (fun v => Instr.extract v 2) (.tmp 17) (.tuple #[nv (n / 10), nv (n % 10), .bool true]) (.bool true) (fun _ => rfl) (hd 5 rfl _ rfl) (fun w => by kernel_rfl)⟩⟩ late_nil)) ?_ ?_ ?_
      · exact Ds.two 9 10 (fun q hq => by rcases q with _ | _ | _ | _ | _ | _ | _ | _ | _ | _ | _ | q <;> first | (left; rfl) | (right; rfl) | cases hq) d5 d6 d56
      · refine ea_cons ?_ (ea_cons ?_ (ea_cons ?_ (ea_cons ?_ (ea_cons ?_ (ea_cons ?_ (ea_cons ?_ (ea_cons ?_ (ea_cons ?_ (ea_cons ?_ (ea_cons ?_ (ea_nil)))))))))))
        · exact og_eq (.agg #[.int .u64 0, .int .u64 0, .int .u64 0, .int .u64 0]) rfl (fun f wf hq hd K hK => go_run rfl (wo_build 24 [] [] (.agg #[.int .u64 0, .int .u64 0, .int .u64 0, .int .u64 0]) rfl rfl (by kernel_rfl) (hK _ (Mo.refl _))))
        · exact og_eq (pt k1 1) rfl (fun f wf hq hd K hK => go_run rfl (wo_un (fun v => Instr.fieldAt 40 v 1) (.tmp 1) (pt k1 0) (pt k1 1) (fun _ => rfl) e1 (by kernel_rfl) (hK _ (Mo.refl _))))
        · exact og_eq (.agg #[.int .u64 (l0 (n)), .int .u64 (l1 (n)), .int .u64 (l2 (n)), .int .u64 (l3 (n))]) rfl (fun f wf hq hd K hK => have Q1 := Q1.mo hq; go_run rfl (wo_load 24 (.tmp 19) (pt k1 1) (.agg #[.int .u64 (l0 (n)), .int .u64 (l1 (n)), .int .u64 (l2 (n)), .int .u64 (l3 (n))]) rfl (hd 1 rfl) (run_row Q1 24 1 4 [.int .u64 (l0 (n)), .int .u64 (l1 (n)), .int .u64 (l2 (n)), .int .u64 (l3 (n))] rfl Try.underlying24 rfl sz24) (hK _ (Mo.refl _))))
        · exact og_eq (nv (10)) rfl (fun f wf hq hd K hK => go_run rfl (wo_call 74 [(.const (.int .i64 (1)))] _ [.int .i64 (1)] (nv (10)) rfl rfl (fun _ _ => by kernel_rfl) (ten1_n _) hK))
        · exact og_eq (.tuple #[nv (n / 10), nv (n % 10), .bool true]) rfl (fun f wf hq hd K hK => go_run rfl (wo_call 18 [(.tmp 18), (.tmp 20), (.tmp 21)] _ [.agg #[.int .u64 0, .int .u64 0, .int .u64 0, .int .u64 0], .agg #[.int .u64 (l0 (n)), .int .u64 (l1 (n)), .int .u64 (l2 (n)), .int .u64 (l3 (n))], nv (10)] (.tuple #[nv (n / 10), nv (n % 10), .bool true]) rfl (li3 (hd 0 rfl) (hd 2 rfl) (hd 3 rfl)) (fun _ _ => by kernel_rfl) (div10_n n _ hn hnm) hK))
        · exact og_eq (.tuple #[nv (n / 10), nv (n % 10), .bool true]) rfl (fun f wf hq hd K hK => go_run rfl (wo_mv (.tmp 22) (.tuple #[nv (n / 10), nv (n % 10), .bool true]) (fun _ => rfl) (hd 4 rfl) (hK _ (Mo.refl _))))
        · exact og_eq (nv (n / 10)) rfl (fun f wf hq hd K hK => go_run rfl (wo_un (fun v => Instr.extract v 0) (.tmp 17) (.tuple #[nv (n / 10), nv (n % 10), .bool true]) (nv (n / 10)) (fun _ => rfl) (hd 5 rfl) (by kernel_rfl) (hK _ (Mo.refl _))))
        · exact og_eq (nv (n % 10)) rfl (fun f wf hq hd K hK => go_run rfl (wo_un (fun v => Instr.extract v 1) (.tmp 17) (.tuple #[nv (n / 10), nv (n % 10), .bool true]) (nv (n % 10)) (fun _ => rfl) (hd 5 rfl) (by kernel_rfl) (hK _ (Mo.refl _))))
        · exact og_eq (.bool true) rfl (fun f wf hq hd K hK => go_run rfl (wo_un (fun v => Instr.extract v 2) (.tmp 17) (.tuple #[nv (n / 10), nv (n % 10), .bool true]) (.bool true) (fun _ => rfl) (hd 5 rfl) (by kernel_rfl) (hK _ (Mo.refl _))))
        · exact og_new [.int .u64 0, .int .u64 0, .int .u64 0, .int .u64 0] rfl (fun f wf hq hd K hK => go_run rfl (wo_alloc 24 #[.int .u64 0, .int .u64 0, .int .u64 0, .int .u64 0] rfl (fun _ => by kernel_rfl) hK))
        · exact og_new [.int .u64 0, .int .u64 0, .int .u64 0, .int .u64 0] rfl (fun f wf hq hd K hK => go_run rfl (wo_alloc 24 #[.int .u64 0, .int .u64 0, .int .u64 0, .int .u64 0] rfl (fun _ => by kernel_rfl) hK))
      intro kf51 w51 hq hR hne
      obtain ⟨N_k51, Q51⟩ := hR 9 _ rfl rfl
      obtain ⟨N_k52, Q52⟩ := hR 10 _ rfl rfl
      have ne_k1_k51 : k1 ≠ (kf51 9) := by have := Q1.lt; omega
      have ne_k2_k51 : k2 ≠ (kf51 9) := by have := Q2.lt; omega
      have ne_k51_k52 := hne 9 10 rfl rfl rfl rfl (by decide)
      replace N_k51 := Nat.le_trans M.size N_k51
      have ne_k1_k52 : k1 ≠ (kf51 10) := by have := Q1.lt; omega
      have ne_k2_k52 : k2 ≠ (kf51 10) := by have := Q2.lt; omega
      replace N_k52 := Nat.le_trans M.size N_k52
      replace Q1 := Q1.mo hq
      replace Q2 := Q2.mo hq
      replace M := M.trans hq
      clear hq hR hne
      refine wl_st 24 (.tmp 5) (.tmp 23) (kf51 9) 0 (nvar (n / 10)) [.int .u64 0, .int .u64 0, .int .u64 0, .int .u64 0] (nvli (n / 10)) Q51 rfl rfl rfl rfl rfl sz24 rfl rfl rfl ?_
      intro w52 hS Qn
      replace Q51 := Qn
      clear Qn
      replace Q1 := hS.other _ _ ne_k1_k51 Q1
      replace Q2 := hS.other _ _ ne_k2_k51 Q2
      replace Q52 := hS.other _ _ ne_k51_k52.symm Q52
      replace M := hS.mo _ N_k51 M
      clear hS
      refine wl_st 24 (.tmp 6) (.tmp 24) (kf51 10) 0 (nvar (n % 10)) [.int .u64 0, .int .u64 0, .int .u64 0, .int .u64 0] (nvli (n % 10)) Q52 rfl rfl rfl rfl rfl sz24 rfl rfl rfl ?_
      intro w53 hS Qn
      replace Q52 := Qn
      clear Qn
      replace Q1 := hS.other _ _ ne_k1_k52 Q1
      replace Q2 := hS.other _ _ ne_k2_k52 Q2
      replace Q51 := hS.other _ _ ne_k51_k52 Q51
      replace M := hS.mo _ N_k52 M
      clear hS
      refine wl_mv (.tmp 25) (.bool true) (fun _ => rfl) rfl rfl ?_
      refine w_nil ?_
      refine xn_then ?_
      refine w_seq ?_
      refine w_seq ?_
      refine w_reg ?_
      refine wl_load 24 (.tmp 6) (pt (kf51 10) 0) (nv (n % 10)) rfl rfl (run_row Q52 24 0 4 (nvli (n % 10)) rfl Try.underlying24 rfl sz24) rfl ?_
      refine wl_build 24 [] [] (.agg #[.int .u64 0, .int .u64 0, .int .u64 0, .int .u64 0]) rfl rfl (by kernel_rfl) rfl ?_
      refine wl_bin (fun x y => do eqGuard .neq 24 (.tmp 26) (.tmp 27) x y; binOp .neq 24 x y) (.tmp 26) (.tmp 27) (nv (n % 10)) (.agg #[.int .u64 0, .int .u64 0, .int .u64 0, .int .u64 0]) (.bool false) (fun _ => rfl) rfl rfl (nen_run (r := true) hz _ _ _) rfl ?_
      refine w_nil ?_
      refine xn_then ?_
      refine w_condF rfl ?_
      refine w_skip ?_
      refine xn_then ?_
      refine w_seq ?_
      refine w_reg ?_
      refine wl_load 24 (.tmp 5) (pt (kf51 9) 0) (nv (n / 10)) rfl rfl (run_row Q51 24 0 4 (nvli (n / 10)) rfl Try.underlying24 rfl sz24) rfl ?_
      refine wl_un (fun v => Instr.fieldAt 40 v 1) (.tmp 1) (pt k1 0) (pt k1 1) (fun _ => rfl) e1 (by kernel_rfl) rfl ?_
      refine wl_st 24 (.tmp 30) (.tmp 29) k1 1 (nvar (n / 10)) (dcl b (n) (((k + 1 : Nat) : Int))) [.bool b, .int .u64 (l0 (n / 10)), .int .u64 (l1 (n / 10)), .int .u64 (l2 (n / 10)), .int .u64 (l3 (n / 10)), .int .i64 (((k + 1 : Nat) : Int))] Q1 rfl rfl rfl rfl rfl sz24 rfl rfl rfl ?_
      intro w54 hS Qn
      replace Q1 := Qn
      clear Qn
      replace Q2 := hS.other _ _ ne_k1_k2.symm Q2
      replace Q51 := hS.other _ _ ne_k1_k51.symm Q51
      replace Q52 := hS.other _ _ ne_k1_k52.symm Q52
      replace M := hS.mo _ N_k1 M
      clear hS
      refine w_nil ?_
      refine xn_then ?_
      refine w_reg ?_
      refine wl_un (fun v => Instr.fieldAt 40 v 2) (.tmp 1) (pt k1 0) (pt k1 5) (fun _ => rfl) e1 (by kernel_rfl) rfl ?_
      refine wl_load 3 (.tmp 31) (pt k1 5) (.int .i64 (((k + 1 : Nat) : Int))) rfl rfl (run_one Q1 3 5 rfl Try.underlying3 rfl) rfl ?_
      refine wl_bin (fun x y => do eqGuard .sub 3 (.tmp 32) (.const (.int .i64 (1))) x y; binOp .sub 3 x y) (.tmp 32) (.const (.int .i64 (1))) (.int .i64 (((k + 1 : Nat) : Int))) (.int .i64 (1)) (.int .i64 ((k : Int))) (fun _ => rfl) rfl rfl (sub1_run (by omega) _ _ _) rfl ?_
      refine wl_un (fun v => Instr.fieldAt 40 v 2) (.tmp 1) (pt k1 0) (pt k1 5) (fun _ => rfl) e1 (by kernel_rfl) rfl ?_
      refine wl_st1 3 (.tmp 34) (.tmp 33) k1 5 (.int .i64 ((k : Int))) [.bool b, .int .u64 (l0 (n / 10)), .int .u64 (l1 (n / 10)), .int .u64 (l2 (n / 10)), .int .u64 (l3 (n / 10)), .int .i64 (((k + 1 : Nat) : Int))] [.bool b, .int .u64 (l0 (n / 10)), .int .u64 (l1 (n / 10)), .int .u64 (l2 (n / 10)), .int .u64 (l3 (n / 10)), .int .i64 ((k : Int))] Q1 rfl rfl rfl rfl rfl sz3 rfl rfl rfl rfl ?_
      intro w55 hS Qn
      replace Q1 := Qn
      clear Qn
      replace Q2 := hS.other _ _ ne_k1_k2.symm Q2
      replace Q51 := hS.other _ _ ne_k1_k51.symm Q51
      replace Q52 := hS.other _ _ ne_k1_k52.symm Q52
      replace M := hS.mo _ N_k1 M
      clear hS
      refine w_nil ?_
      refine xn_blk ?_
      exact xn_loop k (by omega) ⟨n / 10, by omega, by omega, by rw [← ht, htr], e1, e2, Q1, Q2, M, (fun k h => by have e : pt (kf51 9) 0 = pt k 0 := h; rw [← pt_inj e]; exact Q51.lt), (fun k h => by have e : pt (kf51 10) 0 = pt k 0 := h; rw [← pt_inj e]; exact Q52.lt), (fun k h h2 => by have e : pt (kf51 9) 0 = pt k 0 := h; have e2 : pt (kf51 10) 0 = pt k 0 := h2; exact ne_k51_k52 (pt_inj (e.trans e2.symm))), by omega⟩
    · have hz : (l0 (n % 10) == 0 && (l1 (n % 10) == 0 && (l2 (n % 10) == 0 && l3 (n % 10) == 0))) = false := by rw [zb (by omega) (by unfold MM; omega)]; exact decide_eq_false hr
      have htr : trN (k + 1) n = (n, k + 1) := by show (if n % 10 = 0 then trN k (n / 10) else (n, k + 1)) = _; rw [if_neg hr]
      refine w_seq ?_
      refine w_seq ?_
      refine w_reg ?_
      refine wl_un (fun v => Instr.fieldAt 40 v 2) (.tmp 1) (pt k1 0) (pt k1 5) (fun _ => rfl) e1 (by kernel_rfl) rfl ?_
      refine wl_load 3 (.tmp 14) (pt k1 5) (.int .i64 (((k + 1 : Nat) : Int))) rfl rfl (run_one Q1 3 5 rfl Try.underlying3 rfl) rfl ?_
      refine wl_bin (fun x y => do eqGuard .gtr 3 (.tmp 15) (.const (.int .i64 (0))) x y; binOp .gtr 3 x y) (.tmp 15) (.const (.int .i64 (0))) (.int .i64 (((k + 1 : Nat) : Int))) (.int .i64 (0)) (.bool true) (fun _ => rfl) rfl rfl (gtr1_run hk _ _ _) rfl ?_
      refine w_nil ?_
      refine xn_then ?_
      refine w_condT rfl ?_
      refine w_skip ?_
      refine xn_then ?_
      refine w_block ?_
      refine w_seq ?_
      refine w_any 11 [.inl (.agg #[.int .u64 0, .int .u64 0, .int .u64 0, .int .u64 0]), .inl (pt k1 1), .inl (.agg #[.int .u64 (l0 (n)), .int .u64 (l1 (n)), .int .u64 (l2 (n)), .int .u64 (l3 (n))]), .inl (nv (10)), .inl (.tuple #[nv (n / 10), nv (n % 10), .bool true]), .inl (.tuple #[nv (n / 10), nv (n % 10), .bool true]), .inl (nv (n / 10)), .inl (nv (n % 10)), .inl (.bool true), .inr [.int .u64 0, .int .u64 0, .int .u64 0, .int .u64 0], .inr [.int .u64 0, .int .u64 0, .int .u64 0, .int .u64 0]] [7, 8] (by kernel_rfl) (by kernel_rfl) (by kernel_rfl) (by kernel_rfl) rfl (by kernel_rfl) (by kernel_rfl) (late_cons ⟨_, _, rfl, rfl, fun _ _ _ _ h => h, fun f hd => ⟨rfl, la_un (fun v => Instr.extract v 1) (.tmp 17) (.tuple #[nv (n / 10), nv (n % 10), .bool true]) (nv (n % 10)) (fun _ => rfl) (hd 5 rfl _ rfl) (fun w => by kernel_rfl)⟩⟩ (late_cons ⟨_, _, rfl, rfl, fun _ _ _ _ h => h, fun f hd => ⟨rfl, la_un (fun v => Instr.extract v 2) (.tmp 17) (.tuple #[nv (n / 10), nv (n % 10), .bool true]) (.bool true) (fun _ => rfl) (hd 5 rfl _ rfl) (fun w => by kernel_rfl)⟩⟩ late_nil)) ?_ ?_ ?_
      · exact Ds.two 9 10 (fun q hq => by rcases q with _ | _ | _ | _ | _ | _ | _ | _ | _ | _ | _ | q <;> first | (left; rfl) | (right; rfl) | cases hq) d5 d6 d56
      · refine ea_cons ?_ (ea_cons ?_ (ea_cons ?_ (ea_cons ?_ (ea_cons ?_ (ea_cons ?_ (ea_cons ?_ (ea_cons ?_ (ea_cons ?_ (ea_cons ?_ (ea_cons ?_ (ea_nil)))))))))))
        · exact og_eq (.agg #[.int .u64 0, .int .u64 0, .int .u64 0, .int .u64 0]) rfl (fun f wf hq hd K hK => go_run rfl (wo_build 24 [] [] (.agg #[.int .u64 0, .int .u64 0, .int .u64 0, .int .u64 0]) rfl rfl (by kernel_rfl) (hK _ (Mo.refl _))))
        · exact og_eq (pt k1 1) rfl (fun f wf hq hd K hK => go_run rfl (wo_un (fun v => Instr.fieldAt 40 v 1) (.tmp 1) (pt k1 0) (pt k1 1) (fun _ => rfl) e1 (by kernel_rfl) (hK _ (Mo.refl _))))
        · exact og_eq (.agg #[.int .u64 (l0 (n)), .int .u64 (l1 (n)), .int .u64 (l2 (n)), .int .u64 (l3 (n))]) rfl (fun f wf hq hd K hK => have Q1 := Q1.mo hq; go_run rfl (wo_load 24 (.tmp 19) (pt k1 1) (.agg #[.int .u64 (l0 (n)), .int .u64 (l1 (n)), .int .u64 (l2 (n)), .int .u64 (l3 (n))]) rfl (hd 1 rfl) (run_row Q1 24 1 4 [.int .u64 (l0 (n)), .int .u64 (l1 (n)), .int .u64 (l2 (n)), .int .u64 (l3 (n))] rfl Try.underlying24 rfl sz24) (hK _ (Mo.refl _))))
        · exact og_eq (nv (10)) rfl (fun f wf hq hd K hK => go_run rfl (wo_call 74 [(.const (.int .i64 (1)))] _ [.int .i64 (1)] (nv (10)) rfl rfl (fun _ _ => by kernel_rfl) (ten1_n _) hK))
        · exact og_eq (.tuple #[nv (n / 10), nv (n % 10), .bool true]) rfl (fun f wf hq hd K hK => go_run rfl (wo_call 18 [(.tmp 18), (.tmp 20), (.tmp 21)] _ [.agg #[.int .u64 0, .int .u64 0, .int .u64 0, .int .u64 0], .agg #[.int .u64 (l0 (n)), .int .u64 (l1 (n)), .int .u64 (l2 (n)), .int .u64 (l3 (n))], nv (10)] (.tuple #[nv (n / 10), nv (n % 10), .bool true]) rfl (li3 (hd 0 rfl) (hd 2 rfl) (hd 3 rfl)) (fun _ _ => by kernel_rfl) (div10_n n _ hn hnm) hK))
        · exact og_eq (.tuple #[nv (n / 10), nv (n % 10), .bool true]) rfl (fun f wf hq hd K hK => go_run rfl (wo_mv (.tmp 22) (.tuple #[nv (n / 10), nv (n % 10), .bool true]) (fun _ => rfl) (hd 4 rfl) (hK _ (Mo.refl _))))
        · exact og_eq (nv (n / 10)) rfl (fun f wf hq hd K hK => go_run rfl (wo_un (fun v => Instr.extract v 0) (.tmp 17) (.tuple #[nv (n / 10), nv (n % 10), .bool true]) (nv (n / 10)) (fun _ => rfl) (hd 5 rfl) (by kernel_rfl) (hK _ (Mo.refl _))))
        · exact og_eq (nv (n % 10)) rfl (fun f wf hq hd K hK => go_run rfl (wo_un (fun v => Instr.extract v 1) (.tmp 17) (.tuple #[nv (n / 10), nv (n % 10), .bool true]) (nv (n % 10)) (fun _ => rfl) (hd 5 rfl) (by kernel_rfl) (hK _ (Mo.refl _))))
        · exact og_eq (.bool true) rfl (fun f wf hq hd K hK => go_run rfl (wo_un (fun v => Instr.extract v 2) (.tmp 17) (.tuple #[nv (n / 10), nv (n % 10), .bool true]) (.bool true) (fun _ => rfl) (hd 5 rfl) (by kernel_rfl) (hK _ (Mo.refl _))))
        · exact og_new [.int .u64 0, .int .u64 0, .int .u64 0, .int .u64 0] rfl (fun f wf hq hd K hK => go_run rfl (wo_alloc 24 #[.int .u64 0, .int .u64 0, .int .u64 0, .int .u64 0] rfl (fun _ => by kernel_rfl) hK))
        · exact og_new [.int .u64 0, .int .u64 0, .int .u64 0, .int .u64 0] rfl (fun f wf hq hd K hK => go_run rfl (wo_alloc 24 #[.int .u64 0, .int .u64 0, .int .u64 0, .int .u64 0] rfl (fun _ => by kernel_rfl) hK))
      intro kf51 w51 hq hR hne
      obtain ⟨N_k51, Q51⟩ := hR 9 _ rfl rfl
      obtain ⟨N_k52, Q52⟩ := hR 10 _ rfl rfl
      have ne_k1_k51 : k1 ≠ (kf51 9) := by have := Q1.lt; omega
      have ne_k2_k51 : k2 ≠ (kf51 9) := by have := Q2.lt; omega
      have ne_k51_k52 := hne 9 10 rfl rfl rfl rfl (by decide)
      replace N_k51 := Nat.le_trans M.size N_k51
      have ne_k1_k52 : k1 ≠ (kf51 10) := by have := Q1.lt; omega
      have ne_k2_k52 : k2 ≠ (kf51 10) := by have := Q2.lt; omega
      replace N_k52 := Nat.le_trans M.size N_k52
      replace Q1 := Q1.mo hq
      replace Q2 := Q2.mo hq
      replace M := M.trans hq
      clear hq hR hne
      refine wl_st 24 (.tmp 5) (.tmp 23) (kf51 9) 0 (nvar (n / 10)) [.int .u64 0, .int .u64 0, .int .u64 0, .int .u64 0] (nvli (n / 10)) Q51 rfl rfl rfl rfl rfl sz24 rfl rfl rfl ?_
      intro w52 hS Qn
      replace Q51 := Qn
      clear Qn
      replace Q1 := hS.other _ _ ne_k1_k51 Q1
      replace Q2 := hS.other _ _ ne_k2_k51 Q2
      replace Q52 := hS.other _ _ ne_k51_k52.symm Q52
      replace M := hS.mo _ N_k51 M
      clear hS
      refine wl_st 24 (.tmp 6) (.tmp 24) (kf51 10) 0 (nvar (n % 10)) [.int .u64 0, .int .u64 0, .int .u64 0, .int .u64 0] (nvli (n % 10)) Q52 rfl rfl rfl rfl rfl sz24 rfl rfl rfl ?_
      intro w53 hS Qn
      replace Q52 := Qn
      clear Qn
      replace Q1 := hS.other _ _ ne_k1_k52 Q1
      replace Q2 := hS.other _ _ ne_k2_k52 Q2
      replace Q51 := hS.other _ _ ne_k51_k52 Q51
      replace M := hS.mo _ N_k52 M
      clear hS
      refine wl_mv (.tmp 25) (.bool true) (fun _ => rfl) rfl rfl ?_
      refine w_nil ?_
      refine xn_then ?_
      refine w_seq ?_
      refine w_seq ?_
      refine w_reg ?_
      refine wl_load 24 (.tmp 6) (pt (kf51 10) 0) (nv (n % 10)) rfl rfl (run_row Q52 24 0 4 (nvli (n % 10)) rfl Try.underlying24 rfl sz24) rfl ?_
      refine wl_build 24 [] [] (.agg #[.int .u64 0, .int .u64 0, .int .u64 0, .int .u64 0]) rfl rfl (by kernel_rfl) rfl ?_
      refine wl_bin (fun x y => do eqGuard .neq 24 (.tmp 26) (.tmp 27) x y; binOp .neq 24 x y) (.tmp 26) (.tmp 27) (nv (n % 10)) (.agg #[.int .u64 0, .int .u64 0, .int .u64 0, .int .u64 0]) (.bool true) (fun _ => rfl) rfl rfl (nen_run (r := false) hz _ _ _) rfl ?_
      refine w_nil ?_
      refine xn_then ?_
      refine w_condT rfl ?_
      refine w_exit ?_
      refine xx_then ?_
      refine xx_out rfl ?_
      refine xx_then ?_
      refine xx_blk ?_
      refine xn_then ?_
      refine w_seq ?_
      refine w_reg ?_
      refine wl_load 40 (.tmp 1) (pt k1 0) (dc b (n) (((k + 1 : Nat) : Int))) rfl e1 (run_row Q1 40 0 6 (dcl b (n) (((k + 1 : Nat) : Int))) rfl Try.underlying40 rfl sz40) rfl ?_
      refine wl_st 40 (.tmp 2) (.tmp 35) k2 0 (dcr b (n) (((k + 1 : Nat) : Int))) [.bool false, .int .u64 0, .int .u64 0, .int .u64 0, .int .u64 0, .int .i64 0] (dcl b (n) (((k + 1 : Nat) : Int))) Q2 rfl rfl e2 rfl rfl sz40 rfl rfl rfl ?_
      intro w54 hS Qn
      replace Q2 := Qn
      clear Qn
      replace Q1 := hS.other _ _ ne_k1_k2 Q1
      replace Q51 := hS.other _ _ ne_k2_k51.symm Q51
      replace Q52 := hS.other _ _ ne_k2_k52.symm Q52
      replace M := hS.mo _ N_k2 M
      clear hS
      refine wl_mv (.const (.int .i64 (0))) (.int .i64 (0)) (fun _ => rfl) rfl rfl ?_
      refine w_nil ?_
      refine xn_then ?_
      refine w_ret ?_
      exact w_ret2 _ _ (dc b (n) (((k + 1 : Nat) : Int))) (.int .i64 (0)) rfl ⟨k2, e2, (run_row Q2 40 0 6 (dcl b (n) (((k + 1 : Nat) : Int))) rfl Try.underlying40 rfl sz40)⟩ rfl ⟨by rw [← ht, htr], M⟩
theorem rtrim_no (b : Bool) (n0 s0 : Int) (w : World) (hn0 : 0 ≤ n0) (hnM : n0 < MM) (hck : ck b n0 s0 ≠ 0) :
    Calls Try.prog 46 #[dc b n0 s0] w fun e' w' => e' = .returned (er 20) ∧ Mo w w' := by
  refine w_enter 36 Try.func46 Try.ntmps46 rfl rfl ?_
  have M : Mo w w := Mo.refl _
  refine w_seq ?_
  refine w_reg ?_
  refine wl_box 40 (.tmp 0) (dc b (n0) (s0)) ((dcr b (n0) (s0))) rfl rfl (fun _ => by kernel_rfl) rfl ?_
  intro k1 w1 hk hz hq Q1
  have N_k1 : w.heap.size ≤ k1 := by have := M.size; omega
  replace M := M.trans hq
  clear hk hz hq
  refine wl_alloc 40 #[.bool false, .int .u64 0, .int .u64 0, .int .u64 0, .int .u64 0, .int .i64 0] rfl (fun _ => by kernel_rfl) rfl ?_
  intro k2 w2 hk hz hq Q2
  have ne_k1_k2 : k1 ≠ k2 := by have := Q1.lt; omega
  have N_k2 : w.heap.size ≤ k2 := by have := M.size; omega
  replace Q1 := Q1.mo hq
  replace M := M.trans hq
  clear hk hz hq
  refine wl_mv (.const (.int .i64 (0))) (.int .i64 (0)) (fun _ => rfl) rfl rfl ?_
  refine w_nil ?_
  refine xn_then ?_
  refine w_seq ?_
  refine w_seq ?_
  refine w_reg ?_
  refine wl_load 40 (.tmp 1) (pt k1 0) (dc b (n0) (s0)) rfl rfl (run_row Q1 40 0 6 (dcl b (n0) (s0)) rfl Try.underlying40 rfl sz40) rfl ?_
  refine wl_call 30 [(.tmp 8)] _ [dc b (n0) (s0)] (.int .i64 (20)) rfl rfl (fun _ _ => by kernel_rfl) (rcheck_no b n0 s0 _ hn0 hnM hck) rfl ?_
  intro w3 hq
  replace Q1 := Q1.mo hq
  replace Q2 := Q2.mo hq
  replace M := M.trans hq
  clear hq
  refine wl_mv (.tmp 9) (.int .i64 (20)) (fun _ => rfl) rfl rfl ?_
  refine w_nil ?_
  refine xn_then ?_
  refine w_seq ?_
  refine w_reg ?_
  refine wl_mv (.tmp 4) (.int .i64 (20)) (fun _ => rfl) rfl rfl ?_
  refine wl_bin (fun x y => do eqGuard .neq 32 (.tmp 10) (.const (.int .i64 (0))) x y; binOp .neq 32 x y) (.tmp 10) (.const (.int .i64 (0))) (.int .i64 (20)) (.int .i64 (0)) (.bool true) (fun _ => rfl) rfl rfl (by kernel_rfl) rfl ?_
  refine w_nil ?_
  refine xn_then ?_
  refine w_condT rfl ?_
  refine w_seq ?_
  refine w_reg ?_
  refine wl_build 40 [] [] (.agg #[.bool false, .int .u64 0, .int .u64 0, .int .u64 0, .int .u64 0, .int .i64 0]) rfl rfl (by kernel_rfl) rfl ?_
  refine wl_mv (.tmp 4) (.int .i64 (20)) (fun _ => rfl) rfl rfl ?_
  refine wl_st 40 (.tmp 2) (.tmp 12) k2 0 #[.bool false, .int .u64 0, .int .u64 0, .int .u64 0, .int .u64 0, .int .i64 0] [.bool false, .int .u64 0, .int .u64 0, .int .u64 0, .int .u64 0, .int .i64 0] [.bool false, .int .u64 0, .int .u64 0, .int .u64 0, .int .u64 0, .int .i64 0] Q2 rfl rfl rfl rfl rfl sz40 rfl rfl rfl ?_
  intro w4 hS Qn
  replace Q2 := Qn
  clear Qn
  replace Q1 := hS.other _ _ ne_k1_k2 Q1
  replace M := hS.mo _ N_k2 M
  clear hS
  refine wl_mv (.tmp 13) (.int .i64 (20)) (fun _ => rfl) rfl rfl ?_
  refine w_nil ?_
  refine xn_then ?_
  refine w_ret ?_
  refine xr_then ?_
  exact w_ret2 _ _ (.agg #[.bool false, .int .u64 0, .int .u64 0, .int .u64 0, .int .u64 0, .int .i64 0]) (.int .i64 (20)) rfl ⟨k2, rfl, (run_row Q2 40 0 6 [.bool false, .int .u64 0, .int .u64 0, .int .u64 0, .int .u64 0, .int .i64 0] rfl Try.underlying40 rfl sz40)⟩ rfl ⟨rfl, M⟩
theorem rtrim_ok (b : Bool) (n0 : Int) (k0 : Nat) (w : World) (hn0 : 0 ≤ n0) (hnM : n0 < MM) (hk18 : k0 ≤ 18) (hck : ck b n0 (k0 : Int) = 0) :
    Calls Try.prog 46 #[dc b n0 (k0 : Int)] w fun e' w' => e' = .returned (.tuple #[dc b (trN k0 n0).1 ((trN k0 n0).2 : Nat), .int .i64 0]) ∧ Mo w w' := by
  refine w_enter 36 Try.func46 Try.ntmps46 rfl rfl ?_
  have M : Mo w w := Mo.refl _
  refine w_seq ?_
  refine w_reg ?_
  refine wl_box 40 (.tmp 0) (dc b (n0) (k0)) ((dcr b (n0) (k0))) rfl rfl (fun _ => by kernel_rfl) rfl ?_
  intro k1 w1 hk hz hq Q1
  have N_k1 : w.heap.size ≤ k1 := by have := M.size; omega
  replace M := M.trans hq
  clear hk hz hq
  refine wl_alloc 40 #[.bool false, .int .u64 0, .int .u64 0, .int .u64 0, .int .u64 0, .int .i64 0] rfl (fun _ => by kernel_rfl) rfl ?_
  intro k2 w2 hk hz hq Q2
  have ne_k1_k2 : k1 ≠ k2 := by have := Q1.lt; omega
  have N_k2 : w.heap.size ≤ k2 := by have := M.size; omega
  replace Q1 := Q1.mo hq
  replace M := M.trans hq
  clear hk hz hq
  refine wl_mv (.const (.int .i64 (0))) (.int .i64 (0)) (fun _ => rfl) rfl rfl ?_
  refine w_nil ?_
  refine xn_then ?_
  refine w_seq ?_
  refine w_seq ?_
  refine w_reg ?_
  refine wl_load 40 (.tmp 1) (pt k1 0) (dc b (n0) (k0)) rfl rfl (run_row Q1 40 0 6 (dcl b (n0) (k0)) rfl Try.underlying40 rfl sz40) rfl ?_
  refine wl_call 30 [(.tmp 8)] _ [dc b (n0) (k0)] (.int .i64 (0)) rfl rfl (fun _ _ => by kernel_rfl) (rcheck_ok b n0 (k0 : Int) _ hn0 hnM hck) rfl ?_
  intro w3 hq
  replace Q1 := Q1.mo hq
  replace Q2 := Q2.mo hq
  replace M := M.trans hq
  clear hq
  refine wl_mv (.tmp 9) (.int .i64 (0)) (fun _ => rfl) rfl rfl ?_
  refine w_nil ?_
  refine xn_then ?_
  refine w_seq ?_
  refine w_reg ?_
  refine wl_mv (.tmp 4) (.int .i64 (0)) (fun _ => rfl) rfl rfl ?_
  refine wl_bin (fun x y => do eqGuard .neq 32 (.tmp 10) (.const (.int .i64 (0))) x y; binOp .neq 32 x y) (.tmp 10) (.const (.int .i64 (0))) (.int .i64 (0)) (.int .i64 (0)) (.bool false) (fun _ => rfl) rfl rfl (by kernel_rfl) rfl ?_
  refine w_nil ?_
  refine xn_then ?_
  refine w_condF rfl ?_
  refine w_skip ?_
  refine xn_then ?_
  refine w_seq ?_
  refine w_block ?_
  refine w_loop (fun m l w1 => ∃ n : Int, 0 ≤ n ∧ n < MM ∧ trN m n = trN k0 n0 ∧ look l 1 = pt k1 0 ∧ look l 2 = pt k2 0 ∧ At w1 k1 (dcl b (n) ((m : Int))) ∧ At w1 k2 [.bool false, .int .u64 0, .int .u64 0, .int .u64 0, .int .u64 0, .int .i64 0] ∧ Mo w w1 ∧ (∀ k, look l 5 = pt k 0 → k < w1.heap.size) ∧ (∀ k, look l 6 = pt k 0 → k < w1.heap.size) ∧ (∀ k, look l 5 = pt k 0 → look l 6 ≠ pt k 0) ∧ m ≤ 18) k0 ⟨n0, hn0, hnM, rfl, rfl, rfl, Q1, Q2, M, (fun k h => by cases h), (fun k h => by cases h), (fun k h => by cases h), hk18⟩ ?_
  clear M Q1 Q2
  rintro m l wl ⟨n, hn, hnm, ht, e1, e2, Q1, Q2, M, d5, d6, d56, hm18⟩
  rcases m with _ | k
  · have hk : decide ((0 : Int) > 0) = false := rfl
    have htr : trN 0 n = (n, 0) := rfl
    refine w_seq ?_
    refine w_seq ?_
    refine w_reg ?_
    refine wl_un (fun v => Instr.fieldAt 40 v 2) (.tmp 1) (pt k1 0) (pt k1 5) (fun _ => rfl) e1 (by kernel_rfl) rfl ?_
    refine wl_load 3 (.tmp 14) (pt k1 5) (.int .i64 (((0 : Nat) : Int))) rfl rfl (run_one Q1 3 5 rfl Try.underlying3 rfl) rfl ?_
    refine wl_bin (fun x y => do eqGuard .gtr 3 (.tmp 15) (.const (.int .i64 (0))) x y; binOp .gtr 3 x y) (.tmp 15) (.const (.int .i64 (0))) (.int .i64 (((0 : Nat) : Int))) (.int .i64 (0)) (.bool false) (fun _ => rfl) rfl rfl (gtr0_run hk _ _ _) rfl ?_
    refine w_nil ?_
    refine xn_then ?_
    refine w_condF rfl ?_
    refine w_exit ?_
    refine xx_then ?_
    refine xx_then ?_
    refine xx_blk ?_
    refine xn_then ?_
    refine w_seq ?_
    refine w_reg ?_
    refine wl_load 40 (.tmp 1) (pt k1 0) (dc b (n) (((0 : Nat) : Int))) rfl e1 (run_row Q1 40 0 6 (dcl b (n) (((0 : Nat) : Int))) rfl Try.underlying40 rfl sz40) rfl ?_
    refine wl_st 40 (.tmp 2) (.tmp 35) k2 0 (dcr b (n) (((0 : Nat) : Int))) [.bool false, .int .u64 0, .int .u64 0, .int .u64 0, .int .u64 0, .int .i64 0] (dcl b (n) (((0 : Nat) : Int))) Q2 rfl rfl e2 rfl rfl sz40 rfl rfl rfl ?_
    intro w51 hS Qn
    replace Q2 := Qn
    clear Qn
    replace Q1 := hS.other _ _ ne_k1_k2 Q1
    replace M := hS.mo _ N_k2 M
    clear hS
    refine wl_mv (.const (.int .i64 (0))) (.int .i64 (0)) (fun _ => rfl) rfl rfl ?_
    refine w_nil ?_
    refine xn_then ?_
    refine w_ret ?_
    exact w_ret2 _ _ (dc b (n) (((0 : Nat) : Int))) (.int .i64 (0)) rfl ⟨k2, e2, (run_row Q2 40 0 6 (dcl b (n) (((0 : Nat) : Int))) rfl Try.underlying40 rfl sz40)⟩ rfl ⟨by rw [← ht, htr], M⟩
  · have hk : decide (((k + 1 : Nat) : Int) > 0) = true := decide_eq_true (by omega)
    by_cases hr : n % 10 = 0
    · have hz : (l0 (n % 10) == 0 && (l1 (n % 10) == 0 && (l2 (n % 10) == 0 && l3 (n % 10) == 0))) = true := by rw [zb (by omega) (by unfold MM; omega)]; exact decide_eq_true hr
      have htr : trN (k + 1) n = trN k (n / 10) := by show (if n % 10 = 0 then trN k (n / 10) else (n, k + 1)) = _; rw [if_pos hr]
      refine w_seq ?_
      refine w_seq ?_
      refine w_reg ?_
      refine wl_un (fun v => Instr.fieldAt 40 v 2) (.tmp 1) (pt k1 0) (pt k1 5) (fun _ => rfl) e1 (by kernel_rfl) rfl ?_
      refine wl_load 3 (.tmp 14) (pt k1 5) (.int .i64 (((k + 1 : Nat) : Int))) rfl rfl (run_one Q1 3 5 rfl Try.underlying3 rfl) rfl ?_
      refine wl_bin (fun x y => do eqGuard .gtr 3 (.tmp 15) (.const (.int .i64 (0))) x y; binOp .gtr 3 x y) (.tmp 15) (.const (.int .i64 (0))) (.int .i64 (((k + 1 : Nat) : Int))) (.int .i64 (0)) (.bool true) (fun _ => rfl) rfl rfl (gtr1_run hk _ _ _) rfl ?_
      refine w_nil ?_
      refine xn_then ?_
      refine w_condT rfl ?_
      refine w_skip ?_
      refine xn_then ?_
      refine w_block ?_
      refine w_seq ?_
      refine w_any 11 [.inl (.agg #[.int .u64 0, .int .u64 0, .int .u64 0, .int .u64 0]), .inl (pt k1 1), .inl (.agg #[.int .u64 (l0 (n)), .int .u64 (l1 (n)), .int .u64 (l2 (n)), .int .u64 (l3 (n))]), .inl (nv (10)), .inl (.tuple #[nv (n / 10), nv (n % 10), .bool true]), .inl (.tuple #[nv (n / 10), nv (n % 10), .bool true]), .inl (nv (n / 10)), .inl (nv (n % 10)), .inl (.bool true), .inr [.int .u64 0, .int .u64 0, .int .u64 0, .int .u64 0], .inr [.int .u64 0, .int .u64 0, .int .u64 0, .int .u64 0]] [7, 8] (by kernel_rfl) (by kernel_rfl) (by kernel_rfl) (by kernel_rfl) rfl (by kernel_rfl) (by kernel_rfl) (late_cons ⟨_, _, rfl, rfl, fun _ _ _ _ h => h, fun f hd => ⟨rfl, la_un (fun v => Instr.extract v 1) (.tmp 17) (.tuple #[nv (n / 10), nv (n % 10), .bool true]) (nv (n % 10)) (fun _ => rfl) (hd 5 rfl _ rfl) (fun w => by kernel_rfl)⟩⟩ (late_cons ⟨_, _, rfl, rfl, fun _ _ _ _ h => h, fun f hd => ⟨rfl, la_un (fun v => Instr.extract v 2) (.tmp 17) (.tuple #[nv (n / 10), nv (n % 10), .bool true]) (.bool true) (fun _ => rfl) (hd 5 rfl _ rfl) (fun w => by kernel_rfl)⟩⟩ late_nil)) ?_ ?_ ?_
      · exact Ds.two 9 10 (fun q hq => by rcases q with _ | _ | _ | _ | _ | _ | _ | _ | _ | _ | _ | q <;> first | (left; rfl) | (right; rfl) | cases hq) d5 d6 d56
      · refine ea_cons ?_ (ea_cons ?_ (ea_cons ?_ (ea_cons ?_ (ea_cons ?_ (ea_cons ?_ (ea_cons ?_ (ea_cons ?_ (ea_cons ?_ (ea_cons ?_ (ea_cons ?_ (ea_nil)))))))))))
        · exact og_eq (.agg #[.int .u64 0, .int .u64 0, .int .u64 0, .int .u64 0]) rfl (fun f wf hq hd K hK => go_run rfl (wo_build 24 [] [] (.agg #[.int .u64 0, .int .u64 0, .int .u64 0, .int .u64 0]) rfl rfl (by kernel_rfl) (hK _ (Mo.refl _))))
        · exact og_eq (pt k1 1) rfl (fun f wf hq hd K hK => go_run rfl (wo_un (fun v => Instr.fieldAt 40 v 1) (.tmp 1) (pt k1 0) (pt k1 1) (fun _ => rfl) e1 (by kernel_rfl) (hK _ (Mo.refl _))))
        · exact og_eq (.agg #[.int .u64 (l0 (n)), .int .u64 (l1 (n)), .int .u64 (l2 (n)), .int .u64 (l3 (n))]) rfl (fun f wf hq hd K hK => have Q1 := Q1.mo hq; go_run rfl (wo_load 24 (.tmp 19) (pt k1 1) (.agg #[.int .u64 (l0 (n)), .int .u64 (l1 (n)), .int .u64 (l2 (n)), .int .u64 (l3 (n))]) rfl (hd 1 rfl) (run_row Q1 24 1 4 [.int .u64 (l0 (n)), .int .u64 (l1 (n)), .int .u64 (l2 (n)), .int .u64 (l3 (n))] rfl Try.underlying24 rfl sz24) (hK _ (Mo.refl _))))
        · exact og_eq (nv (10)) rfl (fun f wf hq hd K hK => go_run rfl (wo_call 69 [(.const (.int .u64 (10)))] _ [.int .u64 (10)] (nv (10)) rfl rfl (fun _ _ => by kernel_rfl) (from69_n _) hK))
        · exact og_eq (.tuple #[nv (n / 10), nv (n % 10), .bool true]) rfl (fun f wf hq hd K hK => go_run rfl (wo_call 19 [(.tmp 18), (.tmp 20), (.tmp 21)] _ [.agg #[.int .u64 0, .int .u64 0, .int .u64 0, .int .u64 0], .agg #[.int .u64 (l0 (n)), .int .u64 (l1 (n)), .int .u64 (l2 (n)), .int .u64 (l3 (n))], nv (10)] (.tuple #[nv (n / 10), nv (n % 10), .bool true]) rfl (li3 (hd 0 rfl) (hd 2 rfl) (hd 3 rfl)) (fun _ _ => by kernel_rfl) (rdiv10_n n _ hn hnm) hK))
        · exact og_eq (.tuple #[nv (n / 10), nv (n % 10), .bool true]) rfl (fun f wf hq hd K hK => go_run rfl (wo_mv (.tmp 22) (.tuple #[nv (n / 10), nv (n % 10), .bool true]) (fun _ => rfl) (hd 4 rfl) (hK _ (Mo.refl _))))
        · exact og_eq (nv (n / 10)) rfl (fun f wf hq hd K hK => go_run rfl (wo_un (fun v => Instr.extract v 0) (.tmp 17) (.tuple #[nv (n / 10), nv (n % 10), .bool true]) (nv (n / 10)) (fun _ => rfl) (hd 5 rfl) (by kernel_rfl) (hK _ (Mo.refl _))))
        · exact og_eq (nv (n % 10)) rfl (fun f wf hq hd K hK => go_run rfl (wo_un (fun v => Instr.extract v 1) (.tmp 17) (.tuple #[nv (n / 10), nv (n % 10), .bool true]) (nv (n % 10)) (fun _ => rfl) (hd 5 rfl) (by kernel_rfl) (hK _ (Mo.refl _))))
        · exact og_eq (.bool true) rfl (fun f wf hq hd K hK => go_run rfl (wo_un (fun v => Instr.extract v 2) (.tmp 17) (.tuple #[nv (n / 10), nv (n % 10), .bool true]) (.bool true) (fun _ => rfl) (hd 5 rfl) (by kernel_rfl) (hK _ (Mo.refl _))))
        · exact og_new [.int .u64 0, .int .u64 0, .int .u64 0, .int .u64 0] rfl (fun f wf hq hd K hK => go_run rfl (wo_alloc 24 #[.int .u64 0, .int .u64 0, .int .u64 0, .int .u64 0] rfl (fun _ => by kernel_rfl) hK))
        · exact og_new [.int .u64 0, .int .u64 0, .int .u64 0, .int .u64 0] rfl (fun f wf hq hd K hK => go_run rfl (wo_alloc 24 #[.int .u64 0, .int .u64 0, .int .u64 0, .int .u64 0] rfl (fun _ => by kernel_rfl) hK))
      intro kf51 w51 hq hR hne
      obtain ⟨N_k51, Q51⟩ := hR 9 _ rfl rfl
      obtain ⟨N_k52, Q52⟩ := hR 10 _ rfl rfl
      have ne_k1_k51 : k1 ≠ (kf51 9) := by have := Q1.lt; omega
      have ne_k2_k51 : k2 ≠ (kf51 9) := by have := Q2.lt; omega
      have ne_k51_k52 := hne 9 10 rfl rfl rfl rfl (by decide)
      replace N_k51 := Nat.le_trans M.size N_k51
      have ne_k1_k52 : k1 ≠ (kf51 10) := by have := Q1.lt; omega
      have ne_k2_k52 : k2 ≠ (kf51 10) := by have := Q2.lt; omega
      replace N_k52 := Nat.le_trans M.size N_k52
      replace Q1 := Q1.mo hq
      replace Q2 := Q2.mo hq
      replace M := M.trans hq
      clear hq hR hne
      refine wl_st 24 (.tmp 5) (.tmp 23) (kf51 9) 0 (nvar (n / 10)) [.int .u64 0, .int .u64 0, .int .u64 0, .int .u64 0] (nvli (n / 10)) Q51 rfl rfl rfl rfl rfl sz24 rfl rfl rfl ?_
      intro w52 hS Qn
      replace Q51 := Qn
      clear Qn
      replace Q1 := hS.other _ _ ne_k1_k51 Q1
      replace Q2 := hS.other _ _ ne_k2_k51 Q2
      replace Q52 := hS.other _ _ ne_k51_k52.symm Q52
      replace M := hS.mo _ N_k51 M
      clear hS
      refine wl_st 24 (.tmp 6) (.tmp 24) (kf51 10) 0 (nvar (n % 10)) [.int .u64 0, .int .u64 0, .int .u64 0, .int .u64 0] (nvli (n % 10)) Q52 rfl rfl rfl rfl rfl sz24 rfl rfl rfl ?_
      intro w53 hS Qn
      replace Q52 := Qn
      clear Qn
      replace Q1 := hS.other _ _ ne_k1_k52 Q1
      replace Q2 := hS.other _ _ ne_k2_k52 Q2
      replace Q51 := hS.other _ _ ne_k51_k52 Q51
      replace M := hS.mo _ N_k52 M
      clear hS
      refine wl_mv (.tmp 25) (.bool true) (fun _ => rfl) rfl rfl ?_
      refine w_nil ?_
      refine xn_then ?_
      refine w_seq ?_
      refine w_seq ?_
      refine w_reg ?_
      refine wl_load 24 (.tmp 6) (pt (kf51 10) 0) (nv (n % 10)) rfl rfl (run_row Q52 24 0 4 (nvli (n % 10)) rfl Try.underlying24 rfl sz24) rfl ?_
      refine wl_build 24 [] [] (.agg #[.int .u64 0, .int .u64 0, .int .u64 0, .int .u64 0]) rfl rfl (by kernel_rfl) rfl ?_
      refine wl_bin (fun x y => do eqGuard .neq 24 (.tmp 26) (.tmp 27) x y; binOp .neq 24 x y) (.tmp 26) (.tmp 27) (nv (n % 10)) (.agg #[.int .u64 0, .int .u64 0, .int .u64 0, .int .u64 0]) (.bool false) (fun _ => rfl) rfl rfl (nen_run (r := true) hz _ _ _) rfl ?_
      refine w_nil ?_
      refine xn_then ?_
      refine w_condF rfl ?_
      refine w_skip ?_
      refine xn_then ?_
      refine w_seq ?_
      refine w_reg ?_
      refine wl_load 24 (.tmp 5) (pt (kf51 9) 0) (nv (n / 10)) rfl rfl (run_row Q51 24 0 4 (nvli (n / 10)) rfl Try.underlying24 rfl sz24) rfl ?_
      refine wl_un (fun v => Instr.fieldAt 40 v 1) (.tmp 1) (pt k1 0) (pt k1 1) (fun _ => rfl) e1 (by kernel_rfl) rfl ?_
      refine wl_st 24 (.tmp 30) (.tmp 29) k1 1 (nvar (n / 10)) (dcl b (n) (((k + 1 : Nat) : Int))) [.bool b, .int .u64 (l0 (n / 10)), .int .u64 (l1 (n / 10)), .int .u64 (l2 (n / 10)), .int .u64 (l3 (n / 10)), .int .i64 (((k + 1 : Nat) : Int))] Q1 rfl rfl rfl rfl rfl sz24 rfl rfl rfl ?_
      intro w54 hS Qn
      replace Q1 := Qn
      clear Qn
      replace Q2 := hS.other _ _ ne_k1_k2.symm Q2
      replace Q51 := hS.other _ _ ne_k1_k51.symm Q51
      replace Q52 := hS.other _ _ ne_k1_k52.symm Q52
      replace M := hS.mo _ N_k1 M
      clear hS
      refine w_nil ?_
      refine xn_then ?_
      refine w_reg ?_
      refine wl_un (fun v => Instr.fieldAt 40 v 2) (.tmp 1) (pt k1 0) (pt k1 5) (fun _ => rfl) e1 (by kernel_rfl) rfl ?_
      refine wl_load 3 (.tmp 31) (pt k1 5) (.int .i64 (((k + 1 : Nat) : Int))) rfl rfl (run_one Q1 3 5 rfl Try.underlying3 rfl) rfl ?_
      refine wl_bin (fun x y => do eqGuard .sub 3 (.tmp 32) (.const (.int .i64 (1))) x y; binOp .sub 3 x y) (.tmp 32) (.const (.int .i64 (1))) (.int .i64 (((k + 1 : Nat) : Int))) (.int .i64 (1)) (.int .i64 ((k : Int))) (fun _ => rfl) rfl rfl (sub1_run (by omega) _ _ _) rfl ?_
      refine wl_un (fun v => Instr.fieldAt 40 v 2) (.tmp 1) (pt k1 0) (pt k1 5) (fun _ => rfl) e1 (by kernel_rfl) rfl ?_
      refine wl_st1 3 (.tmp 34) (.tmp 33) k1 5 (.int .i64 ((k : Int))) [.bool b, .int .u64 (l0 (n / 10)), .int .u64 (l1 (n / 10)), .int .u64 (l2 (n / 10)), .int .u64 (l3 (n / 10)), .int .i64 (((k + 1 : Nat) : Int))] [.bool b, .int .u64 (l0 (n / 10)), .int .u64 (l1 (n / 10)), .int .u64 (l2 (n / 10)), .int .u64 (l3 (n / 10)), .int .i64 ((k : Int))] Q1 rfl rfl rfl rfl rfl sz3 rfl rfl rfl rfl ?_
      intro w55 hS Qn
      replace Q1 := Qn
      clear Qn
      replace Q2 := hS.other _ _ ne_k1_k2.symm Q2
      replace Q51 := hS.other _ _ ne_k1_k51.symm Q51
      replace Q52 := hS.other _ _ ne_k1_k52.symm Q52
      replace M := hS.mo _ N_k1 M
      clear hS
      refine w_nil ?_
      refine xn_blk ?_
      exact xn_loop k (by omega) ⟨n / 10, by omega, by omega, by rw [← ht, htr], e1, e2, Q1, Q2, M, (fun k h => by have e : pt (kf51 9) 0 = pt k 0 := h; rw [← pt_inj e]; exact Q51.lt), (fun k h => by have e : pt (kf51 10) 0 = pt k 0 := h; rw [← pt_inj e]; exact Q52.lt), (fun k h h2 => by have e : pt (kf51 9) 0 = pt k 0 := h; have e2 : pt (kf51 10) 0 = pt k 0 := h2; exact ne_k51_k52 (pt_inj (e.trans e2.symm))), by omega⟩
    · have hz : (l0 (n % 10) == 0 && (l1 (n % 10) == 0 && (l2 (n % 10) == 0 && l3 (n % 10) == 0))) = false := by rw [zb (by omega) (by unfold MM; omega)]; exact decide_eq_false hr
      have htr : trN (k + 1) n = (n, k + 1) := by show (if n % 10 = 0 then trN k (n / 10) else (n, k + 1)) = _; rw [if_neg hr]
      refine w_seq ?_
      refine w_seq ?_
      refine w_reg ?_
      refine wl_un (fun v => Instr.fieldAt 40 v 2) (.tmp 1) (pt k1 0) (pt k1 5) (fun _ => rfl) e1 (by kernel_rfl) rfl ?_
      refine wl_load 3 (.tmp 14) (pt k1 5) (.int .i64 (((k + 1 : Nat) : Int))) rfl rfl (run_one Q1 3 5 rfl Try.underlying3 rfl) rfl ?_
      refine wl_bin (fun x y => do eqGuard .gtr 3 (.tmp 15) (.const (.int .i64 (0))) x y; binOp .gtr 3 x y) (.tmp 15) (.const (.int .i64 (0))) (.int .i64 (((k + 1 : Nat) : Int))) (.int .i64 (0)) (.bool true) (fun _ => rfl) rfl rfl (gtr1_run hk _ _ _) rfl ?_
      refine w_nil ?_
      refine xn_then ?_
      refine w_condT rfl ?_
      refine w_skip ?_
      refine xn_then ?_
      refine w_block ?_
      refine w_seq ?_
      refine w_any 11 [.inl (.agg #[.int .u64 0, .int .u64 0, .int .u64 0, .int .u64 0]), .inl (pt k1 1), .inl (.agg #[.int .u64 (l0 (n)), .int .u64 (l1 (n)), .int .u64 (l2 (n)), .int .u64 (l3 (n))]), .inl (nv (10)), .inl (.tuple #[nv (n / 10), nv (n % 10), .bool true]), .inl (.tuple #[nv (n / 10), nv (n % 10), .bool true]), .inl (nv (n / 10)), .inl (nv (n % 10)), .inl (.bool true), .inr [.int .u64 0, .int .u64 0, .int .u64 0, .int .u64 0], .inr [.int .u64 0, .int .u64 0, .int .u64 0, .int .u64 0]] [7, 8] (by kernel_rfl) (by kernel_rfl) (by kernel_rfl) (by kernel_rfl) rfl (by kernel_rfl) (by kernel_rfl) (late_cons ⟨_, _, rfl, rfl, fun _ _ _ _ h => h, fun f hd => ⟨rfl, la_un (fun v => Instr.extract v 1) (.tmp 17) (.tuple #[nv (n / 10), nv (n % 10), .bool true]) (nv (n % 10)) (fun _ => rfl) (hd 5 rfl _ rfl) (fun w => by kernel_rfl)⟩⟩ (late_cons ⟨_, _, rfl, rfl, fun _ _ _ _ h => h, fun f hd => ⟨rfl, la_un (fun v => Instr.extract v 2) (.tmp 17) (.tuple #[nv (n / 10), nv (n % 10), .bool true]) (.bool true) (fun _ => rfl) (hd 5 rfl _ rfl) (fun w => by kernel_rfl)⟩⟩ late_nil)) ?_ ?_ ?_
      · exact Ds.two 9 10 (fun q hq => by rcases q with _ | _ | _ | _ | _ | _ | _ | _ | _ | _ | _ | q <;> first | (left; rfl) | (right; rfl) | cases hq) d5 d6 d56
      · refine ea_cons ?_ (ea_cons ?_ (ea_cons ?_ (ea_cons ?_ (ea_cons ?_ (ea_cons ?_ (ea_cons ?_ (ea_cons ?_ (ea_cons ?_ (ea_cons ?_ (ea_cons ?_ (ea_nil)))))))))))
        · exact og_eq (.agg #[.int .u64 0, .int .u64 0, .int .u64 0, .int .u64 0]) rfl (fun f wf hq hd K hK => go_run rfl (wo_build 24 [] [] (.agg #[.int .u64 0, .int .u64 0, .int .u64 0, .int .u64 0]) rfl rfl (by kernel_rfl) (hK _ (Mo.refl _))))
        · exact og_eq (pt k1 1) rfl (fun f wf hq hd K hK => go_run rfl (wo_un (fun v => Instr.fieldAt 40 v 1) (.tmp 1) (pt k1 0) (pt k1 1) (fun _ => rfl) e1 (by kernel_rfl) (hK _ (Mo.refl _))))
        · exact og_eq (.agg #[.int .u64 (l0 (n)), .int .u64 (l1 (n)), .int .u64 (l2 (n)), .int .u64 (l3 (n))]) rfl (fun f wf hq hd K hK => have Q1 := Q1.mo hq; go_run rfl (wo_load 24 (.tmp 19) (pt k1 1) (.agg #[.int .u64 (l0 (n)), .int .u64 (l1 (n)), .int .u64 (l2 (n)), .int .u64 (l3 (n))]) rfl (hd 1 rfl) (run_row Q1 24 1 4 [.int .u64 (l0 (n)), .int .u64 (l1 (n)), .int .u64 (l2 (n)), .int .u64 (l3 (n))] rfl Try.underlying24 rfl sz24) (hK _ (Mo.refl _))))
        · exact og_eq (nv (10)) rfl (fun f wf hq hd K hK => go_run rfl (wo_call 69 [(.const (.int .u64 (10)))] _ [.int .u64 (10)] (nv (10)) rfl rfl (fun _ _ => by kernel_rfl) (from69_n _) hK))
        · exact og_eq (.tuple #[nv (n / 10), nv (n % 10), .bool true]) rfl (fun f wf hq hd K hK => go_run rfl (wo_call 19 [(.tmp 18), (.tmp 20), (.tmp 21)] _ [.agg #[.int .u64 0, .int .u64 0, .int .u64 0, .int .u64 0], .agg #[.int .u64 (l0 (n)), .int .u64 (l1 (n)), .int .u64 (l2 (n)), .int .u64 (l3 (n))], nv (10)] (.tuple #[nv (n / 10), nv (n % 10), .bool true]) rfl (li3 (hd 0 rfl) (hd 2 rfl) (hd 3 rfl)) (fun _ _ => by kernel_rfl) (rdiv10_n n _ hn hnm) hK))
        · exact og_eq (.tuple #[nv (n / 10), nv (n % 10), .bool true]) rfl (fun f wf hq hd K hK => go_run rfl (wo_mv (.tmp 22) (.tuple #[nv (n / 10), nv (n % 10), .bool true]) (fun _ => rfl) (hd 4 rfl) (hK _ (Mo.refl _))))
        · exact og_eq (nv (n / 10)) rfl (fun f wf hq hd K hK => go_run rfl (wo_un (fun v => Instr.extract v 0) (.tmp 17) (.tuple #[nv (n / 10), nv (n % 10), .bool true]) (nv (n / 10)) (fun _ => rfl) (hd 5 rfl) (by kernel_rfl) (hK _ (Mo.refl _))))
        · exact og_eq (nv (n % 10)) rfl (fun f wf hq hd K hK => go_run rfl (wo_un (fun v => Instr.extract v 1) (.tmp 17) (.tuple #[nv (n / 10), nv (n % 10), .bool true]) (nv (n % 10)) (fun _ => rfl) (hd 5 rfl) (by kernel_rfl) (hK _ (Mo.refl _))))
        · exact og_eq (.bool true) rfl (fun f wf hq hd K hK => go_run rfl (wo_un (fun v => Instr.extract v 2) (.tmp 17) (.tuple #[nv (n / 10), nv (n % 10), .bool true]) (.bool true) (fun _ => rfl) (hd 5 rfl) (by kernel_rfl) (hK _ (Mo.refl _))))
        · exact og_new [.int .u64 0, .int .u64 0, .int .u64 0, .int .u64 0] rfl (fun f wf hq hd K hK => go_run rfl (wo_alloc 24 #[.int .u64 0, .int .u64 0, .int .u64 0, .int .u64 0] rfl (fun _ => by kernel_rfl) hK))
        · exact og_new [.int .u64 0, .int .u64 0, .int .u64 0, .int .u64 0] rfl (fun f wf hq hd K hK => go_run rfl (wo_alloc 24 #[.int .u64 0, .int .u64 0, .int .u64 0, .int .u64 0] rfl (fun _ => by kernel_rfl) hK))
      intro kf51 w51 hq hR hne
      obtain ⟨N_k51, Q51⟩ := hR 9 _ rfl rfl
      obtain ⟨N_k52, Q52⟩ := hR 10 _ rfl rfl
      have ne_k1_k51 : k1 ≠ (kf51 9) := by have := Q1.lt; omega
      have ne_k2_k51 : k2 ≠ (kf51 9) := by have := Q2.lt; omega
      have ne_k51_k52 := hne 9 10 rfl rfl rfl rfl (by decide)
      replace N_k51 := Nat.le_trans M.size N_k51
      have ne_k1_k52 : k1 ≠ (kf51 10) := by have := Q1.lt; omega
      have ne_k2_k52 : k2 ≠ (kf51 10) := by have := Q2.lt; omega
      replace N_k52 := Nat.le_trans M.size N_k52
      replace Q1 := Q1.mo hq
      replace Q2 := Q2.mo hq
      replace M := M.trans hq
      clear hq hR hne
      refine wl_st 24 (.tmp 5) (.tmp 23) (kf51 9) 0 (nvar (n / 10)) [.int .u64 0, .int .u64 0, .int .u64 0, .int .u64 0] (nvli (n / 10)) Q51 rfl rfl rfl rfl rfl sz24 rfl rfl rfl ?_
      intro w52 hS Qn
      replace Q51 := Qn
      clear Qn
      replace Q1 := hS.other _ _ ne_k1_k51 Q1
      replace Q2 := hS.other _ _ ne_k2_k51 Q2
      replace Q52 := hS.other _ _ ne_k51_k52.symm Q52
      replace M := hS.mo _ N_k51 M
      clear hS
      refine wl_st 24 (.tmp 6) (.tmp 24) (kf51 10) 0 (nvar (n % 10)) [.int .u64 0, .int .u64 0, .int .u64 0, .int .u64 0] (nvli (n % 10)) Q52 rfl rfl rfl rfl rfl sz24 rfl rfl rfl ?_
      intro w53 hS Qn
      replace Q52 := Qn
      clear Qn
      replace Q1 := hS.other _ _ ne_k1_k52 Q1
      replace Q2 := hS.other _ _ ne_k2_k52 Q2
      replace Q51 := hS.other _ _ ne_k51_k52 Q51
      replace M := hS.mo _ N_k52 M
      clear hS
      refine wl_mv (.tmp 25) (.bool true) (fun _ => rfl) rfl rfl ?_
      refine w_nil ?_
      refine xn_then ?_
      refine w_seq ?_
      refine w_seq ?_
      refine w_reg ?_
      refine wl_load 24 (.tmp 6) (pt (kf51 10) 0) (nv (n % 10)) rfl rfl (run_row Q52 24 0 4 (nvli (n % 10)) rfl Try.underlying24 rfl sz24) rfl ?_
      refine wl_build 24 [] [] (.agg #[.int .u64 0, .int .u64 0, .int .u64 0, .int .u64 0]) rfl rfl (by kernel_rfl) rfl ?_
      refine wl_bin (fun x y => do eqGuard .neq 24 (.tmp 26) (.tmp 27) x y; binOp .neq 24 x y) (.tmp 26) (.tmp 27) (nv (n % 10)) (.agg #[.int .u64 0, .int .u64 0, .int .u64 0, .int .u64 0]) (.bool true) (fun _ => rfl) rfl rfl (nen_run (r := false) hz _ _ _) rfl ?_
      refine w_nil ?_
      refine xn_then ?_
      refine w_condT rfl ?_
      refine w_exit ?_
      refine xx_then ?_
      refine xx_out rfl ?_
      refine xx_then ?_
      refine xx_blk ?_
      refine xn_then ?_
      refine w_seq ?_
      refine w_reg ?_
      refine wl_load 40 (.tmp 1) (pt k1 0) (dc b (n) (((k + 1 : Nat) : Int))) rfl e1 (run_row Q1 40 0 6 (dcl b (n) (((k + 1 : Nat) : Int))) rfl Try.underlying40 rfl sz40) rfl ?_
      refine wl_st 40 (.tmp 2) (.tmp 35) k2 0 (dcr b (n) (((k + 1 : Nat) : Int))) [.bool false, .int .u64 0, .int .u64 0, .int .u64 0, .int .u64 0, .int .i64 0] (dcl b (n) (((k + 1 : Nat) : Int))) Q2 rfl rfl e2 rfl rfl sz40 rfl rfl rfl ?_
      intro w54 hS Qn
      replace Q2 := Qn
      clear Qn
      replace Q1 := hS.other _ _ ne_k1_k2 Q1
      replace Q51 := hS.other _ _ ne_k2_k51.symm Q51
      replace Q52 := hS.other _ _ ne_k2_k52.symm Q52
      replace M := hS.mo _ N_k2 M
      clear hS
      refine wl_mv (.const (.int .i64 (0))) (.int .i64 (0)) (fun _ => rfl) rfl rfl ?_
      refine w_nil ?_
      refine xn_then ?_
      refine w_ret ?_
      exact w_ret2 _ _ (dc b (n) (((k + 1 : Nat) : Int))) (.int .i64 (0)) rfl ⟨k2, e2, (run_row Q2 40 0 6 (dcl b (n) (((k + 1 : Nat) : Int))) rfl Try.underlying40 rfl sz40)⟩ rfl ⟨by rw [← ht, htr], M⟩
end Go.Proofs.Ytoiiekmkcpcbgaa
/-
  limb.isDigits, whatever the text: the walk.
-/
namespace Go.Proofs.Ytoiiekmkcpcbgaa
open Go.RowKit
/-- Is a byte a digit? -/
def isD (c : UInt8) : Bool := decide (48 ≤ (c.toNat : Int)) && decide ((c.toNat : Int) ≤ 57)
/-- Digits, with no 0 ahead of others. -/
def digs (l : List UInt8) : Bool := !(l.isEmpty) && !(decide (1 < l.length) && (l.headD 0 == 48)) && l.all isD
theorem take_snoc' (s : ByteArray) (k : Nat) (h : k < s.size) : s.data.toList.take (k + 1) = s.data.toList.take k ++ [s[k]] := by
  rw [List.take_succ_eq_append_getElem (by simpa using h)]; rfl
set_option maxHeartbeats 1000000 in
theorem isd_yes (s : ByteArray) (w : World) (hs : s.size ≤ maxLen) (h0 : s.toList.isEmpty = false) (hd : Hid (∀ (k : Nat) (h : k < s.size), 48 ≤ (s[k].toNat : Int) ∧ (s[k].toNat : Int) ≤ 57)) (hp : 0 < s.size) (hz : s.size = 1 ∨ ((s[0].toNat : Int) == 48) = false) :
    Calls Try.prog 67 #[.string s] w fun e w' => e = .returned (.bool true) ∧ w' = w := by
  unfold maxLen at hs
  rcases hz with hz | hz
  · have h1 : ¬ (1 < (s.size : Int)) := by omega
    clear hz
    go_enter Try.func67, Try.ntmps67
    go_wp2
    go_loop [18] (fun i => ∃ k : Nat, k ≤ s.size ∧ i = .int .i64 k) (fun i => s.size - (intOf i).toNat)
    case atStart => exact ⟨0, Nat.zero_le _, rfl⟩
    case round =>
      obtain ⟨k, hk, rfl⟩ := hrel
      by_cases hlt : k < s.size
      · obtain ⟨b1, b2⟩ := hd.out k hlt
        go_wp2
        go_round
        case rel => exact ⟨k + 1, by omega, by go_num⟩
        case measure => simp [intOf]; omega
      · go_wp2
        go_ret
        exact ⟨rfl, rfl⟩
  · by_cases h1 : 1 < (s.size : Int)
    all_goals
      go_enter Try.func67, Try.ntmps67
      go_wp2
      go_loop [18] (fun i => ∃ k : Nat, k ≤ s.size ∧ i = .int .i64 k) (fun i => s.size - (intOf i).toNat)
      case atStart => exact ⟨0, Nat.zero_le _, rfl⟩
      case round =>
        obtain ⟨k, hk, rfl⟩ := hrel
        by_cases hlt : k < s.size
        · obtain ⟨b1, b2⟩ := hd.out k hlt
          go_wp2
          go_round
          case rel => exact ⟨k + 1, by omega, by go_num⟩
          case measure => simp [intOf]; omega
        · go_wp2
          go_ret
          exact ⟨rfl, rfl⟩
end Go.Proofs.Ytoiiekmkcpcbgaa
/-
  limb.appendDigit, whatever the number and the digit: the walk.
-/
namespace Go.Proofs.Ytoiiekmkcpcbgaa
open Go.RowKit
/-- A number with one digit more fits. -/
def fits (A d : Int) : Bool := decide (A * 10 + d < MM)
theorem At0.st {w : World} {k j : Nat} (h : At0 w j) (hk : j ≠ k) (z : Int) : At0 (st4 w k z) j := by
  obtain ⟨⟨b0, b1, b2, b3⟩, f, s⟩ := h
  refine ⟨by simp [At4, go_sem, *], fun o => by simp [World.frozen?_setCell, f o], by simpa [World.setCell] using s⟩
set_option maxHeartbeats 1000000 in
theorem apd_any (A c : Int) (w : World) (hA0 : 0 ≤ A) (hAM : A < MM) (hc0 : 48 ≤ c) (hc1 : c ≤ 57) :
    Calls Try.prog 68 #[nv A, .int .u8 c] w fun e w' =>
      e = .returned (.tuple #[nv (A * 10 + (c - 48)), .bool (fits A (c - 48))]) ∧ Mo w w' := by
  have hT : (A * 10 / MM = 0 ∧ (!ov (A * 10 % MM + (c - 48))) = fits A (c - 48)) ∨ (A * 10 / MM ≠ 0 ∧ fits A (c - 48) = false) := by
    by_cases h : A * 10 / MM = 0
    · refine Or.inl ⟨h, ?_⟩
      unfold ov fits
      rw [Bool.eq_iff_iff]
      simp
      unfold MM at *
      omega
    · refine Or.inr ⟨h, decide_eq_false ?_⟩
      unfold MM at *
      omega
  have H1 : Hid (nv (A * 10 % MM + (c - 48) % MM) = nv (A * 10 + (c - 48))) := nv_add_mod _ _
  have H2 : Hid ((c - 48) % MM = c - 48) := by show _ = _; unfold MM; omega
  have hu : U1 (c - 48) := ⟨by omega, by omega⟩
  have w8 : IntKind.u8.wrap (c - 48) = c - 48 := by rw [IntKind.wrap_u8]; omega
  have w64 : IntKind.u64.wrap (c - 48) = c - 48 := by rw [IntKind.wrap_u64]; omega
  go_enter Try.func68, Try.ntmps68
  go_wp2_with fail
  refine (mulLimb_any (l0 A) (l1 A) (l2 A) (l3 A) 10 _ (u4_lb A) ⟨by decide, by decide⟩).mono ?_
  rintro e w1 ⟨rfl, hm1⟩
  rw [vl_lb A hA0 hAM]
  have Z1 : At0 w1 (w.heap.size + 1) := At0.mo ⟨by simp [At4, go_sem], fun o => by simp [go_sem], by simp⟩ hm1
  have M1 : Mo w w1 := (((Mo.refl _).alloc _ _).alloc _ _).trans hm1
  have a : Mo w1 (w1.alloc (.cells #[.int .u64 (l0 (A * 10)), .int .u64 (l1 (A * 10)), .int .u64 (l2 (A * 10)), .int .u64 (l3 (A * 10))] 24)) := (Mo.refl _).alloc _ _
  have Z2 := Z1.mo a
  have M2 := M1.trans a
  have n2 := AtN.new w1 (A * 10)
  have hz : w.heap.size + 1 < w1.heap.size := Z1.2.2
  clear hm1 a M1 Z1
  go_upto_region 2 with fail
  revert Z2 M2 n2
  generalize w1.alloc (.cells #[.int .u64 (l0 (A * 10)), .int .u64 (l1 (A * 10)), .int .u64 (l2 (A * 10)), .int .u64 (l3 (A * 10))] 24) = W0
  intro Z2 M2 n2
  go_cut [8, 9] from 15 to 23 (fun s8 s9 wx => ∃ k, s8 = .pointer (some ⟨k, 0, none⟩) ∧ s9 = .bool (ov (A * 10 % MM + (c - 48))) ∧ w.heap.size + 1 < k ∧ Mo w wx ∧ At0 wx (w.heap.size + 1) ∧ AtN wx k (A * 10 + (c - 48)))
  case first =>
    have nz := n2
    obtain ⟨⟨i0, i1, i2, i3⟩, _, x0⟩ := nz
    go_region_held3 (fun w' => w'.cell? ⟨w1.heap.size, 0, none⟩ = some (.int .u64 (l0 (A * 10))) ∧ w'.cell? ⟨w1.heap.size, 1, none⟩ = some (.int .u64 (l1 (A * 10))) ∧ w'.cell? ⟨w1.heap.size, 2, none⟩ = some (.int .u64 (l2 (A * 10))) ∧ w'.cell? ⟨w1.heap.size, 3, none⟩ = some (.int .u64 (l3 (A * 10)))) (simp [go_sem, World.cell?_alloc_past, *])
      (first | (go_at_call 56; refine (from20_any (c - 48) _ hu).mono ?_; rintro e w2 ⟨rfl, hm2⟩; have m2 : Mo W0 w2 := Mo.trans (by repeat (first | with_reducible exact Mo.refl _ | with_reducible apply Mo.drew | with_reducible apply Mo.alloc)) hm2; (try (with_reducible have k2 := At0.mk1 hm2)); obtain ⟨⟨e0, e1, e2, e3⟩, _, y1⟩ := n2.mo m2) | (go_at_call 60; refine (add_any (l0 (A * 10)) (l1 (A * 10)) (l2 (A * 10)) (l3 (A * 10)) (l0 (c - 48)) (l1 (c - 48)) (l2 (c - 48)) (l3 (c - 48)) _ (u4_lb _) (u4_lb _)).mono ?_; rintro e w3 ⟨rfl, hm3⟩; rw [vl_nv (A * 10), vl_nv (c - 48), H1.out, H2.out]; have m3 : Mo w2 w3 := Mo.trans (by repeat (first | with_reducible exact Mo.refl _ | with_reducible apply Mo.drew | with_reducible apply Mo.alloc)) hm3; (try (with_reducible have k3 := At0.mk2 hm3)); (try (with_reducible have k3 := k2.mo m3)); (try have k4 := k3); (try obtain ⟨⟨g0, g1, g2, g3⟩, ff, y9⟩ := k3); (try have ff := fun o => ff o); obtain ⟨⟨f0, f1, f2, f3⟩, _, y2⟩ := n2.mo (m2.trans m3)))
    all_goals
      go_wp2
      go_meet
      case rel =>
        have m := m2.trans m3
        have z1 := m2.size
        have z2 := m3.size
        refine ⟨_, rfl, rfl, by omega, ?_, ?_, ?_⟩
        · first | with_reducible exact (M2.trans m).alloc _ _ | exact (M2.trans m).st4 (by omega) _
        · first | with_reducible exact (Z2.mo m).mo ((Mo.refl _).alloc _ _) | exact (Z2.mo m).st (by omega) _
        · first | with_reducible exact AtN.new _ _ | exact k4.same _
  case rest =>
    obtain ⟨k, rfl, rfl, hk, M, Z, n⟩ := hcut
    obtain ⟨⟨i0, i1, i2, i3⟩, _, x0⟩ := n
    have Zz := Z
    obtain ⟨⟨c0, c1, c2, c3⟩, fc, zc⟩ := Zz
    have fc := fun o => fc o
    clear Z2 M2 n2
    rcases hT with ⟨hT, hf⟩ | ⟨hT, hf⟩
    · have tb : (A * 10 / MM == 0) = true := by rw [hT]; rfl
      have HF : Hid _ := hf
      clear hT hf
      go_wp2
      refine bodyPost_ret (v := .tuple #[nv (A * 10 + (c - 48)), .bool (!ov (A * 10 % MM + (c - 48)))]) (by simp [results, Try.results68, go_sem, c0, c1, c2, c3]) rfl ?_
      exact ⟨by rw [HF.out], M.st4 (by omega) _⟩
    · have tb : (A * 10 / MM == 0) = false := by simp [hT]
      have HF : Hid _ := hf
      clear hT hf
      go_wp2
      refine bodyPost_ret (v := .tuple #[nv (A * 10 + (c - 48)), .bool false]) (by simp [results, Try.results68, go_sem, c0, c1, c2, c3]) rfl ?_
      exact ⟨by rw [HF.out], M.st4 (by omega) _⟩
end Go.Proofs.Ytoiiekmkcpcbgaa
/-
  limb.Parse of a text of digits whose number has room: the walk.
-/
namespace Go.Proofs.Ytoiiekmkcpcbgaa
open Go.RowKit
/-- The number that bytes say, as decimal digits. -/
def pv (l : List UInt8) : Int := l.foldl (fun v c => v * 10 + ((c.toNat : Int) - 48)) 0
theorem pv_snoc (l : List UInt8) (c : UInt8) : pv (l ++ [c]) = pv l * 10 + ((c.toNat : Int) - 48) := by unfold pv; rw [List.foldl_append]; rfl
/-- The world between two bytes. -/
def PW (w wr : World) (v : Int) : Prop := Mo w wr ∧ At0 wr w.heap.size ∧ AtN wr (w.heap.size + 1) v
theorem PW.mo {w wr w1 : World} {v : Int} (h : PW w wr v) (m : Mo wr w1) : PW w w1 v := ⟨h.1.trans m, h.2.1.mo m, h.2.2.mo m⟩
theorem PW.put {w w1 : World} {v : Int} (h : PW w w1 v) (z : Int) : PW w (st4 w1 (w.heap.size + 1) z) z :=
  ⟨h.1.st4 (by omega) z, h.2.1.st (by omega) z, h.2.2.same z⟩
theorem PW.start (w : World) : PW w ((w.alloc (.cells #[.int .u64 0, .int .u64 0, .int .u64 0, .int .u64 0] 24)).alloc (.cells #[.int .u64 0, .int .u64 0, .int .u64 0, .int .u64 0] 24)) 0 := by
  have z0 : l0 0 = 0 := by decide
  have z1 : l1 0 = 0 := by decide
  have z2 : l2 0 = 0 := by decide
  have z3 : l3 0 = 0 := by decide
  exact ⟨((Mo.refl _).alloc _ _).alloc _ _, ⟨by simp [At4, go_sem], fun o => by simp [go_sem], by simp <;> omega⟩, ⟨by simp [At4, go_sem, z0, z1, z2, z3], fun o => by simp [go_sem], by simp⟩⟩
set_option maxHeartbeats 1000000 in
theorem parse_yes (s : ByteArray) (w : World) (hs : s.size ≤ maxLen) (h0 : s.toList.isEmpty = false) (hd : Hid (∀ (k : Nat) (h : k < s.size), 48 ≤ (s[k].toNat : Int) ∧ (s[k].toNat : Int) ≤ 57)) (hp : 0 < s.size) (hz : Hid (s.size = 1 ∨ ((s[0].toNat : Int) == 48) = false))
    (hv : Hid (∀ k, k ≤ s.size → 0 ≤ pv (s.data.toList.take k) ∧ pv (s.data.toList.take k) < MM)) :
    Calls Try.prog 20 #[.string s] w fun e w' => e = .returned (.tuple #[nv (pv s.data.toList), .int .i64 0]) ∧ Mo w w' := by
  have HS := PW.start w
  have HS' : Hid _ := HS
  have hs' := hs
  unfold maxLen at hs
  clear HS
  go_enter Try.func20, Try.ntmps20
  go_wp2_with fail
  refine (isd_yes s _ hs' h0 hd hp hz.out).mono ?_
  rintro e w1 ⟨rfl, rfl⟩
  clear h0
  go_wp2
  go_loopw [13] (fun i wr => ∃ k : Nat, k ≤ s.size ∧ i = .int .i64 k ∧ PW w wr (pv (s.data.toList.take k))) (fun i _ => s.size - (intOf i).toNat)
  case atStart => exact ⟨0, Nat.zero_le _, rfl, HS'.out⟩
  case round =>
    obtain ⟨k, hk, rfl, hw⟩ := hrel
    by_cases hlt : k < s.size
    · obtain ⟨b1, b2⟩ := hd.out k hlt
      have hw0 := hw
      obtain ⟨_, _, ⟨⟨c0, c1, c2, c3⟩, _, _⟩⟩ := hw
      have v1 := hv.out k hk
      have v2 := hv.out (k + 1) hlt
      rw [take_snoc' s k hlt, pv_snoc] at v2
      have Hf : Hid (fits (pv (s.data.toList.take k)) ((s[k].toNat : Int) - 48) = true) := decide_eq_true v2.2
      have Hn : Hid (pv (s.data.toList.take k) * 10 + ((s[k].toNat : Int) - 48) = pv (s.data.toList.take (k + 1))) := by
        show _ = _
        rw [take_snoc' s k hlt, pv_snoc]
      have V1 : Hid _ := v1
      clear v1 v2
      generalize pv (s.data.toList.take k) = V at *
      go_wp2
      go_region_with
        (first | (go_at_call 68; refine (apd_any V (s[k].toNat : Int) _ V1.out.1 V1.out.2 b1 b2).mono ?_; rintro e w2 ⟨rfl, hm2⟩; rw [Hf.out, Hn.out]; have hw1 := hw0.mo (Mo.trans (by repeat (first | with_reducible exact Mo.refl _ | with_reducible apply Mo.drew)) hm2); have hw2 := hw1; obtain ⟨_, _, ⟨⟨c0, c1, c2, c3⟩, ff, _⟩⟩ := hw2; have ff := fun o => ff o))
      all_goals
        go_wp2
        go_roundw
        case rel => exact ⟨k + 1, by omega, by go_num, hw1.put _⟩
        case measure => simp [intOf]; omega
    · obtain ⟨m, ⟨⟨d0, d1, d2, d3⟩, fd, zd⟩, ⟨⟨c0, c1, c2, c3⟩, _, _⟩⟩ := hw
      have fd := fun o => fd o
      have Hk : Hid (s.data.toList.take k = s.data.toList) := List.take_of_length_le (by simp; omega)
      rw [Hk.out] at c0 c1 c2 c3
      clear Hk
      go_wp2
      refine bodyPost_ret (v := .tuple #[nv (pv s.data.toList), .int .i64 0]) (by simp [results, Try.results20, go_sem, d0, d1, d2, d3]) rfl ?_
      exact ⟨rfl, m.st4 (Nat.le_refl _) _⟩
end Go.Proofs.Ytoiiekmkcpcbgaa
/-
  Plain facts on decimal digits: what Text writes is digits, and says its number.
-/
namespace Go.Proofs.Ytoiiekmkcpcbgaa
theorem strOf_list (ns : List Int) : (strOf ns).data.toList = ns.map (fun n => UInt8.ofNat n.toNat) := by
  have g : ∀ (l : List Int) (b : ByteArray), (l.foldl (fun r n => r.push (UInt8.ofNat n.toNat)) b).data.toList = b.data.toList ++ l.map (fun n => UInt8.ofNat n.toNat) := by
    intro l
    induction l with
    | nil => intro b; simp
    | cons x l ih => intro b; rw [List.foldl_cons, ih]; simp [ByteArray.push]
  unfold strOf
  rw [g]
  simp
theorem decF_digits : ∀ (f : Nat) (n : Int), ∀ d ∈ decF f n, 48 ≤ d ∧ d ≤ 57
  | 0, _, d, h => by simp [decF] at h
  | f + 1, n, d, h => by
    unfold decF at h
    split at h
    · simp at h; omega
    · rw [List.mem_append] at h
      rcases h with h | h
      · exact decF_digits f _ d h
      · simp at h; omega
theorem decF_len : ∀ (f : Nat) (n : Int), (decF f n).length ≤ f
  | 0, _ => by simp [decF]
  | f + 1, n => by
    unfold decF
    split
    · simp
    · have := decF_len f (n / 10)
      simp
      omega
theorem decF_ne {f : Nat} (n : Int) : decF (f + 1) n ≠ [] := by
  unfold decF
  split <;> simp
/-- The number of digits. -/
def dv (l : List Int) : Int := l.foldl (fun v d => v * 10 + (d - 48)) 0
theorem dv_snoc (l : List Int) (d : Int) : dv (l ++ [d]) = dv l * 10 + (d - 48) := by unfold dv; rw [List.foldl_append]; rfl
theorem decF_dv : ∀ (f : Nat) (n : Int), 0 ≤ n → n < 10 ^ f → dv (decF f n) = n
  | 0, n, h0, h => by simp at h; unfold decF dv; simp; omega
  | f + 1, n, h0, h => by
    unfold decF
    split
    · rw [show [48 + n % 10] = [] ++ [48 + n % 10] from rfl, dv_snoc]; unfold dv; simp; omega
    · rw [dv_snoc, decF_dv f (n / 10) (by omega) (by rw [Int.pow_succ] at h; omega)]; omega
theorem decF_head : ∀ (f : Nat) (n : Int), 0 < n → n < 10 ^ f → (decF f n).headD 0 ≠ 48
  | 0, n, h0, h => by simp at h; omega
  | f + 1, n, h0, h => by
    unfold decF
    split
    · simp; omega
    · rename_i hq
      have e := decF_head f (n / 10) (by omega) (by rw [Int.pow_succ] at h; omega)
      cases hf : decF f (n / 10) with
      | nil => rw [hf] at e; simp at e ⊢; cases f with
        | zero => simp at h; omega
        | succ g => exact absurd hf (decF_ne _)
      | cons a l => rw [hf] at e; simpa using e
theorem dv_from (l : List Int) : ∀ v : Int, 0 ≤ v → (∀ d ∈ l, 48 ≤ d ∧ d ≤ 57) → v ≤ l.foldl (fun v d => v * 10 + (d - 48)) v := by
  induction l with
  | nil => intro v _ _; exact Int.le_refl _
  | cons x l ih =>
    intro v hv h
    have hx := h x (by simp)
    have := ih (v * 10 + (x - 48)) (by omega) (fun d hd => h d (by simp [hd]))
    rw [List.foldl_cons]
    omega
theorem dv_take (l : List Int) (h : ∀ d ∈ l, 48 ≤ d ∧ d ≤ 57) (k : Nat) : 0 ≤ dv (l.take k) ∧ dv (l.take k) ≤ dv l := by
  have a : 0 ≤ dv (l.take k) := dv_from (l.take k) 0 (Int.le_refl 0) (fun d hd => h d (List.mem_of_mem_take hd))
  refine ⟨a, ?_⟩
  have e : dv l = (l.drop k).foldl (fun v d => v * 10 + (d - 48)) (dv (l.take k)) := by
    unfold dv; rw [← List.foldl_append, List.take_append_drop]
  rw [e]
  exact dv_from _ _ a (fun d hd => h d (List.mem_of_mem_drop hd))
end Go.Proofs.Ytoiiekmkcpcbgaa
/-
  Texts: isDigits, Parse, and the document's Parse, at every text.
-/
namespace Go.Proofs.Ytoiiekmkcpcbgaa
open Go.RowKit
theorem eqe_run {s : ByteArray} {r : Bool} (h : s.toList.isEmpty = r) (x y : Operand) (w : World) : (do eqGuard .eql 9 x y (.string s) (.string ⟨#[]⟩); binOp .eql 9 (.string s) (.string ⟨#[]⟩)).run Try.prog w = .ok (.bool r) w := by
  subst h; simp [go_sem]
theorem idx_s (s : ByteArray) (k : Nat) (h : k < s.size) (w : World) : (Instr.index 9 (.string s) (.int .i64 (k : Int))).run Try.prog w = .ok (.int .u8 (s[k].toNat : Int)) w := by
  simp [go_sem, h]
theorem len_run (ρ : Operand → Value) (x : Operand) (s : ByteArray) (hx : ρ x = .string s) (dst : Option Tmp) (type : TypeId) (pos : String) (after : Array Edge) (guard : Option (Nat × Bool)) (w : World) : (execOp ρ { dst, op := .call { callee := .builtin .len, args := #[x], argTypes := #[9] }, type, pos, after, guard }).run Try.prog w = .ok (.value (.int .i64 (s.size : Int))) w := by
  simp [go_sem, hx]
theorem ls5 {a b : Int} {r : Bool} (h : decide (a < b) = r) (x y : Operand) (w : World) : (do eqGuard .lss 5 x y (.int .u8 a) (.int .u8 b); binOp .lss 5 (.int .u8 a) (.int .u8 b)).run Try.prog w = .ok (.bool r) w := by
  subst h; kernel_rfl
theorem add1_run {k : Nat} (hk : k ≤ 9223372036854775806) (x y : Operand) (w : World) : (do eqGuard .add 3 x y (.int .i64 (k : Int)) (.int .i64 1); binOp .add 3 (.int .i64 (k : Int)) (.int .i64 1)).run Try.prog w = .ok (.int .i64 ((k + 1 : Nat) : Int)) w := by
  have e : (do eqGuard .add 3 x y (.int .i64 (k : Int)) (.int .i64 1); binOp .add 3 (.int .i64 (k : Int)) (.int .i64 1)).run Try.prog w = .ok (.int .i64 (IntKind.i64.wrap ((k : Int) + 1))) w := by kernel_rfl
  have h : IntKind.i64.wrap ((k : Int) + 1) = ((k + 1 : Nat) : Int) := by rw [IntKind.wrap_i64]; omega
  rw [e, h]
theorem gt5_run {a b : Int} {r : Bool} (h : decide (a > b) = r) (x y : Operand) (w : World) : (do eqGuard .gtr 5 x y (.int .u8 a) (.int .u8 b); binOp .gtr 5 (.int .u8 a) (.int .u8 b)).run Try.prog w = .ok (.bool r) w := by
  subst h; kernel_rfl
theorem eq5_run {a b : Int} {r : Bool} (h : (a == b) = r) (x y : Operand) (w : World) : (do eqGuard .eql 5 x y (.int .u8 a) (.int .u8 b); binOp .eql 5 (.int .u8 a) (.int .u8 b)).run Try.prog w = .ok (.bool r) w := by
  subst h; kernel_rfl
theorem lt3_run {a b : Int} {r : Bool} (h : decide (a < b) = r) (x y : Operand) (w : World) : (do eqGuard .lss 3 x y (.int .i64 a) (.int .i64 b); binOp .lss 3 (.int .i64 a) (.int .i64 b)).run Try.prog w = .ok (.bool r) w := by
  subst h; kernel_rfl
theorem gt3_run {a b : Int} {r : Bool} (h : decide (a > b) = r) (x y : Operand) (w : World) : (do eqGuard .gtr 3 x y (.int .i64 a) (.int .i64 b); binOp .gtr 3 (.int .i64 a) (.int .i64 b)).run Try.prog w = .ok (.bool r) w := by
  subst h; kernel_rfl
theorem idx_0 (s : ByteArray) (h : 0 < s.size) (w : World) : (Instr.index 9 (.string s) (.int .i64 0)).run Try.prog w = .ok (.int .u8 (s[0].toNat : Int)) w := idx_s s 0 h w
/-- The first k bytes are digits. -/
def dgs (s : ByteArray) (k : Nat) : Prop := ∀ (j : Nat) (h : j < s.size), j < k → 48 ≤ (s[j].toNat : Int) ∧ (s[j].toNat : Int) ≤ 57
/-- A text of digits with no 0 ahead of others. -/
def isT (s : ByteArray) : Prop := ∃ h : 0 < s.size, ¬ (s.size > 1 ∧ (s[0].toNat : Int) = 48) ∧ dgs s s.size
theorem isT_mk {s : ByteArray} {k : Nat} (hp : 0 < s.size) (hl : ¬ (s.size > 1 ∧ (s[0].toNat : Int) = 48)) (hk : k = s.size) (hd : dgs s k) : isT s := ⟨hp, hl, by rw [← hk]; exact hd⟩
theorem emp_iff (s : ByteArray) : s.toList.isEmpty = decide (s.size = 0) := by
  rw [ByteArray.toList_eq]
  have e : s.size = s.data.toList.length := by rw [Array.length_toList]; rfl
  rw [e]
  cases s.data.toList <;> rfl
theorem dgs_succ {s : ByteArray} {k : Nat} (h : k < s.size) (hd : dgs s k) (a : 48 ≤ (s[k].toNat : Int)) (b : (s[k].toNat : Int) ≤ 57) : dgs s (k + 1) := fun j hj hjk => by
  by_cases e : j = k
  · subst e; exact ⟨a, b⟩
  · exact hd j hj (by omega)
theorem isd_emp (s : ByteArray) (w : World) (h0 : s.toList.isEmpty = true) : Calls Try.prog 67 #[.string s] w fun e w' => e = .returned (.bool false) ∧ Mo w w' := by
  refine w_enter 32 Try.func67 Try.ntmps67 rfl rfl ?_
  have M : Mo w w := Mo.refl _
  refine w_seq ?_
  refine w_reg ?_
  refine wl_mv (.const (.bool false)) (.bool false) (fun _ => rfl) rfl rfl ?_
  refine w_nil ?_
  refine xn_then ?_
  refine w_seq ?_
  refine w_seq ?_
  refine w_reg ?_
  refine wl_mv (.tmp 0) (.string s) (fun _ => rfl) rfl rfl ?_
  refine wl_bin (fun x y => do eqGuard .eql 9 (.tmp 4) (.const (.string ⟨#[]⟩)) x y; binOp .eql 9 x y) (.tmp 4) (.const (.string ⟨#[]⟩)) (.string s) (.string ⟨#[]⟩) (.bool true) (fun _ => rfl) rfl rfl (eqe_run h0 _ _ _) rfl ?_
  refine wl_mv (.tmp 5) (.bool true) (fun _ => rfl) rfl rfl ?_
  refine wl_skip rfl ?_
  refine wl_skip rfl ?_
  refine wl_skip rfl ?_
  refine wl_skip rfl ?_
  refine wl_skip rfl ?_
  refine wl_skip rfl ?_
  refine wl_skip rfl ?_
  refine wl_skip rfl ?_
  refine wl_pick (.tmp 6) (.const (.bool true)) (.tmp 14) true (.bool true) (fun _ => rfl) rfl rfl rfl ?_
  refine w_nil ?_
  refine xn_then ?_
  refine w_condT rfl ?_
  refine w_seq ?_
  refine w_reg ?_
  refine wl_mv (.const (.bool false)) (.bool false) (fun _ => rfl) rfl rfl ?_
  refine w_nil ?_
  refine xn_then ?_
  refine w_ret ?_
  refine xr_then ?_
  exact w_ret1 _ (.bool false) rfl rfl ⟨rfl, M⟩
theorem isd_lead (s : ByteArray) (w : World) (h0 : s.toList.isEmpty = false) (hp : 0 < s.size) (h1 : decide ((s.size : Int) > 1) = true) (hz : ((s[0].toNat : Int) == 48) = true) : Calls Try.prog 67 #[.string s] w fun e w' => e = .returned (.bool false) ∧ Mo w w' := by
  refine w_enter 32 Try.func67 Try.ntmps67 rfl rfl ?_
  have M : Mo w w := Mo.refl _
  refine w_seq ?_
  refine w_reg ?_
  refine wl_mv (.const (.bool false)) (.bool false) (fun _ => rfl) rfl rfl ?_
  refine w_nil ?_
  refine xn_then ?_
  refine w_seq ?_
  refine w_seq ?_
  refine w_reg ?_
  refine wl_mv (.tmp 0) (.string s) (fun _ => rfl) rfl rfl ?_
  refine wl_bin (fun x y => do eqGuard .eql 9 (.tmp 4) (.const (.string ⟨#[]⟩)) x y; binOp .eql 9 x y) (.tmp 4) (.const (.string ⟨#[]⟩)) (.string s) (.string ⟨#[]⟩) (.bool false) (fun _ => rfl) rfl rfl (eqe_run h0 _ _ _) rfl ?_
  refine wl_mv (.tmp 5) (.bool false) (fun _ => rfl) rfl rfl ?_
  refine wl_mv (.tmp 0) (.string s) (fun _ => rfl) rfl rfl ?_
  refine wl_val (.int .i64 ((s.size : Int))) (len_run _ _ s rfl _ _ _ _ _ _) rfl ?_
  refine wl_bin (fun x y => do eqGuard .gtr 3 (.tmp 8) (.const (.int .i64 (1))) x y; binOp .gtr 3 x y) (.tmp 8) (.const (.int .i64 (1))) (.int .i64 ((s.size : Int))) (.int .i64 (1)) (.bool true) (fun _ => rfl) rfl rfl (gt3_run h1 _ _ _) rfl ?_
  refine wl_mv (.tmp 9) (.bool true) (fun _ => rfl) rfl rfl ?_
  refine wl_mv (.tmp 0) (.string s) (fun _ => rfl) rfl rfl ?_
  refine wl_bin (fun x y => Instr.index 9 x y) (.tmp 11) (.const (.int .i64 (0))) (.string s) (.int .i64 (0)) (.int .u8 (s[0].toNat : Int)) (fun _ => rfl) rfl rfl (idx_0 s hp _) rfl ?_
  refine wl_bin (fun x y => do eqGuard .eql 5 (.tmp 12) (.const (.int .u8 (48))) x y; binOp .eql 5 x y) (.tmp 12) (.const (.int .u8 (48))) (.int .u8 (s[0].toNat : Int)) (.int .u8 (48)) (.bool true) (fun _ => rfl) rfl rfl (eq5_run hz _ _ _) rfl ?_
  refine wl_pick (.tmp 10) (.tmp 13) (.const (.bool false)) true (.bool true) (fun _ => rfl) rfl rfl rfl ?_
  refine wl_pick (.tmp 6) (.const (.bool true)) (.tmp 14) false (.bool true) (fun _ => rfl) rfl rfl rfl ?_
  refine w_nil ?_
  refine xn_then ?_
  refine w_condT rfl ?_
  refine w_seq ?_
  refine w_reg ?_
  refine wl_mv (.const (.bool false)) (.bool false) (fun _ => rfl) rfl rfl ?_
  refine w_nil ?_
  refine xn_then ?_
  refine w_ret ?_
  refine xr_then ?_
  exact w_ret1 _ (.bool false) rfl rfl ⟨rfl, M⟩
theorem isd_l1 (s : ByteArray) (w : World) [Decidable (isT s)] (hs : s.size ≤ maxLen) (h0 : s.toList.isEmpty = false) (hp : 0 < s.size) (hlead : ¬ (s.size > 1 ∧ (s[0].toNat : Int) = 48)) (h1 : decide ((s.size : Int) > 1) = false) : Calls Try.prog 67 #[.string s] w fun e w' => e = .returned (.bool (decide (isT s))) ∧ Mo w w' := by
  refine w_enter 32 Try.func67 Try.ntmps67 rfl rfl ?_
  have M : Mo w w := Mo.refl _
  refine w_seq ?_
  refine w_reg ?_
  refine wl_mv (.const (.bool false)) (.bool false) (fun _ => rfl) rfl rfl ?_
  refine w_nil ?_
  refine xn_then ?_
  refine w_seq ?_
  refine w_seq ?_
  refine w_reg ?_
  refine wl_mv (.tmp 0) (.string s) (fun _ => rfl) rfl rfl ?_
  refine wl_bin (fun x y => do eqGuard .eql 9 (.tmp 4) (.const (.string ⟨#[]⟩)) x y; binOp .eql 9 x y) (.tmp 4) (.const (.string ⟨#[]⟩)) (.string s) (.string ⟨#[]⟩) (.bool false) (fun _ => rfl) rfl rfl (eqe_run h0 _ _ _) rfl ?_
  refine wl_mv (.tmp 5) (.bool false) (fun _ => rfl) rfl rfl ?_
  refine wl_mv (.tmp 0) (.string s) (fun _ => rfl) rfl rfl ?_
  refine wl_val (.int .i64 ((s.size : Int))) (len_run _ _ s rfl _ _ _ _ _ _) rfl ?_
  refine wl_bin (fun x y => do eqGuard .gtr 3 (.tmp 8) (.const (.int .i64 (1))) x y; binOp .gtr 3 x y) (.tmp 8) (.const (.int .i64 (1))) (.int .i64 ((s.size : Int))) (.int .i64 (1)) (.bool false) (fun _ => rfl) rfl rfl (gt3_run h1 _ _ _) rfl ?_
  refine wl_mv (.tmp 9) (.bool false) (fun _ => rfl) rfl rfl ?_
  refine wl_skip rfl ?_
  refine wl_skip rfl ?_
  refine wl_skip rfl ?_
  refine wl_pick (.tmp 10) (.tmp 13) (.const (.bool false)) false (.bool false) (fun _ => rfl) rfl rfl rfl ?_
  refine wl_pick (.tmp 6) (.const (.bool true)) (.tmp 14) false (.bool false) (fun _ => rfl) rfl rfl rfl ?_
  refine w_nil ?_
  refine xn_then ?_
  refine w_condF rfl ?_
  refine w_skip ?_
  refine xn_then ?_
  refine w_seq ?_
  refine w_seq ?_
  refine w_reg ?_
  refine wl_mv (.tmp 0) (.string s) (fun _ => rfl) rfl rfl ?_
  refine wl_val (.int .i64 ((s.size : Int))) (len_run _ _ s rfl _ _ _ _ _ _) rfl ?_
  refine wl_mv (.const (.int .i64 (0))) (.int .i64 (0)) (fun _ => rfl) rfl rfl ?_
  refine w_nil ?_
  refine xn_then ?_
  refine w_block ?_
  refine w_loop (fun m l w1 => ∃ k : Nat, k + m = s.size ∧ look l 0 = .string s ∧ look l 17 = .int .i64 (s.size : Int) ∧ look l 18 = .int .i64 (k : Int) ∧ dgs s k ∧ Mo w w1) s.size ⟨0, by omega, rfl, rfl, rfl, fun j _ h => absurd h (Nat.not_lt_zero _), M⟩ ?_
  clear M
  rintro m l wl ⟨k, hk, e0, e17, e18, hd, M⟩
  by_cases hlt : k < s.size
  · have hl : decide ((k : Int) < (s.size : Int)) = true := decide_eq_true (by omega)
    cases ha : decide ((s[k].toNat : Int) < 48) with
    | true =>
      refine w_seq ?_
      refine w_reg ?_
      refine wl_bin (fun x y => do eqGuard .lss 3 (.tmp 18) (.tmp 17) x y; binOp .lss 3 x y) (.tmp 18) (.tmp 17) (.int .i64 ((k : Int))) (.int .i64 ((s.size : Int))) (.bool true) (fun _ => rfl) e18 e17 (lt3_run hl _ _ _) rfl ?_
      refine w_nil ?_
      refine xn_then ?_
      refine w_seq ?_
      refine w_condT rfl ?_
      refine w_skip ?_
      refine xn_then ?_
      refine w_seq ?_
      refine w_block ?_
      refine w_seq ?_
      refine w_reg ?_
      refine wl_mv (.tmp 18) (.int .i64 ((k : Int))) (fun _ => rfl) e18 rfl ?_
      refine wl_mv (.tmp 20) (.int .i64 ((k : Int))) (fun _ => rfl) rfl rfl ?_
      refine w_nil ?_
      refine xn_then ?_
      refine w_seq ?_
      refine w_reg ?_
      refine wl_mv (.tmp 0) (.string s) (fun _ => rfl) e0 rfl ?_
      refine wl_mv (.tmp 3) (.int .i64 ((k : Int))) (fun _ => rfl) rfl rfl ?_
      refine wl_bin (fun x y => Instr.index 9 x y) (.tmp 21) (.tmp 22) (.string s) (.int .i64 ((k : Int))) (.int .u8 (s[k].toNat : Int)) (fun _ => rfl) rfl rfl (idx_s s k hlt _) rfl ?_
      refine wl_bin (fun x y => do eqGuard .lss 5 (.tmp 23) (.const (.int .u8 (48))) x y; binOp .lss 5 x y) (.tmp 23) (.const (.int .u8 (48))) (.int .u8 (s[k].toNat : Int)) (.int .u8 (48)) (.bool true) (fun _ => rfl) rfl rfl (ls5 ha _ _ _) rfl ?_
      refine wl_mv (.tmp 24) (.bool true) (fun _ => rfl) rfl rfl ?_
      refine wl_skip rfl ?_
      refine wl_skip rfl ?_
      refine wl_skip rfl ?_
      refine wl_skip rfl ?_
      refine wl_pick (.tmp 25) (.const (.bool true)) (.tmp 29) true (.bool true) (fun _ => rfl) rfl rfl rfl ?_
      refine w_nil ?_
      refine xn_then ?_
      refine w_condT rfl ?_
      refine w_seq ?_
      refine w_reg ?_
      refine wl_mv (.const (.bool false)) (.bool false) (fun _ => rfl) rfl rfl ?_
      refine w_nil ?_
      refine xn_then ?_
      refine w_ret ?_
      refine xr_blk ?_
      refine xr_then ?_
      refine xr_then ?_
      refine xr_blk ?_
      refine xr_then ?_
      exact w_ret1 _ (.bool false) rfl rfl ⟨by rw [decide_eq_false (fun hT : isT s => by obtain ⟨_, _, h3⟩ := hT; have := h3 k hlt hlt; have := of_decide_eq_true ha; omega)], M⟩
    | false =>
      cases hb : decide ((s[k].toNat : Int) > 57) with
      | true =>
        refine w_seq ?_
        refine w_reg ?_
        refine wl_bin (fun x y => do eqGuard .lss 3 (.tmp 18) (.tmp 17) x y; binOp .lss 3 x y) (.tmp 18) (.tmp 17) (.int .i64 ((k : Int))) (.int .i64 ((s.size : Int))) (.bool true) (fun _ => rfl) e18 e17 (lt3_run hl _ _ _) rfl ?_
        refine w_nil ?_
        refine xn_then ?_
        refine w_seq ?_
        refine w_condT rfl ?_
        refine w_skip ?_
        refine xn_then ?_
        refine w_seq ?_
        refine w_block ?_
        refine w_seq ?_
        refine w_reg ?_
        refine wl_mv (.tmp 18) (.int .i64 ((k : Int))) (fun _ => rfl) e18 rfl ?_
        refine wl_mv (.tmp 20) (.int .i64 ((k : Int))) (fun _ => rfl) rfl rfl ?_
        refine w_nil ?_
        refine xn_then ?_
        refine w_seq ?_
        refine w_reg ?_
        refine wl_mv (.tmp 0) (.string s) (fun _ => rfl) e0 rfl ?_
        refine wl_mv (.tmp 3) (.int .i64 ((k : Int))) (fun _ => rfl) rfl rfl ?_
        refine wl_bin (fun x y => Instr.index 9 x y) (.tmp 21) (.tmp 22) (.string s) (.int .i64 ((k : Int))) (.int .u8 (s[k].toNat : Int)) (fun _ => rfl) rfl rfl (idx_s s k hlt _) rfl ?_
        refine wl_bin (fun x y => do eqGuard .lss 5 (.tmp 23) (.const (.int .u8 (48))) x y; binOp .lss 5 x y) (.tmp 23) (.const (.int .u8 (48))) (.int .u8 (s[k].toNat : Int)) (.int .u8 (48)) (.bool false) (fun _ => rfl) rfl rfl (ls5 ha _ _ _) rfl ?_
        refine wl_mv (.tmp 24) (.bool false) (fun _ => rfl) rfl rfl ?_
        refine wl_mv (.tmp 0) (.string s) (fun _ => rfl) e0 rfl ?_
        refine wl_mv (.tmp 3) (.int .i64 ((k : Int))) (fun _ => rfl) rfl rfl ?_
        refine wl_bin (fun x y => Instr.index 9 x y) (.tmp 26) (.tmp 27) (.string s) (.int .i64 ((k : Int))) (.int .u8 (s[k].toNat : Int)) (fun _ => rfl) rfl rfl (idx_s s k hlt _) rfl ?_
        refine wl_bin (fun x y => do eqGuard .gtr 5 (.tmp 28) (.const (.int .u8 (57))) x y; binOp .gtr 5 x y) (.tmp 28) (.const (.int .u8 (57))) (.int .u8 (s[k].toNat : Int)) (.int .u8 (57)) (.bool true) (fun _ => rfl) rfl rfl (gt5_run hb _ _ _) rfl ?_
        refine wl_pick (.tmp 25) (.const (.bool true)) (.tmp 29) false (.bool true) (fun _ => rfl) rfl rfl rfl ?_
        refine w_nil ?_
        refine xn_then ?_
        refine w_condT rfl ?_
        refine w_seq ?_
        refine w_reg ?_
        refine wl_mv (.const (.bool false)) (.bool false) (fun _ => rfl) rfl rfl ?_
        refine w_nil ?_
        refine xn_then ?_
        refine w_ret ?_
        refine xr_blk ?_
        refine xr_then ?_
        refine xr_then ?_
        refine xr_blk ?_
        refine xr_then ?_
        exact w_ret1 _ (.bool false) rfl rfl ⟨by rw [decide_eq_false (fun hT : isT s => by obtain ⟨_, _, h3⟩ := hT; have := h3 k hlt hlt; have := of_decide_eq_true hb; omega)], M⟩
      | false =>
        refine w_seq ?_
        refine w_reg ?_
        refine wl_bin (fun x y => do eqGuard .lss 3 (.tmp 18) (.tmp 17) x y; binOp .lss 3 x y) (.tmp 18) (.tmp 17) (.int .i64 ((k : Int))) (.int .i64 ((s.size : Int))) (.bool true) (fun _ => rfl) e18 e17 (lt3_run hl _ _ _) rfl ?_
        refine w_nil ?_
        refine xn_then ?_
        refine w_seq ?_
        refine w_condT rfl ?_
        refine w_skip ?_
        refine xn_then ?_
        refine w_seq ?_
        refine w_block ?_
        refine w_seq ?_
        refine w_reg ?_
        refine wl_mv (.tmp 18) (.int .i64 ((k : Int))) (fun _ => rfl) e18 rfl ?_
        refine wl_mv (.tmp 20) (.int .i64 ((k : Int))) (fun _ => rfl) rfl rfl ?_
        refine w_nil ?_
        refine xn_then ?_
        refine w_seq ?_
        refine w_reg ?_
        refine wl_mv (.tmp 0) (.string s) (fun _ => rfl) e0 rfl ?_
        refine wl_mv (.tmp 3) (.int .i64 ((k : Int))) (fun _ => rfl) rfl rfl ?_
        refine wl_bin (fun x y => Instr.index 9 x y) (.tmp 21) (.tmp 22) (.string s) (.int .i64 ((k : Int))) (.int .u8 (s[k].toNat : Int)) (fun _ => rfl) rfl rfl (idx_s s k hlt _) rfl ?_
        refine wl_bin (fun x y => do eqGuard .lss 5 (.tmp 23) (.const (.int .u8 (48))) x y; binOp .lss 5 x y) (.tmp 23) (.const (.int .u8 (48))) (.int .u8 (s[k].toNat : Int)) (.int .u8 (48)) (.bool false) (fun _ => rfl) rfl rfl (ls5 ha _ _ _) rfl ?_
        refine wl_mv (.tmp 24) (.bool false) (fun _ => rfl) rfl rfl ?_
        refine wl_mv (.tmp 0) (.string s) (fun _ => rfl) e0 rfl ?_
        refine wl_mv (.tmp 3) (.int .i64 ((k : Int))) (fun _ => rfl) rfl rfl ?_
        refine wl_bin (fun x y => Instr.index 9 x y) (.tmp 26) (.tmp 27) (.string s) (.int .i64 ((k : Int))) (.int .u8 (s[k].toNat : Int)) (fun _ => rfl) rfl rfl (idx_s s k hlt _) rfl ?_
        refine wl_bin (fun x y => do eqGuard .gtr 5 (.tmp 28) (.const (.int .u8 (57))) x y; binOp .gtr 5 x y) (.tmp 28) (.const (.int .u8 (57))) (.int .u8 (s[k].toNat : Int)) (.int .u8 (57)) (.bool false) (fun _ => rfl) rfl rfl (gt5_run hb _ _ _) rfl ?_
        refine wl_pick (.tmp 25) (.const (.bool true)) (.tmp 29) false (.bool false) (fun _ => rfl) rfl rfl rfl ?_
        refine w_nil ?_
        refine xn_then ?_
        refine w_condF rfl ?_
        refine w_skip ?_
        refine xn_blk ?_
        refine xn_then ?_
        refine w_reg ?_
        refine wl_bin (fun x y => do eqGuard .add 3 (.tmp 18) (.const (.int .i64 (1))) x y; binOp .add 3 x y) (.tmp 18) (.const (.int .i64 (1))) (.int .i64 ((k : Int))) (.int .i64 (1)) (.int .i64 (((k + 1 : Nat) : Int))) (fun _ => rfl) e18 rfl (add1_run (by unfold maxLen at hs; omega) _ _ _) rfl ?_
        refine wl_mv (.tmp 31) (.int .i64 (((k + 1 : Nat) : Int))) (fun _ => rfl) rfl rfl ?_
        refine w_nil ?_
        exact xn_loop (s.size - (k + 1)) (by omega) ⟨k + 1, by omega, e0, e17, rfl, dgs_succ hlt hd (by have := of_decide_eq_false ha; omega) (by have := of_decide_eq_false hb; omega), M⟩
  · have hl : decide ((k : Int) < (s.size : Int)) = false := decide_eq_false (by omega)
    refine w_seq ?_
    refine w_reg ?_
    refine wl_bin (fun x y => do eqGuard .lss 3 (.tmp 18) (.tmp 17) x y; binOp .lss 3 x y) (.tmp 18) (.tmp 17) (.int .i64 ((k : Int))) (.int .i64 ((s.size : Int))) (.bool false) (fun _ => rfl) e18 e17 (lt3_run hl _ _ _) rfl ?_
    refine w_nil ?_
    refine xn_then ?_
    refine w_seq ?_
    refine w_condF rfl ?_
    refine w_exit ?_
    refine xx_then ?_
    refine xx_then ?_
    refine xx_blk ?_
    refine xn_then ?_
    refine w_seq ?_
    refine w_reg ?_
    refine wl_mv (.const (.bool true)) (.bool true) (fun _ => rfl) rfl rfl ?_
    refine w_nil ?_
    refine xn_then ?_
    refine w_ret ?_
    exact w_ret1 _ (.bool true) rfl rfl ⟨by rw [decide_eq_true (isT_mk hp hlead (by omega) hd)], M⟩
theorem isd_l2 (s : ByteArray) (w : World) [Decidable (isT s)] (hs : s.size ≤ maxLen) (h0 : s.toList.isEmpty = false) (hp : 0 < s.size) (hlead : ¬ (s.size > 1 ∧ (s[0].toNat : Int) = 48)) (h1 : decide ((s.size : Int) > 1) = true) (hz : ((s[0].toNat : Int) == 48) = false) : Calls Try.prog 67 #[.string s] w fun e w' => e = .returned (.bool (decide (isT s))) ∧ Mo w w' := by
  refine w_enter 32 Try.func67 Try.ntmps67 rfl rfl ?_
  have M : Mo w w := Mo.refl _
  refine w_seq ?_
  refine w_reg ?_
  refine wl_mv (.const (.bool false)) (.bool false) (fun _ => rfl) rfl rfl ?_
  refine w_nil ?_
  refine xn_then ?_
  refine w_seq ?_
  refine w_seq ?_
  refine w_reg ?_
  refine wl_mv (.tmp 0) (.string s) (fun _ => rfl) rfl rfl ?_
  refine wl_bin (fun x y => do eqGuard .eql 9 (.tmp 4) (.const (.string ⟨#[]⟩)) x y; binOp .eql 9 x y) (.tmp 4) (.const (.string ⟨#[]⟩)) (.string s) (.string ⟨#[]⟩) (.bool false) (fun _ => rfl) rfl rfl (eqe_run h0 _ _ _) rfl ?_
  refine wl_mv (.tmp 5) (.bool false) (fun _ => rfl) rfl rfl ?_
  refine wl_mv (.tmp 0) (.string s) (fun _ => rfl) rfl rfl ?_
  refine wl_val (.int .i64 ((s.size : Int))) (len_run _ _ s rfl _ _ _ _ _ _) rfl ?_
  refine wl_bin (fun x y => do eqGuard .gtr 3 (.tmp 8) (.const (.int .i64 (1))) x y; binOp .gtr 3 x y) (.tmp 8) (.const (.int .i64 (1))) (.int .i64 ((s.size : Int))) (.int .i64 (1)) (.bool true) (fun _ => rfl) rfl rfl (gt3_run h1 _ _ _) rfl ?_
  refine wl_mv (.tmp 9) (.bool true) (fun _ => rfl) rfl rfl ?_
  refine wl_mv (.tmp 0) (.string s) (fun _ => rfl) rfl rfl ?_
  refine wl_bin (fun x y => Instr.index 9 x y) (.tmp 11) (.const (.int .i64 (0))) (.string s) (.int .i64 (0)) (.int .u8 (s[0].toNat : Int)) (fun _ => rfl) rfl rfl (idx_0 s hp _) rfl ?_
  refine wl_bin (fun x y => do eqGuard .eql 5 (.tmp 12) (.const (.int .u8 (48))) x y; binOp .eql 5 x y) (.tmp 12) (.const (.int .u8 (48))) (.int .u8 (s[0].toNat : Int)) (.int .u8 (48)) (.bool false) (fun _ => rfl) rfl rfl (eq5_run hz _ _ _) rfl ?_
  refine wl_pick (.tmp 10) (.tmp 13) (.const (.bool false)) true (.bool false) (fun _ => rfl) rfl rfl rfl ?_
  refine wl_pick (.tmp 6) (.const (.bool true)) (.tmp 14) false (.bool false) (fun _ => rfl) rfl rfl rfl ?_
  refine w_nil ?_
  refine xn_then ?_
  refine w_condF rfl ?_
  refine w_skip ?_
  refine xn_then ?_
  refine w_seq ?_
  refine w_seq ?_
  refine w_reg ?_
  refine wl_mv (.tmp 0) (.string s) (fun _ => rfl) rfl rfl ?_
  refine wl_val (.int .i64 ((s.size : Int))) (len_run _ _ s rfl _ _ _ _ _ _) rfl ?_
  refine wl_mv (.const (.int .i64 (0))) (.int .i64 (0)) (fun _ => rfl) rfl rfl ?_
  refine w_nil ?_
  refine xn_then ?_
  refine w_block ?_
  refine w_loop (fun m l w1 => ∃ k : Nat, k + m = s.size ∧ look l 0 = .string s ∧ look l 17 = .int .i64 (s.size : Int) ∧ look l 18 = .int .i64 (k : Int) ∧ dgs s k ∧ Mo w w1) s.size ⟨0, by omega, rfl, rfl, rfl, fun j _ h => absurd h (Nat.not_lt_zero _), M⟩ ?_
  clear M
  rintro m l wl ⟨k, hk, e0, e17, e18, hd, M⟩
  by_cases hlt : k < s.size
  · have hl : decide ((k : Int) < (s.size : Int)) = true := decide_eq_true (by omega)
    cases ha : decide ((s[k].toNat : Int) < 48) with
    | true =>
      refine w_seq ?_
      refine w_reg ?_
      refine wl_bin (fun x y => do eqGuard .lss 3 (.tmp 18) (.tmp 17) x y; binOp .lss 3 x y) (.tmp 18) (.tmp 17) (.int .i64 ((k : Int))) (.int .i64 ((s.size : Int))) (.bool true) (fun _ => rfl) e18 e17 (lt3_run hl _ _ _) rfl ?_
      refine w_nil ?_
      refine xn_then ?_
      refine w_seq ?_
      refine w_condT rfl ?_
      refine w_skip ?_
      refine xn_then ?_
      refine w_seq ?_
      refine w_block ?_
      refine w_seq ?_
      refine w_reg ?_
      refine wl_mv (.tmp 18) (.int .i64 ((k : Int))) (fun _ => rfl) e18 rfl ?_
      refine wl_mv (.tmp 20) (.int .i64 ((k : Int))) (fun _ => rfl) rfl rfl ?_
      refine w_nil ?_
      refine xn_then ?_
      refine w_seq ?_
      refine w_reg ?_
      refine wl_mv (.tmp 0) (.string s) (fun _ => rfl) e0 rfl ?_
      refine wl_mv (.tmp 3) (.int .i64 ((k : Int))) (fun _ => rfl) rfl rfl ?_
      refine wl_bin (fun x y => Instr.index 9 x y) (.tmp 21) (.tmp 22) (.string s) (.int .i64 ((k : Int))) (.int .u8 (s[k].toNat : Int)) (fun _ => rfl) rfl rfl (idx_s s k hlt _) rfl ?_
      refine wl_bin (fun x y => do eqGuard .lss 5 (.tmp 23) (.const (.int .u8 (48))) x y; binOp .lss 5 x y) (.tmp 23) (.const (.int .u8 (48))) (.int .u8 (s[k].toNat : Int)) (.int .u8 (48)) (.bool true) (fun _ => rfl) rfl rfl (ls5 ha _ _ _) rfl ?_
      refine wl_mv (.tmp 24) (.bool true) (fun _ => rfl) rfl rfl ?_
      refine wl_skip rfl ?_
      refine wl_skip rfl ?_
      refine wl_skip rfl ?_
      refine wl_skip rfl ?_
      refine wl_pick (.tmp 25) (.const (.bool true)) (.tmp 29) true (.bool true) (fun _ => rfl) rfl rfl rfl ?_
      refine w_nil ?_
      refine xn_then ?_
      refine w_condT rfl ?_
      refine w_seq ?_
      refine w_reg ?_
      refine wl_mv (.const (.bool false)) (.bool false) (fun _ => rfl) rfl rfl ?_
      refine w_nil ?_
      refine xn_then ?_
      refine w_ret ?_
      refine xr_blk ?_
      refine xr_then ?_
      refine xr_then ?_
      refine xr_blk ?_
      refine xr_then ?_
      exact w_ret1 _ (.bool false) rfl rfl ⟨by rw [decide_eq_false (fun hT : isT s => by obtain ⟨_, _, h3⟩ := hT; have := h3 k hlt hlt; have := of_decide_eq_true ha; omega)], M⟩
    | false =>
      cases hb : decide ((s[k].toNat : Int) > 57) with
      | true =>
        refine w_seq ?_
        refine w_reg ?_
        refine wl_bin (fun x y => do eqGuard .lss 3 (.tmp 18) (.tmp 17) x y; binOp .lss 3 x y) (.tmp 18) (.tmp 17) (.int .i64 ((k : Int))) (.int .i64 ((s.size : Int))) (.bool true) (fun _ => rfl) e18 e17 (lt3_run hl _ _ _) rfl ?_
        refine w_nil ?_
        refine xn_then ?_
        refine w_seq ?_
        refine w_condT rfl ?_
        refine w_skip ?_
        refine xn_then ?_
        refine w_seq ?_
        refine w_block ?_
        refine w_seq ?_
        refine w_reg ?_
        refine wl_mv (.tmp 18) (.int .i64 ((k : Int))) (fun _ => rfl) e18 rfl ?_
        refine wl_mv (.tmp 20) (.int .i64 ((k : Int))) (fun _ => rfl) rfl rfl ?_
        refine w_nil ?_
        refine xn_then ?_
        refine w_seq ?_
        refine w_reg ?_
        refine wl_mv (.tmp 0) (.string s) (fun _ => rfl) e0 rfl ?_
        refine wl_mv (.tmp 3) (.int .i64 ((k : Int))) (fun _ => rfl) rfl rfl ?_
        refine wl_bin (fun x y => Instr.index 9 x y) (.tmp 21) (.tmp 22) (.string s) (.int .i64 ((k : Int))) (.int .u8 (s[k].toNat : Int)) (fun _ => rfl) rfl rfl (idx_s s k hlt _) rfl ?_
        refine wl_bin (fun x y => do eqGuard .lss 5 (.tmp 23) (.const (.int .u8 (48))) x y; binOp .lss 5 x y) (.tmp 23) (.const (.int .u8 (48))) (.int .u8 (s[k].toNat : Int)) (.int .u8 (48)) (.bool false) (fun _ => rfl) rfl rfl (ls5 ha _ _ _) rfl ?_
        refine wl_mv (.tmp 24) (.bool false) (fun _ => rfl) rfl rfl ?_
        refine wl_mv (.tmp 0) (.string s) (fun _ => rfl) e0 rfl ?_
        refine wl_mv (.tmp 3) (.int .i64 ((k : Int))) (fun _ => rfl) rfl rfl ?_
        refine wl_bin (fun x y => Instr.index 9 x y) (.tmp 26) (.tmp 27) (.string s) (.int .i64 ((k : Int))) (.int .u8 (s[k].toNat : Int)) (fun _ => rfl) rfl rfl (idx_s s k hlt _) rfl ?_
        refine wl_bin (fun x y => do eqGuard .gtr 5 (.tmp 28) (.const (.int .u8 (57))) x y; binOp .gtr 5 x y) (.tmp 28) (.const (.int .u8 (57))) (.int .u8 (s[k].toNat : Int)) (.int .u8 (57)) (.bool true) (fun _ => rfl) rfl rfl (gt5_run hb _ _ _) rfl ?_
        refine wl_pick (.tmp 25) (.const (.bool true)) (.tmp 29) false (.bool true) (fun _ => rfl) rfl rfl rfl ?_
        refine w_nil ?_
        refine xn_then ?_
        refine w_condT rfl ?_
        refine w_seq ?_
        refine w_reg ?_
        refine wl_mv (.const (.bool false)) (.bool false) (fun _ => rfl) rfl rfl ?_
        refine w_nil ?_
        refine xn_then ?_
        refine w_ret ?_
        refine xr_blk ?_
        refine xr_then ?_
        refine xr_then ?_
        refine xr_blk ?_
        refine xr_then ?_
        exact w_ret1 _ (.bool false) rfl rfl ⟨by rw [decide_eq_false (fun hT : isT s => by obtain ⟨_, _, h3⟩ := hT; have := h3 k hlt hlt; have := of_decide_eq_true hb; omega)], M⟩
      | false =>
        refine w_seq ?_
        refine w_reg ?_
        refine wl_bin (fun x y => do eqGuard .lss 3 (.tmp 18) (.tmp 17) x y; binOp .lss 3 x y) (.tmp 18) (.tmp 17) (.int .i64 ((k : Int))) (.int .i64 ((s.size : Int))) (.bool true) (fun _ => rfl) e18 e17 (lt3_run hl _ _ _) rfl ?_
        refine w_nil ?_
        refine xn_then ?_
        refine w_seq ?_
        refine w_condT rfl ?_
        refine w_skip ?_
        refine xn_then ?_
        refine w_seq ?_
        refine w_block ?_
        refine w_seq ?_
        refine w_reg ?_
        refine wl_mv (.tmp 18) (.int .i64 ((k : Int))) (fun _ => rfl) e18 rfl ?_
        refine wl_mv (.tmp 20) (.int .i64 ((k : Int))) (fun _ => rfl) rfl rfl ?_
        refine w_nil ?_
        refine xn_then ?_
        refine w_seq ?_
        refine w_reg ?_
        refine wl_mv (.tmp 0) (.string s) (fun _ => rfl) e0 rfl ?_
        refine wl_mv (.tmp 3) (.int .i64 ((k : Int))) (fun _ => rfl) rfl rfl ?_
        refine wl_bin (fun x y => Instr.index 9 x y) (.tmp 21) (.tmp 22) (.string s) (.int .i64 ((k : Int))) (.int .u8 (s[k].toNat : Int)) (fun _ => rfl) rfl rfl (idx_s s k hlt _) rfl ?_
        refine wl_bin (fun x y => do eqGuard .lss 5 (.tmp 23) (.const (.int .u8 (48))) x y; binOp .lss 5 x y) (.tmp 23) (.const (.int .u8 (48))) (.int .u8 (s[k].toNat : Int)) (.int .u8 (48)) (.bool false) (fun _ => rfl) rfl rfl (ls5 ha _ _ _) rfl ?_
        refine wl_mv (.tmp 24) (.bool false) (fun _ => rfl) rfl rfl ?_
        refine wl_mv (.tmp 0) (.string s) (fun _ => rfl) e0 rfl ?_
        refine wl_mv (.tmp 3) (.int .i64 ((k : Int))) (fun _ => rfl) rfl rfl ?_
        refine wl_bin (fun x y => Instr.index 9 x y) (.tmp 26) (.tmp 27) (.string s) (.int .i64 ((k : Int))) (.int .u8 (s[k].toNat : Int)) (fun _ => rfl) rfl rfl (idx_s s k hlt _) rfl ?_
        refine wl_bin (fun x y => do eqGuard .gtr 5 (.tmp 28) (.const (.int .u8 (57))) x y; binOp .gtr 5 x y) (.tmp 28) (.const (.int .u8 (57))) (.int .u8 (s[k].toNat : Int)) (.int .u8 (57)) (.bool false) (fun _ => rfl) rfl rfl (gt5_run hb _ _ _) rfl ?_
        refine wl_pick (.tmp 25) (.const (.bool true)) (.tmp 29) false (.bool false) (fun _ => rfl) rfl rfl rfl ?_
        refine w_nil ?_
        refine xn_then ?_
        refine w_condF rfl ?_
        refine w_skip ?_
        refine xn_blk ?_
        refine xn_then ?_
        refine w_reg ?_
        refine wl_bin (fun x y => do eqGuard .add 3 (.tmp 18) (.const (.int .i64 (1))) x y; binOp .add 3 x y) (.tmp 18) (.const (.int .i64 (1))) (.int .i64 ((k : Int))) (.int .i64 (1)) (.int .i64 (((k + 1 : Nat) : Int))) (fun _ => rfl) e18 rfl (add1_run (by unfold maxLen at hs; omega) _ _ _) rfl ?_
        refine wl_mv (.tmp 31) (.int .i64 (((k + 1 : Nat) : Int))) (fun _ => rfl) rfl rfl ?_
        refine w_nil ?_
        exact xn_loop (s.size - (k + 1)) (by omega) ⟨k + 1, by omega, e0, e17, rfl, dgs_succ hlt hd (by have := of_decide_eq_false ha; omega) (by have := of_decide_eq_false hb; omega), M⟩
  · have hl : decide ((k : Int) < (s.size : Int)) = false := decide_eq_false (by omega)
    refine w_seq ?_
    refine w_reg ?_
    refine wl_bin (fun x y => do eqGuard .lss 3 (.tmp 18) (.tmp 17) x y; binOp .lss 3 x y) (.tmp 18) (.tmp 17) (.int .i64 ((k : Int))) (.int .i64 ((s.size : Int))) (.bool false) (fun _ => rfl) e18 e17 (lt3_run hl _ _ _) rfl ?_
    refine w_nil ?_
    refine xn_then ?_
    refine w_seq ?_
    refine w_condF rfl ?_
    refine w_exit ?_
    refine xx_then ?_
    refine xx_then ?_
    refine xx_blk ?_
    refine xn_then ?_
    refine w_seq ?_
    refine w_reg ?_
    refine wl_mv (.const (.bool true)) (.bool true) (fun _ => rfl) rfl rfl ?_
    refine w_nil ?_
    refine xn_then ?_
    refine w_ret ?_
    exact w_ret1 _ (.bool true) rfl rfl ⟨by rw [decide_eq_true (isT_mk hp hlead (by omega) hd)], M⟩
theorem isd_n (s : ByteArray) (w : World) [Decidable (isT s)] (hs : s.size ≤ maxLen) : Calls Try.prog 67 #[.string s] w fun e w' => e = .returned (.bool (decide (isT s))) ∧ Mo w w' := by
  by_cases hp : 0 < s.size
  · have h0 : s.toList.isEmpty = false := by rw [emp_iff]; exact decide_eq_false (by omega)
    cases h1 : decide ((s.size : Int) > 1) with
    | false => exact isd_l1 s w hs h0 hp (fun h => by have := of_decide_eq_false h1; omega) h1
    | true =>
      cases hz : ((s[0].toNat : Int) == 48) with
      | false => exact isd_l2 s w hs h0 hp (fun h => by rw [h.2] at hz; simp at hz) h1 hz
      | true =>
        rw [decide_eq_false (fun hT : isT s => by obtain ⟨_, h, _⟩ := hT; exact h ⟨by have := of_decide_eq_true h1; omega, by simpa using hz⟩)]
        exact isd_lead s w h0 hp h1 hz
  · rw [decide_eq_false (fun hT : isT s => by obtain ⟨h, _⟩ := hT; exact hp h)]
    exact isd_emp s w (by rw [emp_iff]; exact decide_eq_true (by omega))
end Go.Proofs.Ytoiiekmkcpcbgaa
/-
  The document's plus and minus of two wide numbers: the walks.
-/
namespace Go.Proofs.Ytoiiekmkcpcbgaa
open Go.RowKit
theorem radd_m (A B : Int) (w : World) : Calls Try.prog 64 #[nv A, nv B] w fun e w' => e = .returned (.tuple #[nv (A % MM + B % MM), .bool (ov (A % MM + B % MM))]) ∧ Mo w w' := by
  have h := radd_any (l0 A) (l1 A) (l2 A) (l3 A) (l0 B) (l1 B) (l2 B) (l3 B) w (u4_lb A) (u4_lb B)
  rw [vl_nv, vl_nv] at h
  exact h
theorem rsub_m (A B : Int) (w : World) : Calls Try.prog 66 #[nv A, nv B] w fun e w' => e = .returned (.tuple #[nv (A % MM - B % MM), .bool (un (A % MM - B % MM))]) ∧ Mo w w' := by
  have h := rsub_n (A % MM) (B % MM) w (Int.emod_nonneg _ (by decide)) (Int.emod_lt_of_pos _ (by decide)) (Int.emod_nonneg _ (by decide)) (Int.emod_lt_of_pos _ (by decide))
  rw [nv_mod A, nv_mod B] at h
  exact h
set_option maxHeartbeats 4000000 in
theorem plus_n (X Y : Int) (w : World) (hX0 : 0 ≤ X) (hX : X < MM * MM) (hY0 : 0 ≤ Y) (hY : Y < MM * MM) :
    Calls Try.prog 84 #[dw X, dw Y] w fun e w' => e = .returned (dw (X + Y)) ∧ Mo w w' := by
  obtain ⟨f1, f2⟩ := dsum hX0 hX hY0 hY
  have F1 : Hid _ := f1
  clear f1
  go_enter Try.func84, Try.ntmps84
  go_wp2_with fail
  refine (radd_m X Y _).mono ?_
  rintro e w1 ⟨rfl, hm1⟩
  have m : Mo w w1 := Mo.trans (by repeat (first | with_reducible exact Mo.refl _ | with_reducible apply Mo.drew | with_reducible apply Mo.alloc)) hm1
  have M := m
  have Qx : AtW w1 (w.heap.size) X := AtW.mo ⟨by simp [go_sem], fun o => by simp [go_sem], by simp <;> omega⟩ hm1
  have Qy : AtW w1 (w.heap.size + 1) Y := AtW.mo ⟨by simp [go_sem], fun o => by simp [go_sem], by simp <;> omega⟩ hm1
  have Qr : AtW w1 (w.heap.size + 1 + 1) 0 := AtW.mo ⟨by simp [go_sem, zl0, zl1, zl2, zl3], fun o => by simp [go_sem], by simp <;> omega⟩ hm1
  clear hm1 m
  have Ox := Qx
  obtain ⟨⟨cx0, cx1, cx2, cx3, cx4, cx5, cx6, cx7⟩, fx, sx⟩ := Ox
  have fx := fun o => fx o
  have sxx : w.heap.size < w1.heap.size + 1 := by omega
  have syx : w.heap.size < w1.heap.size + 1 + 1 := by omega
  have Oy := Qy
  obtain ⟨⟨cy0, cy1, cy2, cy3, cy4, cy5, cy6, cy7⟩, fy, sy⟩ := Oy
  have fy := fun o => fy o
  have sxy : w.heap.size + 1 < w1.heap.size + 1 := by omega
  have syy : w.heap.size + 1 < w1.heap.size + 1 + 1 := by omega
  have Or := Qr
  obtain ⟨⟨cr0, cr1, cr2, cr3, cr4, cr5, cr6, cr7⟩, fr, sr⟩ := Or
  have fr := fun o => fr o
  have sxr : w.heap.size + 1 + 1 < w1.heap.size + 1 := by omega
  have syr : w.heap.size + 1 + 1 < w1.heap.size + 1 + 1 := by omega
  obtain ⟨lo, hlo⟩ : ∃ lo, lo = X % MM + Y % MM := ⟨_, rfl⟩
  rw [← hlo] at f2 F1 ⊢
  have HL : Hid _ := hlo
  clear hlo
  go_wp2_with fail
  refine (radd_m (X / MM) (Y / MM) _).mono ?_
  rintro e w2 ⟨rfl, hm2⟩
  have m : Mo w1 w2 := Mo.trans (by repeat (first | with_reducible exact Mo.refl _ | with_reducible apply Mo.drew | with_reducible apply Mo.alloc)) hm2
  clear cx0 cx1 cx2 cx3 cx4 cx5 cx6 cx7 fx sx sxx syx cy0 cy1 cy2 cy3 cy4 cy5 cy6 cy7 fy sy sxy syy cr0 cr1 cr2 cr3 cr4 cr5 cr6 cr7 fr sr sxr syr
  have Qx := Qx.mo m
  have Qy := Qy.mo m
  have Qr := Qr.mo m
  have M := M.trans m
  have Ql : AtN w2 (w1.heap.size) lo := AtN.mo ⟨by simp [At4, go_sem], fun o => by simp [go_sem], by simp <;> omega⟩ hm2
  clear hm2 m
  have Ox := Qx
  obtain ⟨⟨cx0, cx1, cx2, cx3, cx4, cx5, cx6, cx7⟩, fx, sx⟩ := Ox
  have fx := fun o => fx o
  have sxx : w.heap.size < w2.heap.size + 1 := by omega
  have syx : w.heap.size < w2.heap.size + 1 + 1 := by omega
  have Oy := Qy
  obtain ⟨⟨cy0, cy1, cy2, cy3, cy4, cy5, cy6, cy7⟩, fy, sy⟩ := Oy
  have fy := fun o => fy o
  have sxy : w.heap.size + 1 < w2.heap.size + 1 := by omega
  have syy : w.heap.size + 1 < w2.heap.size + 1 + 1 := by omega
  have Or := Qr
  obtain ⟨⟨cr0, cr1, cr2, cr3, cr4, cr5, cr6, cr7⟩, fr, sr⟩ := Or
  have fr := fun o => fr o
  have sxr : w.heap.size + 1 + 1 < w2.heap.size + 1 := by omega
  have syr : w.heap.size + 1 + 1 < w2.heap.size + 1 + 1 := by omega
  have Ol := Ql
  obtain ⟨⟨cl0, cl1, cl2, cl3⟩, fl, sl⟩ := Ol
  have fl := fun o => fl o
  have sxl : w1.heap.size < w2.heap.size + 1 := by omega
  have syl : w1.heap.size < w2.heap.size + 1 + 1 := by omega
  obtain ⟨hi, hhi⟩ : ∃ hi, hi = X / MM % MM + Y / MM % MM := ⟨_, rfl⟩
  rw [← hhi] at f2 ⊢
  have HH : Hid _ := hhi
  clear hhi
  rcases f2 with ⟨g1, g2⟩ | ⟨g1, g2⟩
  · have G2 : Hid _ := g2
    clear g2
    have a : Mo w2 ((w2).alloc (.cells #[.int .u64 (l0 (hi)), .int .u64 (l1 (hi)), .int .u64 (l2 (hi)), .int .u64 (l3 (hi))] 24)) := by repeat (first | with_reducible exact Mo.refl _ | with_reducible apply Mo.alloc)
    have zW0x := sx
    have zW0y := sy
    have zW0r := sr
    have zW0l := sl
    clear cx0 cx1 cx2 cx3 cx4 cx5 cx6 cx7 fx sx sxx syx cy0 cy1 cy2 cy3 cy4 cy5 cy6 cy7 fy sy sxy syy cr0 cr1 cr2 cr3 cr4 cr5 cr6 cr7 fr sr sxr syr cl0 cl1 cl2 cl3 fl sl sxl syl
    have Qx := Qx.mo a
    have Qy := Qy.mo a
    have Qr := Qr.mo a
    have Ql := Ql.mo a
    have M := M.trans a
    have Qh : AtN ((w2).alloc (.cells #[.int .u64 (l0 (hi)), .int .u64 (l1 (hi)), .int .u64 (l2 (hi)), .int .u64 (l3 (hi))] 24)) (w2.heap.size) hi := ⟨by simp [At4, go_sem], fun o => by simp [go_sem], by simp <;> omega⟩
    clear a
    go_upto_region 5 with fail
    generalize ((w2).alloc (.cells #[.int .u64 (l0 (hi)), .int .u64 (l1 (hi)), .int .u64 (l2 (hi)), .int .u64 (l3 (hi))] 24)) = W0 at *
    have Ox := Qx
    obtain ⟨⟨cx0, cx1, cx2, cx3, cx4, cx5, cx6, cx7⟩, fx, sx⟩ := Ox
    have fx := fun o => fx o
    have sxx : w.heap.size < W0.heap.size + 1 := by omega
    have syx : w.heap.size < W0.heap.size + 1 + 1 := by omega
    have Oy := Qy
    obtain ⟨⟨cy0, cy1, cy2, cy3, cy4, cy5, cy6, cy7⟩, fy, sy⟩ := Oy
    have fy := fun o => fy o
    have sxy : w.heap.size + 1 < W0.heap.size + 1 := by omega
    have syy : w.heap.size + 1 < W0.heap.size + 1 + 1 := by omega
    have Or := Qr
    obtain ⟨⟨cr0, cr1, cr2, cr3, cr4, cr5, cr6, cr7⟩, fr, sr⟩ := Or
    have fr := fun o => fr o
    have sxr : w.heap.size + 1 + 1 < W0.heap.size + 1 := by omega
    have syr : w.heap.size + 1 + 1 < W0.heap.size + 1 + 1 := by omega
    have Ol := Ql
    obtain ⟨⟨cl0, cl1, cl2, cl3⟩, fl, sl⟩ := Ol
    have fl := fun o => fl o
    have sxl : w1.heap.size < W0.heap.size + 1 := by omega
    have syl : w1.heap.size < W0.heap.size + 1 + 1 := by omega
    have Oh := Qh
    obtain ⟨⟨ch0, ch1, ch2, ch3⟩, fh, sh⟩ := Oh
    have fh := fun o => fh o
    have sxh : w2.heap.size < W0.heap.size + 1 := by omega
    have syh : w2.heap.size < W0.heap.size + 1 + 1 := by omega
    go_wp2
    refine bodyPost_ret (v := .agg #[.int .u64 (l0 (hi)), .int .u64 (l1 (hi)), .int .u64 (l2 (hi)), .int .u64 (l3 (hi)), .int .u64 (l0 (lo)), .int .u64 (l1 (lo)), .int .u64 (l2 (lo)), .int .u64 (l3 (lo))]) (by simp [results, Try.results84, go_sem, *]) rfl ?_
    refine ⟨by rw [dw_of78 G2.out F1.out], ?_⟩
    repeat (first | with_reducible exact M | with_reducible exact Mo.refl _ | with_reducible apply Mo.drew | with_reducible apply Mo.drewN | with_reducible apply Mo.alloc | with_reducible refine Mo.setCell ?_ (by simp <;> omega) _)
  · have G2 : Hid _ := g2
    clear g2
    have a : Mo w2 ((w2).alloc (.cells #[.int .u64 (l0 (hi)), .int .u64 (l1 (hi)), .int .u64 (l2 (hi)), .int .u64 (l3 (hi))] 24)) := by repeat (first | with_reducible exact Mo.refl _ | with_reducible apply Mo.alloc)
    have zW0x := sx
    have zW0y := sy
    have zW0r := sr
    have zW0l := sl
    clear cx0 cx1 cx2 cx3 cx4 cx5 cx6 cx7 fx sx sxx syx cy0 cy1 cy2 cy3 cy4 cy5 cy6 cy7 fy sy sxy syy cr0 cr1 cr2 cr3 cr4 cr5 cr6 cr7 fr sr sxr syr cl0 cl1 cl2 cl3 fl sl sxl syl
    have Qx := Qx.mo a
    have Qy := Qy.mo a
    have Qr := Qr.mo a
    have Ql := Ql.mo a
    have M := M.trans a
    have Qh : AtN ((w2).alloc (.cells #[.int .u64 (l0 (hi)), .int .u64 (l1 (hi)), .int .u64 (l2 (hi)), .int .u64 (l3 (hi))] 24)) (w2.heap.size) hi := ⟨by simp [At4, go_sem], fun o => by simp [go_sem], by simp <;> omega⟩
    clear a
    go_upto_region 4 with fail
    generalize ((w2).alloc (.cells #[.int .u64 (l0 (hi)), .int .u64 (l1 (hi)), .int .u64 (l2 (hi)), .int .u64 (l3 (hi))] 24)) = W0 at *
    have Ox := Qx
    obtain ⟨⟨cx0, cx1, cx2, cx3, cx4, cx5, cx6, cx7⟩, fx, sx⟩ := Ox
    have fx := fun o => fx o
    have sxx : w.heap.size < W0.heap.size + 1 := by omega
    have syx : w.heap.size < W0.heap.size + 1 + 1 := by omega
    have Oy := Qy
    obtain ⟨⟨cy0, cy1, cy2, cy3, cy4, cy5, cy6, cy7⟩, fy, sy⟩ := Oy
    have fy := fun o => fy o
    have sxy : w.heap.size + 1 < W0.heap.size + 1 := by omega
    have syy : w.heap.size + 1 < W0.heap.size + 1 + 1 := by omega
    have Or := Qr
    obtain ⟨⟨cr0, cr1, cr2, cr3, cr4, cr5, cr6, cr7⟩, fr, sr⟩ := Or
    have fr := fun o => fr o
    have sxr : w.heap.size + 1 + 1 < W0.heap.size + 1 := by omega
    have syr : w.heap.size + 1 + 1 < W0.heap.size + 1 + 1 := by omega
    have Ol := Ql
    obtain ⟨⟨cl0, cl1, cl2, cl3⟩, fl, sl⟩ := Ol
    have fl := fun o => fl o
    have sxl : w1.heap.size < W0.heap.size + 1 := by omega
    have syl : w1.heap.size < W0.heap.size + 1 + 1 := by omega
    have Oh := Qh
    obtain ⟨⟨ch0, ch1, ch2, ch3⟩, fh, sh⟩ := Oh
    have fh := fun o => fh o
    have sxh : w2.heap.size < W0.heap.size + 1 := by omega
    have syh : w2.heap.size < W0.heap.size + 1 + 1 := by omega
    go_cut [] from 26 to 31 (fun wx => Mo w wx ∧ AtN wx w2.heap.size (hi % MM + 1 % MM) ∧ AtN wx w1.heap.size lo ∧ AtW wx (w.heap.size + 1 + 1) 0)
    case first =>
      go_region_with
        (first | (go_at_call 69; refine (from34_any 1 _ ⟨by decide, by decide⟩).mono ?_; rintro e w5 ⟨rfl, hm5⟩; have m5 : Mo W0 w5 := Mo.trans (by repeat (first | with_reducible exact Mo.refl _ | with_reducible apply Mo.drew | with_reducible apply Mo.alloc)) hm5; obtain ⟨⟨x0, x1, x2, x3⟩, _, xs⟩ := Qh.mo m5) | (go_at_call 64; refine (radd_m hi 1 _).mono ?_; rintro e w6 ⟨rfl, hm6⟩; have m6 : Mo w5 w6 := Mo.trans (by repeat (first | with_reducible exact Mo.refl _ | with_reducible apply Mo.drew | with_reducible apply Mo.alloc)) hm6; have m7 := m5.trans m6; obtain ⟨⟨z0, z1, z2, z3⟩, zf, zs⟩ := Qh.mo m7; have zf := fun o => zf o))
      all_goals
        go_wp2
        go_meet
        case rel => exact ⟨(M.trans m7).st4 (by omega) _, (Qh.mo m7).same _, (Ql.mo m7).other (by omega) _, ((((Qr.mo m7).set178 (by omega) _ _).set178 (by omega) _ _).set178 (by omega) _ _).set178 (by omega) _ _⟩
    case rest =>
      clear cx0 cx1 cx2 cx3 cx4 cx5 cx6 cx7 fx sx sxx syx cy0 cy1 cy2 cy3 cy4 cy5 cy6 cy7 fy sy sxy syy cr0 cr1 cr2 cr3 cr4 cr5 cr6 cr7 fr sr sxr syr cl0 cl1 cl2 cl3 fl sl sxl syl ch0 ch1 ch2 ch3 fh sh sxh syh Qx Qy Qr Ql Qh M
      obtain ⟨M, Qh, Ql, Qr⟩ := hcut
      obtain ⟨⟨a0, a1, a2, a3⟩, _, sa⟩ := Qh
      obtain ⟨⟨b0, b1, b2, b3⟩, _, sb⟩ := Ql
      obtain ⟨⟨c0, c1, c2, c3, c4, c5, c6, c7⟩, fc, sc⟩ := Qr
      have fc := fun o => fc o
      go_wp2
      refine bodyPost_ret (v := .agg #[.int .u64 (l0 (hi % MM + 1 % MM)), .int .u64 (l1 (hi % MM + 1 % MM)), .int .u64 (l2 (hi % MM + 1 % MM)), .int .u64 (l3 (hi % MM + 1 % MM)), .int .u64 (l0 (lo)), .int .u64 (l1 (lo)), .int .u64 (l2 (lo)), .int .u64 (l3 (lo))]) (by simp [results, Try.results84, go_sem, *]) rfl ?_
      refine ⟨by rw [dw_of78 G2.out F1.out], ?_⟩
      repeat (first | with_reducible exact M | with_reducible exact Mo.refl _ | with_reducible apply Mo.drew | with_reducible apply Mo.drewN | with_reducible apply Mo.alloc | with_reducible refine Mo.setCell ?_ (by simp <;> omega) _)
set_option maxHeartbeats 4000000 in
theorem minus_n (X Y : Int) (w : World) (hX0 : 0 ≤ X) (hX : X < MM * MM) (hY0 : 0 ≤ Y) (hY : Y < MM * MM) :
    Calls Try.prog 86 #[dw X, dw Y] w fun e w' => e = .returned (dw (X - Y)) ∧ Mo w w' := by
  obtain ⟨f1, f2⟩ := ddif hX0 hX hY0 hY
  have F1 : Hid _ := f1
  clear f1
  go_enter Try.func86, Try.ntmps86
  go_wp2_with fail
  refine (rsub_m X Y _).mono ?_
  rintro e w1 ⟨rfl, hm1⟩
  have m : Mo w w1 := Mo.trans (by repeat (first | with_reducible exact Mo.refl _ | with_reducible apply Mo.drew | with_reducible apply Mo.alloc)) hm1
  have M := m
  have Qx : AtW w1 (w.heap.size) X := AtW.mo ⟨by simp [go_sem], fun o => by simp [go_sem], by simp <;> omega⟩ hm1
  have Qy : AtW w1 (w.heap.size + 1) Y := AtW.mo ⟨by simp [go_sem], fun o => by simp [go_sem], by simp <;> omega⟩ hm1
  have Qr : AtW w1 (w.heap.size + 1 + 1) 0 := AtW.mo ⟨by simp [go_sem, zl0, zl1, zl2, zl3], fun o => by simp [go_sem], by simp <;> omega⟩ hm1
  clear hm1 m
  have Ox := Qx
  obtain ⟨⟨cx0, cx1, cx2, cx3, cx4, cx5, cx6, cx7⟩, fx, sx⟩ := Ox
  have fx := fun o => fx o
  have sxx : w.heap.size < w1.heap.size + 1 := by omega
  have syx : w.heap.size < w1.heap.size + 1 + 1 := by omega
  have Oy := Qy
  obtain ⟨⟨cy0, cy1, cy2, cy3, cy4, cy5, cy6, cy7⟩, fy, sy⟩ := Oy
  have fy := fun o => fy o
  have sxy : w.heap.size + 1 < w1.heap.size + 1 := by omega
  have syy : w.heap.size + 1 < w1.heap.size + 1 + 1 := by omega
  have Or := Qr
  obtain ⟨⟨cr0, cr1, cr2, cr3, cr4, cr5, cr6, cr7⟩, fr, sr⟩ := Or
  have fr := fun o => fr o
  have sxr : w.heap.size + 1 + 1 < w1.heap.size + 1 := by omega
  have syr : w.heap.size + 1 + 1 < w1.heap.size + 1 + 1 := by omega
  obtain ⟨lo, hlo⟩ : ∃ lo, lo = X % MM - Y % MM := ⟨_, rfl⟩
  rw [← hlo] at f2 F1 ⊢
  have HL : Hid _ := hlo
  clear hlo
  go_wp2_with fail
  refine (rsub_m (X / MM) (Y / MM) _).mono ?_
  rintro e w2 ⟨rfl, hm2⟩
  have m : Mo w1 w2 := Mo.trans (by repeat (first | with_reducible exact Mo.refl _ | with_reducible apply Mo.drew | with_reducible apply Mo.alloc)) hm2
  clear cx0 cx1 cx2 cx3 cx4 cx5 cx6 cx7 fx sx sxx syx cy0 cy1 cy2 cy3 cy4 cy5 cy6 cy7 fy sy sxy syy cr0 cr1 cr2 cr3 cr4 cr5 cr6 cr7 fr sr sxr syr
  have Qx := Qx.mo m
  have Qy := Qy.mo m
  have Qr := Qr.mo m
  have M := M.trans m
  have Ql : AtN w2 (w1.heap.size) lo := AtN.mo ⟨by simp [At4, go_sem], fun o => by simp [go_sem], by simp <;> omega⟩ hm2
  clear hm2 m
  have Ox := Qx
  obtain ⟨⟨cx0, cx1, cx2, cx3, cx4, cx5, cx6, cx7⟩, fx, sx⟩ := Ox
  have fx := fun o => fx o
  have sxx : w.heap.size < w2.heap.size + 1 := by omega
  have syx : w.heap.size < w2.heap.size + 1 + 1 := by omega
  have Oy := Qy
  obtain ⟨⟨cy0, cy1, cy2, cy3, cy4, cy5, cy6, cy7⟩, fy, sy⟩ := Oy
  have fy := fun o => fy o
  have sxy : w.heap.size + 1 < w2.heap.size + 1 := by omega
  have syy : w.heap.size + 1 < w2.heap.size + 1 + 1 := by omega
  have Or := Qr
  obtain ⟨⟨cr0, cr1, cr2, cr3, cr4, cr5, cr6, cr7⟩, fr, sr⟩ := Or
  have fr := fun o => fr o
  have sxr : w.heap.size + 1 + 1 < w2.heap.size + 1 := by omega
  have syr : w.heap.size + 1 + 1 < w2.heap.size + 1 + 1 := by omega
  have Ol := Ql
  obtain ⟨⟨cl0, cl1, cl2, cl3⟩, fl, sl⟩ := Ol
  have fl := fun o => fl o
  have sxl : w1.heap.size < w2.heap.size + 1 := by omega
  have syl : w1.heap.size < w2.heap.size + 1 + 1 := by omega
  obtain ⟨hi, hhi⟩ : ∃ hi, hi = X / MM % MM - Y / MM % MM := ⟨_, rfl⟩
  rw [← hhi] at f2 ⊢
  have HH : Hid _ := hhi
  clear hhi
  rcases f2 with ⟨g1, g2⟩ | ⟨g1, g2⟩
  · have G2 : Hid _ := g2
    clear g2
    have a : Mo w2 ((w2).alloc (.cells #[.int .u64 (l0 (hi)), .int .u64 (l1 (hi)), .int .u64 (l2 (hi)), .int .u64 (l3 (hi))] 24)) := by repeat (first | with_reducible exact Mo.refl _ | with_reducible apply Mo.alloc)
    have zW0x := sx
    have zW0y := sy
    have zW0r := sr
    have zW0l := sl
    clear cx0 cx1 cx2 cx3 cx4 cx5 cx6 cx7 fx sx sxx syx cy0 cy1 cy2 cy3 cy4 cy5 cy6 cy7 fy sy sxy syy cr0 cr1 cr2 cr3 cr4 cr5 cr6 cr7 fr sr sxr syr cl0 cl1 cl2 cl3 fl sl sxl syl
    have Qx := Qx.mo a
    have Qy := Qy.mo a
    have Qr := Qr.mo a
    have Ql := Ql.mo a
    have M := M.trans a
    have Qh : AtN ((w2).alloc (.cells #[.int .u64 (l0 (hi)), .int .u64 (l1 (hi)), .int .u64 (l2 (hi)), .int .u64 (l3 (hi))] 24)) (w2.heap.size) hi := ⟨by simp [At4, go_sem], fun o => by simp [go_sem], by simp <;> omega⟩
    clear a
    go_upto_region 5 with fail
    generalize ((w2).alloc (.cells #[.int .u64 (l0 (hi)), .int .u64 (l1 (hi)), .int .u64 (l2 (hi)), .int .u64 (l3 (hi))] 24)) = W0 at *
    have Ox := Qx
    obtain ⟨⟨cx0, cx1, cx2, cx3, cx4, cx5, cx6, cx7⟩, fx, sx⟩ := Ox
    have fx := fun o => fx o
    have sxx : w.heap.size < W0.heap.size + 1 := by omega
    have syx : w.heap.size < W0.heap.size + 1 + 1 := by omega
    have Oy := Qy
    obtain ⟨⟨cy0, cy1, cy2, cy3, cy4, cy5, cy6, cy7⟩, fy, sy⟩ := Oy
    have fy := fun o => fy o
    have sxy : w.heap.size + 1 < W0.heap.size + 1 := by omega
    have syy : w.heap.size + 1 < W0.heap.size + 1 + 1 := by omega
    have Or := Qr
    obtain ⟨⟨cr0, cr1, cr2, cr3, cr4, cr5, cr6, cr7⟩, fr, sr⟩ := Or
    have fr := fun o => fr o
    have sxr : w.heap.size + 1 + 1 < W0.heap.size + 1 := by omega
    have syr : w.heap.size + 1 + 1 < W0.heap.size + 1 + 1 := by omega
    have Ol := Ql
    obtain ⟨⟨cl0, cl1, cl2, cl3⟩, fl, sl⟩ := Ol
    have fl := fun o => fl o
    have sxl : w1.heap.size < W0.heap.size + 1 := by omega
    have syl : w1.heap.size < W0.heap.size + 1 + 1 := by omega
    have Oh := Qh
    obtain ⟨⟨ch0, ch1, ch2, ch3⟩, fh, sh⟩ := Oh
    have fh := fun o => fh o
    have sxh : w2.heap.size < W0.heap.size + 1 := by omega
    have syh : w2.heap.size < W0.heap.size + 1 + 1 := by omega
    go_wp2
    refine bodyPost_ret (v := .agg #[.int .u64 (l0 (hi)), .int .u64 (l1 (hi)), .int .u64 (l2 (hi)), .int .u64 (l3 (hi)), .int .u64 (l0 (lo)), .int .u64 (l1 (lo)), .int .u64 (l2 (lo)), .int .u64 (l3 (lo))]) (by simp [results, Try.results86, go_sem, *]) rfl ?_
    refine ⟨by rw [dw_of80 G2.out F1.out], ?_⟩
    repeat (first | with_reducible exact M | with_reducible exact Mo.refl _ | with_reducible apply Mo.drew | with_reducible apply Mo.drewN | with_reducible apply Mo.alloc | with_reducible refine Mo.setCell ?_ (by simp <;> omega) _)
  · have G2 : Hid _ := g2
    clear g2
    have a : Mo w2 ((w2).alloc (.cells #[.int .u64 (l0 (hi)), .int .u64 (l1 (hi)), .int .u64 (l2 (hi)), .int .u64 (l3 (hi))] 24)) := by repeat (first | with_reducible exact Mo.refl _ | with_reducible apply Mo.alloc)
    have zW0x := sx
    have zW0y := sy
    have zW0r := sr
    have zW0l := sl
    clear cx0 cx1 cx2 cx3 cx4 cx5 cx6 cx7 fx sx sxx syx cy0 cy1 cy2 cy3 cy4 cy5 cy6 cy7 fy sy sxy syy cr0 cr1 cr2 cr3 cr4 cr5 cr6 cr7 fr sr sxr syr cl0 cl1 cl2 cl3 fl sl sxl syl
    have Qx := Qx.mo a
    have Qy := Qy.mo a
    have Qr := Qr.mo a
    have Ql := Ql.mo a
    have M := M.trans a
    have Qh : AtN ((w2).alloc (.cells #[.int .u64 (l0 (hi)), .int .u64 (l1 (hi)), .int .u64 (l2 (hi)), .int .u64 (l3 (hi))] 24)) (w2.heap.size) hi := ⟨by simp [At4, go_sem], fun o => by simp [go_sem], by simp <;> omega⟩
    clear a
    go_upto_region 4 with fail
    generalize ((w2).alloc (.cells #[.int .u64 (l0 (hi)), .int .u64 (l1 (hi)), .int .u64 (l2 (hi)), .int .u64 (l3 (hi))] 24)) = W0 at *
    have Ox := Qx
    obtain ⟨⟨cx0, cx1, cx2, cx3, cx4, cx5, cx6, cx7⟩, fx, sx⟩ := Ox
    have fx := fun o => fx o
    have sxx : w.heap.size < W0.heap.size + 1 := by omega
    have syx : w.heap.size < W0.heap.size + 1 + 1 := by omega
    have Oy := Qy
    obtain ⟨⟨cy0, cy1, cy2, cy3, cy4, cy5, cy6, cy7⟩, fy, sy⟩ := Oy
    have fy := fun o => fy o
    have sxy : w.heap.size + 1 < W0.heap.size + 1 := by omega
    have syy : w.heap.size + 1 < W0.heap.size + 1 + 1 := by omega
    have Or := Qr
    obtain ⟨⟨cr0, cr1, cr2, cr3, cr4, cr5, cr6, cr7⟩, fr, sr⟩ := Or
    have fr := fun o => fr o
    have sxr : w.heap.size + 1 + 1 < W0.heap.size + 1 := by omega
    have syr : w.heap.size + 1 + 1 < W0.heap.size + 1 + 1 := by omega
    have Ol := Ql
    obtain ⟨⟨cl0, cl1, cl2, cl3⟩, fl, sl⟩ := Ol
    have fl := fun o => fl o
    have sxl : w1.heap.size < W0.heap.size + 1 := by omega
    have syl : w1.heap.size < W0.heap.size + 1 + 1 := by omega
    have Oh := Qh
    obtain ⟨⟨ch0, ch1, ch2, ch3⟩, fh, sh⟩ := Oh
    have fh := fun o => fh o
    have sxh : w2.heap.size < W0.heap.size + 1 := by omega
    have syh : w2.heap.size < W0.heap.size + 1 + 1 := by omega
    go_cut [] from 26 to 31 (fun wx => Mo w wx ∧ AtN wx w2.heap.size (hi % MM - 1 % MM) ∧ AtN wx w1.heap.size lo ∧ AtW wx (w.heap.size + 1 + 1) 0)
    case first =>
      go_region_with
        (first | (go_at_call 69; refine (from34_any 1 _ ⟨by decide, by decide⟩).mono ?_; rintro e w5 ⟨rfl, hm5⟩; have m5 : Mo W0 w5 := Mo.trans (by repeat (first | with_reducible exact Mo.refl _ | with_reducible apply Mo.drew | with_reducible apply Mo.alloc)) hm5; obtain ⟨⟨x0, x1, x2, x3⟩, _, xs⟩ := Qh.mo m5) | (go_at_call 66; refine (rsub_m hi 1 _).mono ?_; rintro e w6 ⟨rfl, hm6⟩; have m6 : Mo w5 w6 := Mo.trans (by repeat (first | with_reducible exact Mo.refl _ | with_reducible apply Mo.drew | with_reducible apply Mo.alloc)) hm6; have m7 := m5.trans m6; obtain ⟨⟨z0, z1, z2, z3⟩, zf, zs⟩ := Qh.mo m7; have zf := fun o => zf o))
      all_goals
        go_wp2
        go_meet
        case rel => exact ⟨(M.trans m7).st4 (by omega) _, (Qh.mo m7).same _, (Ql.mo m7).other (by omega) _, ((((Qr.mo m7).set180 (by omega) _ _).set180 (by omega) _ _).set180 (by omega) _ _).set180 (by omega) _ _⟩
    case rest =>
      clear cx0 cx1 cx2 cx3 cx4 cx5 cx6 cx7 fx sx sxx syx cy0 cy1 cy2 cy3 cy4 cy5 cy6 cy7 fy sy sxy syy cr0 cr1 cr2 cr3 cr4 cr5 cr6 cr7 fr sr sxr syr cl0 cl1 cl2 cl3 fl sl sxl syl ch0 ch1 ch2 ch3 fh sh sxh syh Qx Qy Qr Ql Qh M
      obtain ⟨M, Qh, Ql, Qr⟩ := hcut
      obtain ⟨⟨a0, a1, a2, a3⟩, _, sa⟩ := Qh
      obtain ⟨⟨b0, b1, b2, b3⟩, _, sb⟩ := Ql
      obtain ⟨⟨c0, c1, c2, c3, c4, c5, c6, c7⟩, fc, sc⟩ := Qr
      have fc := fun o => fc o
      go_wp2
      refine bodyPost_ret (v := .agg #[.int .u64 (l0 (hi % MM - 1 % MM)), .int .u64 (l1 (hi % MM - 1 % MM)), .int .u64 (l2 (hi % MM - 1 % MM)), .int .u64 (l3 (hi % MM - 1 % MM)), .int .u64 (l0 (lo)), .int .u64 (l1 (lo)), .int .u64 (l2 (lo)), .int .u64 (l3 (lo))]) (by simp [results, Try.results86, go_sem, *]) rfl ?_
      refine ⟨by rw [dw_of80 G2.out F1.out], ?_⟩
      repeat (first | with_reducible exact M | with_reducible exact Mo.refl _ | with_reducible apply Mo.drew | with_reducible apply Mo.drewN | with_reducible apply Mo.alloc | with_reducible refine Mo.setCell ?_ (by simp <;> omega) _)
end Go.Proofs.Ytoiiekmkcpcbgaa
