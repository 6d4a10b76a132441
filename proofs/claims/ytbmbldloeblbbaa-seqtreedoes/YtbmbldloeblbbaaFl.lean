/-
  What each call does, of the tree and of the document's list, in the same words.
-/
import Derived.Test.YtbmbldloeblbbaaCq
namespace Go.Proofs.Ytbmbldloeblbbaa
open Go.RowKit
def insI (L : List Int) (a id : Int) : List Int := if insL L a id = 0 then L.take a.toNat ++ id :: L.drop a.toNat else L
def delI (L : List Int) (id : Int) : List Int := if id ∈ L then L.take (rix L id).toNat ++ L.drop ((rix L id).toNat + 1) else L
def delC (L : List Int) (id : Int) : Int := if id ∈ L then 0 else 4
def movC (L : List Int) (id a : Int) : Int := if id ∈ L then (if a < 0 ∨ (L.length : Int) ≤ a then 1 else 0) else 4
def movP (L : List Int) (id a : Int) : Int := if movC L id a = 0 then rix L id else 0
def movI (L : List Int) (id a : Int) : List Int := if movC L id a = 0 then (delI L id).take a.toNat ++ id :: (delI L id).drop a.toNat else L
def atV (L : List Int) (a : Int) : Int := if 0 ≤ a ∧ a < (L.length : Int) then L[a.toNat]?.getD 0 else 0
def atB (L : List Int) (a : Int) : Bool := decide (0 ≤ a ∧ a < (L.length : Int))
theorem insE_L (tr : T) (a id : Int) : insE tr a id = insL tr.ids a id := by unfold insE insL; rw [T.sz_ids]
theorem cut_mid {A B L : List Int} {i p : Int} (h : L = A ++ i :: B) (hp : (A.length : Int) = p) : L.take p.toNat = A ∧ L.drop (p.toNat + 1) = B := by
  have e : p.toNat = A.length := by omega
  subst h
  rw [e]
  refine ⟨by simp, ?_⟩
  rw [show A ++ i :: B = (A ++ [i]) ++ B by simp, show A.length + 1 = (A ++ [i]).length by simp, List.drop_left]
theorem Del.idI {tr tr' : T} {id p : Int} (h : Del tr id p tr') (hn : tr.ids.Nodup) (hp : 0 ≤ p) (hx : tr.ids[p.toNat]? = some id) : tr'.ids = delI tr.ids id ∧ rix tr.ids id = p := by
  obtain ⟨A, B, h1, h2, h3⟩ := h.ids
  have hr : rix tr.ids id = p := by rw [rix_nd hn hx]; omega
  refine ⟨?_, hr⟩
  unfold delI
  rw [if_pos (List.mem_of_getElem? hx), hr, h3]
  obtain ⟨e1, e2⟩ := cut_mid h1 h2
  rw [e1, e2]
theorem Ins.idI {tr tr' : T} {a id : Int} {kn : Nat} (h : Ins tr a id kn tr') : tr'.ids = tr.ids.take a.toNat ++ id :: tr.ids.drop a.toNat := by
  obtain ⟨A, B, h1, h2, h3⟩ := h.ids
  have e : a.toNat = A.length := by omega
  rw [h3, h1, e]; simp
theorem del_mem {L : List Int} {id : Int} (h : id ∈ L) : ∃ k : Nat, rix L id = k ∧ k < L.length ∧ delI L id = L.take k ++ L.drop (k + 1) := by
  obtain ⟨k, h1, h2⟩ := rix_lt h
  exact ⟨k, h1, (List.getElem?_eq_some_iff.1 h2).1, by unfold delI; rw [if_pos h, h1]; simp⟩
section
variable {n0 : Nat} {ks : List Nat} {w w' : World} {t mb : Nat} {tr : T} {lk : Int}
theorem ht_hi (h : GT n0 ks w t mb tr lk) : tr.ht ≤ 1024 := by have := T.ht_le tr; have := h.le; omega
theorem ins_full {a id : Int} (h : GT n0 ks w t mb tr lk) (hi : I64 id) (hlk : lk ≤ 2900000000000000000) : Calls Try.prog 19 #[pt t 0, .int .i64 a, .int .i64 id] w fun e w' => ∃ tr' lk', e = .returned (.int .i64 (insL tr.ids a id)) ∧ GT n0 ks w' t mb tr' lk' ∧ tr'.ids = insI tr.ids a id ∧ lk' ≤ lk + 30000 ∧ Mk (Wr n0 ks) w w' := by
  have hht := ht_hi h
  rw [← insE_L]
  by_cases c : insE tr a id = 0
  · obtain ⟨c1, c2, c3, c4, c5, c6⟩ := insE_0 c
    refine (insert_g h c1 c2 c3 c4 c5 c6 (by omega)).mono fun e w' hq => ?_
    obtain ⟨he, kn, tr', lk', hI, hG, _, hk1, hk2, hM⟩ := hq
    exact ⟨tr', lk', by rw [c]; exact he, hG, by unfold insI; rw [if_pos (by rw [← insE_L]; exact c)]; exact hI.idI, by omega, hM⟩
  · refine (insert_no h hi c).mono fun e w' hq => ?_
    obtain ⟨h1, h2⟩ := h.eq hq.2
    exact ⟨tr, lk, hq.1, h1, by unfold insI; rw [if_neg (by rw [← insE_L]; exact c)], by omega, h2⟩
theorem del_full {id : Int} (h : GT n0 ks w t mb tr lk) (hi : I64 id) (hlk : lk ≤ 2900000000000000000) : Calls Try.prog 20 #[pt t 0, .int .i64 id] w fun e w' => ∃ tr' lk', e = .returned (.tuple #[.int .i64 (max 0 (rix tr.ids id)), .int .i64 (delC tr.ids id)]) ∧ GT n0 ks w' t mb tr' lk' ∧ tr'.ids = delI tr.ids id ∧ lk' ≤ lk + 30000 ∧ Mk (Wr n0 ks) w w' := by
  have hht := ht_hi h
  have hnd := h.nd
  by_cases c : id ∈ tr.ids
  · refine (delete_g h c hlk).mono fun e w' hq => ?_
    obtain ⟨p, tr', lk', he, hp, hx, hD, hG, hk1, hk2, hM⟩ := hq
    obtain ⟨e1, e2⟩ := hD.idI hnd hp hx
    exact ⟨tr', lk', by rw [e2, Int.max_eq_right hp]; unfold delC; rw [if_pos c]; exact he, hG, e1, by omega, hM⟩
  · refine (delete_no h hi c).mono fun e w' hq => ?_
    obtain ⟨h1, h2⟩ := h.eq hq.2
    exact ⟨tr, lk, by rw [rix_no c]; unfold delC; rw [if_neg c]; exact hq.1, h1, by unfold delI; rw [if_neg c], by omega, h2⟩
theorem mov_full {a id : Int} (h : GT n0 ks w t mb tr lk) (hi : I64 id) (hlk : lk ≤ 2900000000000000000) : Calls Try.prog 21 #[pt t 0, .int .i64 id, .int .i64 a] w fun e w' => ∃ tr' lk', e = .returned (.tuple #[.int .i64 (movP tr.ids id a), .int .i64 (movC tr.ids id a)]) ∧ GT n0 ks w' t mb tr' lk' ∧ tr'.ids = movI tr.ids id a ∧ lk' ≤ lk + 30000 ∧ Mk (Wr n0 ks) w w' := by
  have hht := ht_hi h
  have hnd := h.nd
  have hsz := tr.sz_ids
  by_cases c : id ∈ tr.ids
  · by_cases c2 : a < 0 ∨ tr.sz ≤ a
    · refine (move_at h c c2).mono fun e w' hq => ?_
      obtain ⟨h1, h2⟩ := h.eq hq.2
      have hc : movC tr.ids id a = 1 := by unfold movC; rw [if_pos c, if_pos (by rw [← hsz]; exact c2)]
      exact ⟨tr, lk, by unfold movP; rw [hc, if_neg (by decide)]; exact hq.1, h1, by unfold movI; rw [hc, if_neg (by decide)], by omega, h2⟩
    · refine (move_g h c (by omega) (by omega) hlk).mono fun e w' hq => ?_
      obtain ⟨p, kn, tr1, tr', lk', he, hp, hx, hD, hI, hG, hk1, hk2, hM⟩ := hq
      obtain ⟨e1, e2⟩ := hD.idI hnd hp hx
      have hc : movC tr.ids id a = 0 := by unfold movC; rw [if_pos c, if_neg (by rw [← hsz]; exact c2)]
      have h1 := T.ht_le tr1
      have h2 := R.del_sz hD
      have h3 := h.le
      exact ⟨tr', lk', by unfold movP; rw [hc, if_pos rfl, e2]; exact he, hG, by unfold movI; rw [hc, if_pos rfl, ← e1]; exact hI.idI, by omega, hM⟩
  · refine (move_no h hi c).mono fun e w' hq => ?_
    obtain ⟨h1, h2⟩ := h.eq hq.2
    have hc : movC tr.ids id a = 4 := by unfold movC; rw [if_neg c]
    exact ⟨tr, lk, by unfold movP; rw [hc, if_neg (by decide)]; exact hq.1, h1, by unfold movI; rw [hc, if_neg (by decide)], by omega, h2⟩
theorem at_full {a : Int} (h : GT n0 ks w t mb tr lk) (hlk : lk ≤ 2900000000000000000) : Calls Try.prog 11 #[pt t 0, .int .i64 a] w fun e w' => ∃ lk', e = .returned (.tuple #[.int .i64 (atV tr.ids a), .bool (atB tr.ids a)]) ∧ GT n0 ks w' t mb tr lk' ∧ lk' ≤ lk + 30000 ∧ Mk (Wr n0 ks) w w' := by
  have hht := ht_hi h
  have hsz := tr.sz_ids
  by_cases c : 0 ≤ a ∧ a < tr.sz
  · refine (at_g h c.1 c.2 (by omega)).mono fun e w' hq => ?_
    obtain ⟨i, lk', he, hx, hG, hk1, hk2, hM⟩ := hq
    exact ⟨lk', by unfold atV atB; rw [if_pos (by rw [← hsz]; exact c), decide_eq_true (by rw [← hsz]; exact c), hx]; exact he, hG, by omega, hM⟩
  · refine (at_no h (by omega)).mono fun e w' hq => ?_
    obtain ⟨h1, h2⟩ := h.eq hq.2
    exact ⟨lk, by unfold atV atB; rw [if_neg (by rw [← hsz]; exact c), decide_eq_false (by rw [← hsz]; exact c)]; exact hq.1, h1, by omega, h2⟩
theorem index_full {id : Int} (h : GT n0 ks w t mb tr lk) (hi : I64 id) (hlk : lk ≤ 2900000000000000000) : Calls Try.prog 13 #[pt t 0, .int .i64 id] w fun e w' => ∃ lk', e = .returned (.tuple #[.int .i64 (max 0 (rix tr.ids id)), .bool (decide (0 ≤ rix tr.ids id))]) ∧ GT n0 ks w' t mb tr lk' ∧ lk' ≤ lk + 30000 ∧ Mk (Wr n0 ks) w w' := by
  have hht := ht_hi h
  by_cases c : id ∈ tr.ids
  · refine (index_g h c (by omega)).mono fun e w' hq => ?_
    obtain ⟨p, lk', he, hp, hx, hG, hk1, hk2, hM⟩ := hq
    have e2 : rix tr.ids id = p := by rw [rix_nd h.nd hx]; omega
    exact ⟨lk', by rw [e2, Int.max_eq_right hp, decide_eq_true hp]; exact he, hG, by omega, hM⟩
  · refine (index_no h hi c).mono fun e w' hq => ?_
    obtain ⟨h1, h2⟩ := h.eq hq.2
    exact ⟨lk, by rw [rix_no c]; exact hq.1, h1, by omega, h2⟩
/-- The list's row is as it was, or new. -/
def Nv (v v' : Value) (w : World) : Prop := ∀ g, v'.ownBlock = some g → v.ownBlock = some g ∨ w.heap.size ≤ g
theorem rl_new {n : Nat} {r : Nat} {L : List Int} {v v' : Value} (h : RL n w' r L v') (hn : w.heap.size ≤ n) : Nv v v' w := fun g e => Or.inr (Nat.le_trans hn (h.own.lt g e).1)
theorem rins_full {r : Nat} {L : List Int} {v : Value} (h : RL n0 w r L v) (hn : L.length ≤ 1048576) (h0 : n0 ≤ w.heap.size) (a id : Int) : Calls Try.prog 25 #[pt r 0, .int .i64 a, .int .i64 id] w fun e w' => ∃ v', e = .returned (.int .i64 (insL L a id)) ∧ RL n0 w' r (insI L a id) v' ∧ Nv v v' w ∧ Mk (fun j => j = r) w w' := by
  have same : ∀ c : Int, c ≠ 0 → insL L a id = c → (∀ {X : Ending → World → Prop}, (∀ e w', e = .returned (.int .i64 c) ∧ RL n0 w' r L v ∧ Mk (fun j => j = r) w w' → X e w') → Calls Try.prog 25 #[pt r 0, .int .i64 a, .int .i64 id] w X) → Calls Try.prog 25 #[pt r 0, .int .i64 a, .int .i64 id] w fun e w' => ∃ v', e = .returned (.int .i64 (insL L a id)) ∧ RL n0 w' r (insI L a id) v' ∧ Nv v v' w ∧ Mk (fun j => j = r) w w' := fun c hc e k =>
    k (fun e9 w9 ⟨h1, h2, h3⟩ => ⟨v, by rw [e]; exact h1, by unfold insI; rw [e, if_neg hc]; exact h2, fun g q => Or.inl q, h3⟩)
  by_cases c1 : id < 1
  · exact same 1 (by decide) (by unfold insL; rw [if_pos (Or.inl c1)]) (fun k => (rins_a h a id (decide_eq_true c1)).mono k)
  by_cases c2 : 9007199254740992 < id
  · exact same 1 (by decide) (by unfold insL; rw [if_pos (Or.inr c2)]) (fun k => (rins_b h a id (decide_eq_false c1) (decide_eq_true c2)).mono k)
  by_cases c3 : id ∈ L
  · exact same 5 (by decide) (by unfold insL; rw [if_neg (by omega), if_pos c3]) (fun k => (rins_c h hn a id (decide_eq_false c1) (decide_eq_false c2) (decide_eq_true (rix_pos.2 c3))).mono k)
  have q3 : decide (0 ≤ rix L id) = false := decide_eq_false (fun q => c3 (rix_pos.1 q))
  by_cases c4 : 1024 ≤ (L.length : Int)
  · exact same 6 (by decide) (by unfold insL; rw [if_neg (by omega), if_neg c3, if_pos c4]) (fun k => (rins_d h hn a id (decide_eq_false c1) (decide_eq_false c2) q3 (decide_eq_true c4)).mono k)
  by_cases c5 : a < 0
  · exact same 1 (by decide) (by unfold insL; rw [if_neg (by omega), if_neg c3, if_neg c4, if_pos (Or.inl c5)]) (fun k => (rins_e h hn a id (decide_eq_false c1) (decide_eq_false c2) q3 (decide_eq_false c4) (decide_eq_true c5)).mono k)
  by_cases c6 : (L.length : Int) < a
  · exact same 1 (by decide) (by unfold insL; rw [if_neg (by omega), if_neg c3, if_neg c4, if_pos (Or.inr c6)]) (fun k => (rins_f h hn a id (decide_eq_false c1) (decide_eq_false c2) q3 (decide_eq_false c4) (decide_eq_false c5) (decide_eq_true c6)).mono k)
  have e0 : insL L a id = 0 := by unfold insL; rw [if_neg (by omega), if_neg c3, if_neg c4, if_neg (by omega)]
  obtain ⟨k, rfl⟩ := Int.eq_ofNat_of_zero_le (show 0 ≤ a by omega)
  refine (rins_ok (k := k) h hn (by omega) id (decide_eq_false c1) (decide_eq_false c2) q3 (decide_eq_false c4) (decide_eq_false (by omega)) (decide_eq_false (by omega))).mono fun e w' ⟨h1, v', h2, h3⟩ => ?_
  exact ⟨v', by rw [e0]; exact h1, by unfold insI; rw [if_pos e0]; exact h2.base h0, rl_new h2 (Nat.le_refl _), h3⟩
theorem rdel_full {r : Nat} {L : List Int} {v : Value} (h : RL n0 w r L v) (hn : L.length ≤ 1048576) (h0 : n0 ≤ w.heap.size) (id : Int) : Calls Try.prog 26 #[pt r 0, .int .i64 id] w fun e w' => ∃ v', e = .returned (.tuple #[.int .i64 (max 0 (rix L id)), .int .i64 (delC L id)]) ∧ RL n0 w' r (delI L id) v' ∧ Nv v v' w ∧ Mk (fun j => j = r) w w' := by
  by_cases c : id ∈ L
  · obtain ⟨k, h1, h2, h3⟩ := del_mem c
    refine (rdel_ok h hn id h1 h2).mono fun e w' ⟨q1, v', q2, q3⟩ => ?_
    exact ⟨v', by rw [h1, Int.max_eq_right (by omega)]; unfold delC; rw [if_pos c]; exact q1, by rw [h3]; exact q2.base h0, rl_new q2 (Nat.le_refl _), q3⟩
  · refine (rdel_no h hn id (decide_eq_true (by rw [rix_no c]; decide))).mono fun e w' ⟨q1, q2, q3⟩ => ?_
    exact ⟨v, by rw [rix_no c]; unfold delC; rw [if_neg c]; exact q1, by unfold delI; rw [if_neg c]; exact q2, fun g q => Or.inl q, q3⟩
theorem rmov_full {r : Nat} {L : List Int} {v : Value} (h : RL n0 w r L v) (hn : L.length ≤ 1048576) (h0 : n0 ≤ w.heap.size) (id a : Int) : Calls Try.prog 27 #[pt r 0, .int .i64 id, .int .i64 a] w fun e w' => ∃ v', e = .returned (.tuple #[.int .i64 (movP L id a), .int .i64 (movC L id a)]) ∧ RL n0 w' r (movI L id a) v' ∧ Nv v v' w ∧ Mk (fun j => j = r) w w' := by
  by_cases c : id ∈ L
  · have q1 : decide (rix L id < 0) = false := decide_eq_false (by have := rix_pos.2 c; omega)
    by_cases c2 : a < 0
    · have hc : movC L id a = 1 := by unfold movC; rw [if_pos c, if_pos (Or.inl c2)]
      refine (rmov_a h hn id a q1 (decide_eq_true c2)).mono fun e w' ⟨q1, q2, q3⟩ => ?_
      exact ⟨v, by unfold movP; rw [hc, if_neg (by decide)]; exact q1, by unfold movI; rw [hc, if_neg (by decide)]; exact q2, fun g q => Or.inl q, q3⟩
    by_cases c3 : (L.length : Int) ≤ a
    · have hc : movC L id a = 1 := by unfold movC; rw [if_pos c, if_pos (Or.inr c3)]
      refine (rmov_b h hn id a q1 (decide_eq_false c2) (decide_eq_true c3)).mono fun e w' ⟨q1, q2, q3⟩ => ?_
      exact ⟨v, by unfold movP; rw [hc, if_neg (by decide)]; exact q1, by unfold movI; rw [hc, if_neg (by decide)]; exact q2, fun g q => Or.inl q, q3⟩
    have hc : movC L id a = 0 := by unfold movC; rw [if_pos c, if_neg (by omega)]
    obtain ⟨m, rfl⟩ := Int.eq_ofNat_of_zero_le (show 0 ≤ a by omega)
    obtain ⟨k, h1, h2, h3⟩ := del_mem c
    refine (rmov_ok h hn id h1 h2 (by omega)).mono fun e w' ⟨q1, v', q2, q3⟩ => ?_
    exact ⟨v', by unfold movP; rw [hc, if_pos rfl, h1]; exact q1, by unfold movI; rw [hc, if_pos rfl, h3]; exact q2.base h0, rl_new q2 (Nat.le_refl _), q3⟩
  · have hc : movC L id a = 4 := by unfold movC; rw [if_neg c]
    refine (rmov_no h hn id a (decide_eq_true (by rw [rix_no c]; decide))).mono fun e w' ⟨q1, q2, q3⟩ => ?_
    exact ⟨v, by unfold movP; rw [hc, if_neg (by decide)]; exact q1, by unfold movI; rw [hc, if_neg (by decide)]; exact q2, fun g q => Or.inl q, q3⟩
theorem rat_full {r : Nat} {L : List Int} {v : Value} (h : RL n0 w r L v) (a : Int) : Calls Try.prog 12 #[pt r 0, .int .i64 a] w fun e w' => e = .returned (.tuple #[.int .i64 (atV L a), .bool (atB L a)]) ∧ Mo w w' := by
  obtain ⟨p, cap, rfl, hSI, _, _, _⟩ := h.open
  unfold atV atB
  by_cases c1 : a < 0
  · rw [if_neg (by omega), decide_eq_false (by omega)]; exact rat_a a (decide_eq_true c1)
  by_cases c2 : (L.length : Int) ≤ a
  · rw [if_neg (by omega), decide_eq_false (by omega)]; exact rat_b h.at1 a (decide_eq_false c1) (decide_eq_true c2)
  rw [if_pos (by omega), decide_eq_true (by omega)]
  obtain ⟨k, rfl⟩ := Int.eq_ofNat_of_zero_le (show 0 ≤ a by omega)
  exact rat_c h.at1 hSI (by have hk : k < L.length := by omega
                            simp [hk])
theorem GT.list {r : Nat} {v v' : Value} (h : GT n0 (oks v ++ ks) w t mb tr lk) (hr : r ∈ ks) (m : Mk (fun j => j = r) w w') (hv : Nv v v' w) (hl : ∀ g, v'.ownBlock = some g → g < w'.heap.size) : GT n0 (oks v' ++ ks) w' t mb tr lk := by
  obtain ⟨h1, h2, D, h3, h4⟩ := h
  obtain ⟨R, root, hS, hC, hR, hn⟩ := h3.ts
  have hjl : ∀ j, D j ∨ j = mb → j < w.heap.size := fun j e => by
    rcases e with e | rfl
    · exact hS.lt e
    · exact h3.om.lt
  have hE : ∀ j, D j ∨ j = mb → ¬ j = r := fun j e q => (h4 j e).2 (by rw [q]; exact List.mem_append.2 (Or.inr hr))
  refine ⟨Nat.le_trans h1 m.size, fun j e => ?_, D, ⟨⟨R, root, hS.kept m (fun j e q => hE j (Or.inl e) q), hC, hR, hn⟩, h3.om.mk m (fun q => hE mb (Or.inr rfl) q), h3.ok, h3.nd, h3.rg, h3.le, h3.l0⟩, fun j e => ⟨(h4 j e).1, fun q => ?_⟩⟩
  · rcases List.mem_append.1 e with e | e
    · exact hl j (mem_oks.1 e)
    · exact Nat.lt_of_lt_of_le (h2 j (List.mem_append.2 (Or.inr e))) m.size
  · rcases List.mem_append.1 q with q | q
    · rcases hv j (mem_oks.1 q) with hv | hv
      · exact (h4 j e).2 (List.mem_append.2 (Or.inl (mem_oks.2 hv)))
      · have := hjl j e; omega
    · exact (h4 j e).2 (List.mem_append.2 (Or.inr q))
theorem RL.wr {r : Nat} {L : List Int} {v : Value} (h : RL n0 w r L v) (m : Mk (Wr n0 (oks v ++ ks)) w w') (hr : r ∈ ks) : RL n0 w' r L v :=
  h.kept m (fun e => e.2 (List.mem_append.2 (Or.inr hr))) (fun _ q e => e.2 (List.mem_append.2 (Or.inl (mem_oks.2 q))))
theorem ids_le (h : GT n0 ks w t mb tr lk) : tr.ids.length ≤ 1048576 := by have := h.le; have := tr.sz_ids; omega
theorem FT.kept {D E : Nat → Prop} (h : FT D w t mb tr lk) (m : Mk E w w') (hE : ∀ j, D j ∨ j = mb → ¬ E j) : FT D w' t mb tr lk := by
  obtain ⟨R, root, hS, hC, hR, hn⟩ := h.ts
  exact ⟨⟨R, root, hS.kept m (fun j e => hE j (Or.inl e)), hC, hR, hn⟩, h.om.mk m (hE mb (Or.inr rfl)), h.ok, h.nd, h.rg, h.le, h.l0⟩
theorem GT.pushL {bl : List Nat} (h : GT n0 ks w t mb tr lk) (m : Mo w w') (hb : ∀ j ∈ bl, w.heap.size ≤ j ∧ j < w'.heap.size) : GT n0 (bl ++ ks) w' t mb tr lk := by
  obtain ⟨h1, h2, D, h3, h4⟩ := h
  obtain ⟨R, root, hS, _⟩ := h3.ts
  refine ⟨Nat.le_trans h1 m.size, fun j e => ?_, D, h3.mo m, fun j e => ⟨(h4 j e).1, fun q => ?_⟩⟩
  · rcases List.mem_append.1 e with e | e
    · exact (hb j e).2
    · exact Nat.lt_of_lt_of_le (h2 j e) m.size
  · rcases List.mem_append.1 q with q | q
    · have := (hb j q).1
      rcases e with e | rfl
      · have := hS.lt e; omega
      · have := h3.om.lt; omega
    · exact (h4 j e).2 q
end
end Go.Proofs.Ytbmbldloeblbbaa
