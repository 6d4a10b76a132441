/-
  Trees in a law: what is kept beside them.
-/
import Derived.Test.YtbmbldloeblbbaaShp
import Derived.Test.YtbmbldloeblbbaaNw
namespace Go.Proofs.Ytbmbldloeblbbaa
open Go.RowKit
/-- What may be written: neither what was there at the beginning (below n0) nor what is kept (ks). -/
def Wr (n0 : Nat) (ks : List Nat) (j : Nat) : Prop := n0 ≤ j ∧ j ∉ ks
/-- A tree whose blocks are all new and none of the kept ones. -/
def GT (n0 : Nat) (ks : List Nat) (w : World) (t mb : Nat) (tr : T) (lk : Int) : Prop :=
  n0 ≤ w.heap.size ∧ (∀ k ∈ ks, k < w.heap.size) ∧ ∃ D, FT D w t mb tr lk ∧ ∀ j, D j ∨ j = mb → Wr n0 ks j
section
variable {n0 : Nat} {ks : List Nat} {w w' : World} {t mb : Nat} {tr : T} {lk : Int}
theorem GT.mo (h : GT n0 ks w t mb tr lk) (m : Mo w w') : GT n0 ks w' t mb tr lk := by
  obtain ⟨h1, h2, D, h3, h4⟩ := h
  exact ⟨Nat.le_trans h1 m.size, fun k e => Nat.lt_of_lt_of_le (h2 k e) m.size, D, h3.mo m, h4⟩
theorem GT.push (h : GT n0 ks w t mb tr lk) {k : Nat} (hk : w.heap.size ≤ k) (hk2 : k < w'.heap.size) (m : Mo w w') : GT n0 (k :: ks) w' t mb tr lk := by
  obtain ⟨h1, h2, D, h3, h4⟩ := h
  refine ⟨Nat.le_trans h1 m.size, fun j e => ?_, D, h3.mo m, fun j e => ⟨(h4 j e).1, fun q => ?_⟩⟩
  · rcases List.mem_cons.1 e with rfl | e
    · exact hk2
    · exact Nat.lt_of_lt_of_le (h2 j e) m.size
  · rcases List.mem_cons.1 q with rfl | q
    · rcases e with e | rfl
      · obtain ⟨R, root, hS, _⟩ := h3.ts
        have := hS.lt e; omega
      · have := h3.om.lt; omega
    · exact (h4 j e).2 q
theorem GT.pop (h : GT n0 ks w t mb tr lk) {js : List Nat} (hs : ∀ k ∈ js, k ∈ ks) : GT n0 js w t mb tr lk := by
  obtain ⟨h1, h2, D, h3, h4⟩ := h
  exact ⟨h1, fun k e => h2 k (hs k e), D, h3, fun j e => ⟨(h4 j e).1, fun q => (h4 j e).2 (hs j q)⟩⟩
theorem GT.l0 (h : GT n0 ks w t mb tr lk) : 0 ≤ lk := by obtain ⟨_, _, D, h3, _⟩ := h; exact h3.l0
theorem GT.le (h : GT n0 ks w t mb tr lk) : tr.sz ≤ 1024 := by obtain ⟨_, _, D, h3, _⟩ := h; exact h3.le
theorem GT.nd (h : GT n0 ks w t mb tr lk) : tr.ids.Nodup := by obtain ⟨_, _, D, h3, _⟩ := h; exact h3.nd
theorem GT.rg (h : GT n0 ks w t mb tr lk) : ∀ i ∈ tr.ids, 1 ≤ i ∧ i ≤ 9007199254740992 := by obtain ⟨_, _, D, h3, _⟩ := h; exact h3.rg
theorem GT.new {D : Nat → Prop} (h : FT D w t mb tr lk) (hD : ∀ j, D j → n0 ≤ j) (hm : n0 ≤ mb) (h0 : n0 ≤ w.heap.size) : GT n0 [] w t mb tr lk :=
  ⟨h0, fun _ e => (by cases e), D, h, fun j e => ⟨by rcases e with e | rfl; exact hD j e; exact hm, fun q => by cases q⟩⟩
theorem Wr.mo {a : World} (h : Mk (Wr n0 ks) w w') (m : Mo a w) (hn : a.heap.size ≤ n0) : Mo a w' := h.mo m (fun _ e => Nat.le_trans hn e.1)
theorem Wr.at (h : Mk (Wr n0 ks) w w') {k : Nat} {vs : List Value} (hA : At w k vs) (hk : k ∈ ks) : At w' k vs := h.at hA (fun e => e.2 hk)
theorem Wr.at0 (h : Mk (Wr n0 ks) w w') {k : Nat} {vs : List Value} (hA : At w k vs) (hk : k < n0) : At w' k vs := h.at hA (fun e => by have := e.1; omega)
theorem Mk.sub {D E : Nat → Prop} (h : Mk D w w') (hs : ∀ j, D j → E j) : Mk E w w' := (Mk.refl E w).tr h (fun j _ e => hs j e)
theorem GT.grow {D : Nat → Prop} {tr' : T} {lk' : Int} (h1 : n0 ≤ w.heap.size) (h2 : ∀ k ∈ ks, k < w.heap.size) (h4 : ∀ j, D j ∨ j = mb → Wr n0 ks j) {kn : Nat} (hkn : w.heap.size ≤ kn) (h : FT (fun j => D j ∨ j = kn) w' t mb tr' lk') (m : Mk (fun j => D j ∨ j = mb) w w') : GT n0 ks w' t mb tr' lk' ∧ Mk (Wr n0 ks) w w' := by
  refine ⟨⟨Nat.le_trans h1 m.size, fun k e => Nat.lt_of_lt_of_le (h2 k e) m.size, _, h, fun j e => ?_⟩, m.sub h4⟩
  rcases e with (e | rfl) | e
  · exact h4 j (Or.inl e)
  · exact ⟨by omega, fun q => by have := h2 _ q; omega⟩
  · exact h4 j (Or.inr e)
theorem GT.keep {D : Nat → Prop} {tr' : T} {lk' : Int} (h1 : n0 ≤ w.heap.size) (h2 : ∀ k ∈ ks, k < w.heap.size) (h4 : ∀ j, D j ∨ j = mb → Wr n0 ks j) (h : FT D w' t mb tr' lk') (m : Mk (fun j => D j ∨ j = mb) w w') : GT n0 ks w' t mb tr' lk' ∧ Mk (Wr n0 ks) w w' :=
  ⟨⟨Nat.le_trans h1 m.size, fun k e => Nat.lt_of_lt_of_le (h2 k e) m.size, _, h, h4⟩, m.sub h4⟩
theorem new_g (w : World) (h0 : n0 ≤ w.heap.size) (hk : ∀ k ∈ ks, k < w.heap.size) : Calls Try.prog 8 #[] w fun e w' => ∃ t mb, e = .returned (pt t 0) ∧ GT n0 ks w' t mb .e 0 ∧ Mo w w' := by
  refine (new_n w).mono fun e w' hq => ?_
  obtain ⟨t, mb, D, he, hF, hD, hm, M⟩ := hq
  refine ⟨t, mb, he, ⟨Nat.le_trans h0 M.size, fun k e => Nat.lt_of_lt_of_le (hk k e) M.size, D, hF, fun j e => ?_⟩, M⟩
  have hj : w.heap.size ≤ j := by rcases e with e | rfl; exact hD j e; exact hm
  exact ⟨Nat.le_trans h0 hj, fun q => by have := hk j q; omega⟩
theorem len_g (h : GT n0 ks w t mb tr lk) : Calls Try.prog 15 #[pt t 0] w fun e w' => e = .returned (.int .i64 (tr.kv.length : Int)) ∧ Mo w w' := by
  obtain ⟨_, _, D, h3, _⟩ := h
  obtain ⟨R, root, hS, _⟩ := h3.ts
  exact len_n hS h3.om
theorem looked_g (h : GT n0 ks w t mb tr lk) : Calls Try.prog 18 #[pt t 0] w fun e w' => e = .returned (.int .i64 lk) ∧ Mo w w' := by
  obtain ⟨_, _, D, h3, _⟩ := h
  obtain ⟨R, root, hS, _⟩ := h3.ts
  exact looked_n hS
theorem depth_g (h : GT n0 ks w t mb tr lk) : Calls Try.prog 22 #[pt t 0] w fun e w' => e = .returned (.int .i64 (tr.ht : Int)) ∧ Mo w w' := by
  have h5 := h.le
  have h6 := tr.ht_le
  obtain ⟨_, _, D, h3, _⟩ := h
  exact depth_n h3.ts (by omega)
def I64 (i : Int) : Prop := -9223372036854775808 ≤ i ∧ i ≤ 9223372036854775807
theorem insert_g {at0 id : Int} (h : GT n0 ks w t mb tr lk) (hid : id ∉ tr.ids) (h1 : 1 ≤ id) (h2 : id ≤ 9007199254740992) (h3 : tr.sz < 1024) (h4 : 0 ≤ at0) (h5 : at0 ≤ tr.sz) (hlk : lk ≤ 3000000000000000000) : Calls Try.prog 19 #[pt t 0, .int .i64 at0, .int .i64 id] w fun e w' => e = .returned (.int .i64 0) ∧ ∃ kn tr' lk', Ins tr at0 id kn tr' ∧ GT n0 ks w' t mb tr' lk' ∧ w.heap.size ≤ kn ∧ lk < lk' ∧ lk' ≤ lk + 10 * tr.ht + 1 ∧ Mk (Wr n0 ks) w w' := by
  obtain ⟨g1, g2, D, hF, g4⟩ := h
  have hkl := tr.kv_len
  refine (insert_ok hF ⟨by omega, by omega⟩ (decide_eq_false (by omega)) (decide_eq_false (by omega)) (by cases e : (adr tr.kv id).isSome; rfl; exact absurd (by rw [← T.kv_ids]; exact adr_is.1 e) hid) (decide_eq_false (by omega)) (decide_eq_false (by omega)) (decide_eq_false (by omega)) hlk).mono fun e w' hq => ?_
  obtain ⟨he, kn, tr', lk', hI, hF2, hkn, hk1, hk2, hM⟩ := hq
  obtain ⟨q1, q2⟩ := GT.grow g1 g2 g4 hkn hF2 hM
  exact ⟨he, kn, tr', lk', hI, q1, hkn, hk1, hk2, q2⟩
/-- The error that Insert answers, if it does. -/
def insE (tr : T) (at0 id : Int) : Int := if id < 1 ∨ 9007199254740992 < id then 1 else if id ∈ tr.ids then 5 else if 1024 ≤ tr.sz then 6 else if at0 < 0 ∨ tr.sz < at0 then 1 else 0
theorem insert_no {at0 id : Int} (h : GT n0 ks w t mb tr lk) (hi : I64 id) (he : insE tr at0 id ≠ 0) : Calls Try.prog 19 #[pt t 0, .int .i64 at0, .int .i64 id] w fun e w' => e = .returned (.int .i64 (insE tr at0 id)) ∧ Mo w w' := by
  obtain ⟨g1, g2, D, hF, g4⟩ := h
  have hkl := tr.kv_len
  unfold insE at he ⊢
  by_cases c1 : id < 1
  · rw [if_pos (Or.inl c1)]; exact insert_a hF (decide_eq_true c1)
  by_cases c2 : 9007199254740992 < id
  · rw [if_pos (Or.inr c2)]; exact insert_b hF (decide_eq_false c1) (decide_eq_true c2)
  rw [if_neg (by omega)] at he ⊢
  by_cases c3 : id ∈ tr.ids
  · rw [if_pos c3]; exact insert_c hF hi (decide_eq_false c1) (decide_eq_false c2) (adr_is.2 (by rw [T.kv_ids]; exact c3))
  rw [if_neg c3] at he ⊢
  have c3' : (adr tr.kv id).isSome = false := by cases e : (adr tr.kv id).isSome; rfl; exact absurd (by rw [← T.kv_ids]; exact adr_is.1 e) c3
  by_cases c4 : 1024 ≤ tr.sz
  · rw [if_pos c4]; exact insert_d hF hi (decide_eq_false c1) (decide_eq_false c2) c3' (decide_eq_true (by omega))
  rw [if_neg c4] at he ⊢
  by_cases c5 : at0 < 0
  · rw [if_pos (Or.inl c5)]; exact insert_e hF hi (decide_eq_false c1) (decide_eq_false c2) c3' (decide_eq_false (by omega)) (decide_eq_true c5)
  by_cases c6 : tr.sz < at0
  · rw [if_pos (Or.inr c6)]; exact insert_f hF hi (decide_eq_false c1) (decide_eq_false c2) c3' (decide_eq_false (by omega)) (decide_eq_false c5) (decide_eq_true (by omega))
  rw [if_neg (by omega)] at he
  exact absurd rfl he
theorem insE_0 {at0 id : Int} (h : insE tr at0 id = 0) : id ∉ tr.ids ∧ 1 ≤ id ∧ id ≤ 9007199254740992 ∧ tr.sz < 1024 ∧ 0 ≤ at0 ∧ at0 ≤ tr.sz := by
  unfold insE at h
  by_cases c1 : id < 1 ∨ 9007199254740992 < id
  · rw [if_pos c1] at h; omega
  rw [if_neg c1] at h
  by_cases c3 : id ∈ tr.ids
  · rw [if_pos c3] at h; omega
  rw [if_neg c3] at h
  by_cases c4 : 1024 ≤ tr.sz
  · rw [if_pos c4] at h; omega
  rw [if_neg c4] at h
  by_cases c5 : at0 < 0 ∨ tr.sz < at0
  · rw [if_pos c5] at h; omega
  exact ⟨c3, by omega, by omega, by omega, by omega, by omega⟩
theorem at_g {at0 : Int} (h : GT n0 ks w t mb tr lk) (h4 : 0 ≤ at0) (h5 : at0 < tr.sz) (hlk : lk ≤ 3000000000000000000) : Calls Try.prog 11 #[pt t 0, .int .i64 at0] w fun e w' => ∃ i lk', e = .returned (.tuple #[.int .i64 i, .bool true]) ∧ tr.ids[at0.toNat]? = some i ∧ GT n0 ks w' t mb tr lk' ∧ lk ≤ lk' ∧ lk' ≤ lk + 2 * tr.ht ∧ Mk (Wr n0 ks) w w' := by
  obtain ⟨g1, g2, D, hF, g4⟩ := h
  have hkl := tr.kv_len
  refine (at_ok hF (decide_eq_false (by omega)) (decide_eq_false (by omega)) hlk).mono fun e w' hq => ?_
  obtain ⟨i, lk', he, hi, hF2, hk1, hk2, hM⟩ := hq
  obtain ⟨q1, q2⟩ := GT.keep g1 g2 g4 hF2 (hM.sub (fun _ e => Or.inl e))
  exact ⟨i, lk', he, hi, q1, hk1, hk2, q2⟩
theorem at_no {at0 : Int} (h : GT n0 ks w t mb tr lk) (h4 : at0 < 0 ∨ tr.sz ≤ at0) : Calls Try.prog 11 #[pt t 0, .int .i64 at0] w fun e w' => e = .returned (.tuple #[.int .i64 0, .bool false]) ∧ Mo w w' := by
  obtain ⟨g1, g2, D, hF, g4⟩ := h
  have hkl := tr.kv_len
  by_cases c : at0 < 0
  · exact at_a hF (decide_eq_true c)
  · exact at_b hF (decide_eq_false c) (decide_eq_true (by omega))
theorem index_g {id : Int} (h : GT n0 ks w t mb tr lk) (hid : id ∈ tr.ids) (hlk : lk ≤ 3000000000000000000) : Calls Try.prog 13 #[pt t 0, .int .i64 id] w fun e w' => ∃ p lk', e = .returned (.tuple #[.int .i64 p, .bool true]) ∧ 0 ≤ p ∧ tr.ids[p.toNat]? = some id ∧ GT n0 ks w' t mb tr lk' ∧ lk ≤ lk' ∧ lk' ≤ lk + 2 * tr.ht ∧ Mk (Wr n0 ks) w w' := by
  obtain ⟨g1, g2, D, hF, g4⟩ := h
  have hr := hF.rg id hid
  cases e : adr tr.kv id with
  | none => have := adr_is.2 (show id ∈ tr.kv.map (·.1) by rw [T.kv_ids]; exact hid); rw [e] at this; cases this
  | some k =>
    refine (index_ok hF ⟨by omega, by omega⟩ e hlk).mono fun e w' hq => ?_
    obtain ⟨i, lk', he, hi, hp, hF2, hk1, hk2, hM⟩ := hq
    obtain ⟨q1, q2⟩ := GT.keep g1 g2 g4 hF2 (hM.sub (fun _ e => Or.inl e))
    exact ⟨i, lk', he, hi, hp, q1, hk1, hk2, q2⟩
theorem adr_out {id : Int} (h : id ∉ tr.ids) : adr tr.kv id = none := adr_none (by rw [T.kv_ids]; exact h)
theorem adr_in {id : Int} (h : id ∈ tr.ids) : ∃ k, adr tr.kv id = some k := by
  cases e : adr tr.kv id with
  | none => have := adr_is.2 (show id ∈ tr.kv.map (·.1) by rw [T.kv_ids]; exact h); rw [e] at this; cases this
  | some k => exact ⟨k, rfl⟩
theorem index_no {id : Int} (h : GT n0 ks w t mb tr lk) (hi : I64 id) (hid : id ∉ tr.ids) : Calls Try.prog 13 #[pt t 0, .int .i64 id] w fun e w' => e = .returned (.tuple #[.int .i64 0, .bool false]) ∧ Mo w w' := by
  obtain ⟨g1, g2, D, hF, g4⟩ := h
  exact index_a hF hi (adr_out hid)
theorem delete_no {id : Int} (h : GT n0 ks w t mb tr lk) (hi : I64 id) (hid : id ∉ tr.ids) : Calls Try.prog 20 #[pt t 0, .int .i64 id] w fun e w' => e = .returned (.tuple #[.int .i64 0, .int .i64 4]) ∧ Mo w w' := by
  obtain ⟨g1, g2, D, hF, g4⟩ := h
  exact delete_a hF hi (adr_out hid)
theorem delete_g {id : Int} (h : GT n0 ks w t mb tr lk) (hid : id ∈ tr.ids) (hlk : lk ≤ 2900000000000000000) : Calls Try.prog 20 #[pt t 0, .int .i64 id] w fun e w' => ∃ p tr' lk', e = .returned (.tuple #[.int .i64 p, .int .i64 0]) ∧ 0 ≤ p ∧ tr.ids[p.toNat]? = some id ∧ Del tr id p tr' ∧ GT n0 ks w' t mb tr' lk' ∧ lk ≤ lk' ∧ lk' ≤ lk + 3 + 11 * tr.ht ∧ Mk (Wr n0 ks) w w' := by
  obtain ⟨g1, g2, D, hF, g4⟩ := h
  have hr := hF.rg id hid
  obtain ⟨k, e⟩ := adr_in hid
  refine (delete_ok hF ⟨by omega, by omega⟩ e hlk).mono fun e w' hq => ?_
  obtain ⟨p, tr', lk', he, hp, hi, hD, hF2, hk1, hk2, hM⟩ := hq
  obtain ⟨q1, q2⟩ := GT.keep g1 g2 g4 hF2 hM
  exact ⟨p, tr', lk', he, hp, hi, hD, q1, hk1, hk2, q2⟩
theorem move_no {id at0 : Int} (h : GT n0 ks w t mb tr lk) (hi : I64 id) (hid : id ∉ tr.ids) : Calls Try.prog 21 #[pt t 0, .int .i64 id, .int .i64 at0] w fun e w' => e = .returned (.tuple #[.int .i64 0, .int .i64 4]) ∧ Mo w w' := by
  obtain ⟨g1, g2, D, hF, g4⟩ := h
  exact move_a hF hi (adr_out hid)
theorem move_at {id at0 : Int} (h : GT n0 ks w t mb tr lk) (hid : id ∈ tr.ids) (h4 : at0 < 0 ∨ tr.sz ≤ at0) : Calls Try.prog 21 #[pt t 0, .int .i64 id, .int .i64 at0] w fun e w' => e = .returned (.tuple #[.int .i64 0, .int .i64 1]) ∧ Mo w w' := by
  obtain ⟨g1, g2, D, hF, g4⟩ := h
  have hr := hF.rg id hid
  have hkl := tr.kv_len
  obtain ⟨k, e⟩ := adr_in hid
  by_cases c : at0 < 0
  · exact move_b hF ⟨by omega, by omega⟩ e (decide_eq_true c)
  · exact move_c hF ⟨by omega, by omega⟩ e (decide_eq_false c) (decide_eq_true (by omega))
theorem move_g {id at0 : Int} (h : GT n0 ks w t mb tr lk) (hid : id ∈ tr.ids) (h4 : 0 ≤ at0) (h5 : at0 < tr.sz) (hlk : lk ≤ 2900000000000000000) : Calls Try.prog 21 #[pt t 0, .int .i64 id, .int .i64 at0] w fun e w' => ∃ p kn tr1 tr' lk', e = .returned (.tuple #[.int .i64 p, .int .i64 0]) ∧ 0 ≤ p ∧ tr.ids[p.toNat]? = some id ∧ Del tr id p tr1 ∧ Ins tr1 at0 id kn tr' ∧ GT n0 ks w' t mb tr' lk' ∧ lk ≤ lk' ∧ lk' ≤ lk + 4 + 11 * tr.ht + 10 * tr1.ht ∧ Mk (Wr n0 ks) w w' := by
  obtain ⟨g1, g2, D, hF, g4⟩ := h
  have hr := hF.rg id hid
  have hkl := tr.kv_len
  obtain ⟨k, e⟩ := adr_in hid
  refine (move_ok hF ⟨by omega, by omega⟩ e (decide_eq_false (by omega)) (decide_eq_false (by omega)) hlk).mono fun e w' hq => ?_
  obtain ⟨p, kn, tr1, tr', lk', he, hp, hi, hD, hI, hF2, hkn, hk1, hk2, hM⟩ := hq
  obtain ⟨q1, q2⟩ := GT.grow g1 g2 g4 hkn hF2 hM
  exact ⟨p, kn, tr1, tr', lk', he, hp, hi, hD, hI, q1, hk1, hk2, q2⟩
end
end Go.Proofs.Ytbmbldloeblbbaa
