/-
  A part of the proof.
-/
import Derived.Test.YthfemlhmnjfjiaaC10
import Derived.Test.YthfemlhmnjfjiaaC5
import Derived.Test.YthfemlhmnjfjiaaRows
import Derived.ProofKit
import Derived.OpenShut
import Derived.Carry
import Derived.ChangeMaps5
import Derived.ReadAgain
import Derived.WideKeyArgs
import Derived.SizedLaws
import Derived.Deep.Slices
import Derived.Deep.Strs
/-
  A tree in a law: its blocks are new, and none of the law's own.
-/
namespace Go.Proofs.Ythfemlhmnjfjiaa
open Go.RowKit
namespace G
/-- What may be written: neither what was there at the beginning (below n0) nor what is kept (ks). -/
def Wr (n0 : Nat) (ks : List Nat) (j : Nat) : Prop := n0 ≤ j ∧ j ∉ ks
/-- A tree whose blocks are all new and none of the kept ones. -/
def GT (n0 : Nat) (ks : List Nat) (w : World) (t : Nat) (mb : Hd) (tr : T) (lk : Int) : Prop :=
  n0 ≤ w.heap.size ∧ (∀ k ∈ ks, k < w.heap.size) ∧ (∀ b, ob mb.h = some b → Wr n0 ks b) ∧ ∃ D, FT D w t mb tr lk ∧ ∀ j, D j ∨ j = mb.m → Wr n0 ks j
def I64 (i : Int) : Prop := -9223372036854775808 ≤ i ∧ i ≤ 9223372036854775807
/-- The rows' ids. -/
def T.is (tr : T) : List Int := tr.ids.map (·.i)
section
variable {n0 : Nat} {ks : List Nat} {w w' : World} {t : Nat} {mb : Hd} {tr : T} {lk : Int}
theorem GT.mo (h : GT n0 ks w t mb tr lk) (m : Mo w w') : GT n0 ks w' t mb tr lk := by
  obtain ⟨h1, h2, h5, D, h3, h4⟩ := h
  exact ⟨Nat.le_trans h1 m.size, fun k e => Nat.lt_of_lt_of_le (h2 k e) m.size, h5, D, h3.mo m, h4⟩
theorem FT.sclt {D : Nat → Prop} (h : FT D w t mb tr lk) {b : Nat} (e : ob mb.h = some b) : b < w.heap.size := by
  obtain ⟨R, root, hS, _⟩ := h.ts
  exact hS.sc.lt e
theorem GT.push (h : GT n0 ks w t mb tr lk) {k : Nat} (hk : w.heap.size ≤ k) (hk2 : k < w'.heap.size) (m : Mo w w') : GT n0 (k :: ks) w' t mb tr lk := by
  obtain ⟨h1, h2, h5, D, h3, h4⟩ := h
  refine ⟨Nat.le_trans h1 m.size, fun j e => ?_, fun b e => ⟨(h5 b e).1, fun q => ?_⟩, D, h3.mo m, fun j e => ⟨(h4 j e).1, fun q => ?_⟩⟩
  · rcases List.mem_cons.1 e with rfl | e
    · exact hk2
    · exact Nat.lt_of_lt_of_le (h2 j e) m.size
  · rcases List.mem_cons.1 q with rfl | q
    · have := h3.sclt e; omega
    · exact (h5 b e).2 q
  · rcases List.mem_cons.1 q with rfl | q
    · rcases e with e | rfl
      · obtain ⟨R, root, hS, _⟩ := h3.ts
        have := hS.lt e; omega
      · have := h3.om.lt; omega
    · exact (h4 j e).2 q
theorem GT.pop (h : GT n0 ks w t mb tr lk) {js : List Nat} (hs : ∀ k ∈ js, k ∈ ks) : GT n0 js w t mb tr lk := by
  obtain ⟨h1, h2, h5, D, h3, h4⟩ := h
  exact ⟨h1, fun k e => h2 k (hs k e), fun b e => ⟨(h5 b e).1, fun q => (h5 b e).2 (hs b q)⟩, D, h3, fun j e => ⟨(h4 j e).1, fun q => (h4 j e).2 (hs j q)⟩⟩
theorem GT.l0 (h : GT n0 ks w t mb tr lk) : 0 ≤ lk := by obtain ⟨_, _, _, D, h3, _⟩ := h; exact h3.l0
theorem GT.le (h : GT n0 ks w t mb tr lk) : tr.sz ≤ 1024 := by obtain ⟨_, _, _, D, h3, _⟩ := h; exact h3.le
theorem GT.nd (h : GT n0 ks w t mb tr lk) : tr.is.Nodup := by obtain ⟨_, _, _, D, h3, _⟩ := h; exact h3.nd
theorem GT.rg (h : GT n0 ks w t mb tr lk) : ∀ i ∈ tr.is, 1 ≤ i ∧ i ≤ 9007199254740992 := by obtain ⟨_, _, _, D, h3, _⟩ := h; exact h3.rg
theorem GT.oks (h : GT n0 ks w t mb tr lk) : ∀ y ∈ tr.ids, y.ok ∧ y.vs.length = mb.sc.length := by
  obtain ⟨_, _, _, D, h3, _⟩ := h
  obtain ⟨R, root, hS, _, _, hR, _⟩ := h3.ts
  have : ∀ (tr : T) {u : Option Nat}, Rep mb.sc R u tr → ∀ y ∈ tr.ids, y.ok ∧ y.vs.length = mb.sc.length := by
    intro tr
    induction tr with
    | e => intro u _ y hy; cases hy
    | n k i s l r il ir =>
      intro u h y hy
      obtain ⟨h9, e9⟩ := h.1
      unfold T.ids at hy
      rcases List.mem_append.1 hy with hy | hy
      · exact il h.2.1 y hy
      · rcases List.mem_cons.1 hy with rfl | hy
        · exact ⟨(hS.sv k _ e9).2.2, (hS.sv k _ e9).2.1⟩
        · exact ir h.2.2 y hy
  exact this tr hR
theorem Wr.mo {a : World} (h : Mk (Wr n0 ks) w w') (m : Mo a w) (hn : a.heap.size ≤ n0) : Mo a w' := h.mo m (fun _ e => Nat.le_trans hn e.1)
theorem Wr.at (h : Mk (Wr n0 ks) w w') {k : Nat} {vs : List Value} (hA : At w k vs) (hk : k ∈ ks) : At w' k vs := h.at hA (fun e => e.2 hk)
theorem Mk.sub {D E : Nat → Prop} (h : Mk D w w') (hs : ∀ j, D j → E j) : Mk E w w' := (Mk.refl E w).tr h (fun j _ e => hs j e)
theorem GT.grow {D D' : Nat → Prop} {tr' : T} {lk' : Int} (h1 : n0 ≤ w.heap.size) (h2 : ∀ k ∈ ks, k < w.heap.size) (h5 : ∀ b, ob mb.h = some b → Wr n0 ks b) (h4 : ∀ j, D j ∨ j = mb.m → Wr n0 ks j) (h : FT D' w' t mb tr' lk') (hD : ∀ j, D' j → D j ∨ w.heap.size ≤ j) (m : Mk (fun j => D j ∨ j = mb.m) w w') : GT n0 ks w' t mb tr' lk' ∧ Mk (Wr n0 ks) w w' := by
  refine ⟨⟨Nat.le_trans h1 m.size, fun k e => Nat.lt_of_lt_of_le (h2 k e) m.size, h5, _, h, fun j e => ?_⟩, m.sub h4⟩
  rcases e with e | e
  · rcases hD j e with e | e
    · exact h4 j (Or.inl e)
    · exact ⟨by omega, fun q => by have := h2 _ q; omega⟩
  · exact h4 j (Or.inr e)
theorem GT.eq (h : GT n0 ks w t mb tr lk) (m : Mo w w') : GT n0 ks w' t mb tr lk ∧ Mk (Wr n0 ks) w w' := ⟨h.mo m, Mk.of _ m⟩
theorem new_x {p : Option Addr} {c : Nat} {sc : List Int} (hgt : 64 < sc.length) : Calls Try.prog 7 #[.slice p sc.length c] w fun e w' => e = .returned (.tuple #[pp none, .int .i64 3]) ∧ Mo w w' := new_no (decide_eq_true (by omega))
theorem new_g {p : Option Addr} {c : Nat} {sc : List Int} (hr : SN w p sc) (hle : sc.length ≤ 64) (h0 : n0 ≤ w.heap.size) (hk : ∀ k ∈ ks, k < w.heap.size) : Calls Try.prog 7 #[.slice p sc.length c] w fun e w' => ∃ (t : Nat) (mb : Hd), e = .returned (.tuple #[pt t 0, .int .i64 0]) ∧ GT n0 ks w' t mb .e 0 ∧ mb.sc = sc ∧ w.heap.size ≤ t ∧ Mo w w' := by
  refine (new_ok hr (decide_eq_false (by omega))).mono fun e w' hq => ?_
  obtain ⟨t, mb, D, he, hF, hs, hD, hm, hb, M⟩ := hq
  have key : ∀ j, w.heap.size ≤ j → Wr n0 ks j := fun j hj => ⟨Nat.le_trans h0 hj, fun q => by have := hk j q; omega⟩
  refine ⟨t, mb, he, ⟨Nat.le_trans h0 M.size, fun k e => Nat.lt_of_lt_of_le (hk k e) M.size, fun b e => key b (hb b e), D, hF, fun j e => key j ?_⟩, hs, ?_, M⟩
  · rcases e with e | rfl
    · exact hD j e
    · exact hm
  · obtain ⟨R, root, hS, _⟩ := hF.ts
    exact hD t hS.dt
theorem len_g (h : GT n0 ks w t mb tr lk) : Calls Try.prog 10 #[pt t 0] w fun e w' => e = .returned (.int .i64 (tr.kv.length : Int)) ∧ Mo w w' := by
  obtain ⟨_, _, _, D, h3, _⟩ := h
  obtain ⟨R, root, hS, _⟩ := h3.ts
  exact len_n hS h3.om
theorem looked_g (h : GT n0 ks w t mb tr lk) : Calls Try.prog 14 #[pt t 0] w fun e w' => e = .returned (.int .i64 lk) ∧ Mo w w' := by
  obtain ⟨_, _, _, D, h3, _⟩ := h
  obtain ⟨R, root, hS, _⟩ := h3.ts
  exact looked_n hS
theorem depth_g (h : GT n0 ks w t mb tr lk) : Calls Try.prog 19 #[pt t 0] w fun e w' => e = .returned (.int .i64 (tr.ht : Int)) ∧ Mo w w' := by
  have h5 := h.le
  have h6 := tr.ht_le
  obtain ⟨_, _, _, D, h3, _⟩ := h
  exact depth_n h3.ts (by omega)
theorem adr_out {id : Int} (h : id ∉ tr.is) : adr tr.kv id = none := adr_none (by rw [T.kv_ids]; exact h)
theorem adr_in {id : Int} (h : id ∈ tr.is) : ∃ k, adr tr.kv id = some k := by
  cases e : adr tr.kv id with
  | none => have := adr_is.2 (show id ∈ tr.kv.map (·.1) by rw [T.kv_ids]; exact h); rw [e] at this; cases this
  | some k => exact ⟨k, rfl⟩
/-- The error that Insert answers, or 0. -/
def insE (nc : Nat) (tr : T) (at0 id : Int) (nv : Nat) : Int := if nv ≠ nc then 1 else if id < 1 ∨ 9007199254740992 < id then 1 else if id ∈ tr.is then 5 else if 1024 ≤ tr.sz then 6 else if at0 < 0 ∨ tr.sz < at0 then 1 else 0
theorem insert_no {at0 id : Int} {p : Option Addr} {cap : Nat} {vs : List V10} (h : GT n0 ks w t mb tr lk) (hi : I64 id) (he : insE mb.sc.length tr at0 id vs.length ≠ 0) : Calls Try.prog 9 #[pt t 0, .int .i64 at0, .int .i64 id, .slice p vs.length cap] w fun e w' => e = .returned (.int .i64 (insE mb.sc.length tr at0 id vs.length)) ∧ Mo w w' := by
  obtain ⟨g1, g2, g5, D, hF, g4⟩ := h
  have hkl := tr.kv_len
  unfold insE at he ⊢
  by_cases c0 : vs.length ≠ mb.sc.length
  · rw [if_pos c0]; exact insert_v hF (decide_eq_false c0)
  rw [if_neg c0] at he ⊢
  have c0' : decide (vs.length = mb.sc.length) = true := decide_eq_true (Classical.not_not.1 c0)
  by_cases c1 : id < 1
  · rw [if_pos (Or.inl c1)]; exact insert_a hF c0' (decide_eq_true c1)
  by_cases c2 : 9007199254740992 < id
  · rw [if_pos (Or.inr c2)]; exact insert_b hF c0' (decide_eq_false c1) (decide_eq_true c2)
  rw [if_neg (by omega)] at he ⊢
  by_cases c3 : id ∈ tr.is
  · rw [if_pos c3]; exact insert_c hF hi c0' (decide_eq_false c1) (decide_eq_false c2) (adr_is.2 (by rw [T.kv_ids]; exact c3))
  rw [if_neg c3] at he ⊢
  have c3' : (adr tr.kv id).isSome = false := by rw [adr_out c3]; rfl
  by_cases c4 : 1024 ≤ tr.sz
  · rw [if_pos c4]; exact insert_d hF hi c0' (decide_eq_false c1) (decide_eq_false c2) c3' (decide_eq_true (by omega))
  rw [if_neg c4] at he ⊢
  by_cases c5 : at0 < 0
  · rw [if_pos (Or.inl c5)]; exact insert_e hF hi c0' (decide_eq_false c1) (decide_eq_false c2) c3' (decide_eq_false (by omega)) (decide_eq_true c5)
  by_cases c6 : tr.sz < at0
  · rw [if_pos (Or.inr c6)]; exact insert_f hF hi c0' (decide_eq_false c1) (decide_eq_false c2) c3' (decide_eq_false (by omega)) (decide_eq_false c5) (decide_eq_true (by omega))
  rw [if_neg (by omega)] at he
  exact absurd rfl he
theorem insE_0 {nc nv : Nat} {at0 id : Int} (h : insE nc tr at0 id nv = 0) : nv = nc ∧ id ∉ tr.is ∧ 1 ≤ id ∧ id ≤ 9007199254740992 ∧ tr.sz < 1024 ∧ 0 ≤ at0 ∧ at0 ≤ tr.sz := by
  unfold insE at h
  by_cases c0 : nv ≠ nc
  · rw [if_pos c0] at h; omega
  rw [if_neg c0] at h
  by_cases c1 : id < 1 ∨ 9007199254740992 < id
  · rw [if_pos c1] at h; omega
  rw [if_neg c1] at h
  by_cases c3 : id ∈ tr.is
  · rw [if_pos c3] at h; omega
  rw [if_neg c3] at h
  by_cases c4 : 1024 ≤ tr.sz
  · rw [if_pos c4] at h; omega
  rw [if_neg c4] at h
  by_cases c5 : at0 < 0 ∨ tr.sz < at0
  · rw [if_pos c5] at h; omega
  exact ⟨Classical.not_not.1 c0, c3, by omega, by omega, by omega, by omega, by omega⟩
theorem insert_g {at0 id : Int} {p : Option Addr} {cap : Nat} {vs : List V10} (h : GT n0 ks w t mb tr lk) (he : insE mb.sc.length tr at0 id vs.length = 0) (hlk : lk ≤ 3000000000000000000) (hSV : ∀ w', Mk (Wr n0 ks) w w' → SVv w' p vs) (hvo : ∀ x ∈ vs, x.n.ok) : Calls Try.prog 9 #[pt t 0, .int .i64 at0, .int .i64 id, .slice p vs.length cap] w fun e w' => ∃ y kn tr' lk', e = .returned (.int .i64 0) ∧ Ins tr at0 ⟨id, y, vs⟩ kn tr' ∧ GT n0 ks w' t mb tr' lk' ∧ lk < lk' ∧ lk' ≤ lk + 10 * tr.ht + 8 ∧ Mk (Wr n0 ks) w w' := by
  obtain ⟨c0, c1, c2, c3, c4, c5, c6⟩ := insE_0 he
  obtain ⟨g1, g2, g5, D, hF, g4⟩ := h
  have hkl := tr.kv_len
  refine (insert_ok hF ⟨by omega, by omega⟩ (decide_eq_true c0) (decide_eq_false (by omega)) (decide_eq_false (by omega)) (by rw [adr_out c1]; rfl) (decide_eq_false (by omega)) (decide_eq_false (by omega)) (decide_eq_false (by omega)) hlk (fun w' m => hSV w' (m.sub g4)) hvo).mono fun e w' hq => ?_
  obtain ⟨y, kn, tr', lk', D', he, hI, hF2, hkn, hk1, hk2, hM, hD⟩ := hq
  obtain ⟨q1, q2⟩ := GT.grow g1 g2 g5 g4 hF2 hD hM
  exact ⟨y, kn, tr', lk', he, hI, q1, hk1, hk2, q2⟩
/-- Insert, whatever is handed in. -/
theorem ins_any {at0 id : Int} {p : Option Addr} {cap : Nat} {vs : List V10} (h : GT n0 ks w t mb tr lk) (hi : I64 id) (hlk : lk ≤ 3000000000000000000) (hSV : ∀ w', Mk (Wr n0 ks) w w' → SVv w' p vs) (hvo : ∀ x ∈ vs, x.n.ok) : Calls Try.prog 9 #[pt t 0, .int .i64 at0, .int .i64 id, .slice p vs.length cap] w fun e w' => ∃ tr' lk', e = .returned (.int .i64 (insE mb.sc.length tr at0 id vs.length)) ∧ GT n0 ks w' t mb tr' lk' ∧ (insE mb.sc.length tr at0 id vs.length = 0 ∧ (∃ y kn, Ins tr at0 ⟨id, y, vs⟩ kn tr') ∧ lk < lk' ∨ insE mb.sc.length tr at0 id vs.length ≠ 0 ∧ tr' = tr ∧ lk' = lk) ∧ lk ≤ lk' ∧ lk' ≤ lk + 10 * tr.ht + 8 ∧ Mk (Wr n0 ks) w w' := by
  by_cases c : insE mb.sc.length tr at0 id vs.length = 0
  · refine (insert_g h c hlk hSV hvo).mono fun e w' hq => ?_
    obtain ⟨y, kn, tr', lk', he, hI, hG, hk1, hk2, hM⟩ := hq
    exact ⟨tr', lk', by rw [c]; exact he, hG, Or.inl ⟨c, ⟨y, kn, hI⟩, hk1⟩, by omega, hk2, hM⟩
  · refine (insert_no h hi c).mono fun e w' hq => ?_
    obtain ⟨h1, h2⟩ := h.eq hq.2
    exact ⟨tr, lk, hq.1, h1, Or.inr ⟨c, rfl, rfl⟩, by omega, by omega, h2⟩
theorem del_any {id : Int} (h : GT n0 ks w t mb tr lk) (hi : I64 id) (hlk : lk ≤ 2900000000000000000) : Calls Try.prog 15 #[pt t 0, .int .i64 id] w fun e w' => ∃ p c tr' lk', e = .returned (.tuple #[.int .i64 p, .int .i64 c]) ∧ GT n0 ks w' t mb tr' lk' ∧ (c = 0 ∧ 0 ≤ p ∧ (∃ y, tr.ids[p.toNat]? = some y ∧ y.i = id ∧ Del tr y p tr') ∨ c = 4 ∧ p = 0 ∧ id ∉ tr.is ∧ tr' = tr ∧ lk' = lk) ∧ lk ≤ lk' ∧ lk' ≤ lk + 3 + 11 * tr.ht ∧ Mk (Wr n0 ks) w w' := by
  by_cases c : id ∈ tr.is
  · obtain ⟨g1, g2, g5, D, hF, g4⟩ := h
    obtain ⟨k, e⟩ := adr_in c
    refine (delete_ok hF hi e hlk).mono fun e w' hq => ?_
    obtain ⟨p, y, tr', lk', D', he, hp, hi, hy, hD, hF2, hk1, hk2, hM, hDD⟩ := hq
    obtain ⟨q1, q2⟩ := GT.grow g1 g2 g5 g4 hF2 (fun j e => Or.inl (hDD j e)) hM
    exact ⟨p, 0, tr', lk', he, q1, Or.inl ⟨rfl, hp, y, hi, hy, hD⟩, hk1, hk2, q2⟩
  · have h' := h
    obtain ⟨g1, g2, g5, D, hF, g4⟩ := h
    refine (delete_a hF hi (adr_out c)).mono fun e w' hq => ?_
    obtain ⟨h1, h2⟩ := h'.eq hq.2
    exact ⟨_, _, tr, lk, hq.1, h1, Or.inr ⟨rfl, rfl, c, rfl, rfl⟩, by omega, by omega, h2⟩
theorem mov_any {id at0 : Int} (h : GT n0 ks w t mb tr lk) (hi : I64 id) (hlk : lk ≤ 2900000000000000000) : Calls Try.prog 16 #[pt t 0, .int .i64 id, .int .i64 at0] w fun e w' => ∃ p c tr' lk', e = .returned (.tuple #[.int .i64 p, .int .i64 c]) ∧ GT n0 ks w' t mb tr' lk' ∧ (c = 0 ∧ 0 ≤ p ∧ 0 ≤ at0 ∧ at0 < tr.sz ∧ (∃ y kn tr1, tr.ids[p.toNat]? = some y ∧ y.i = id ∧ Del tr y p tr1 ∧ Ins tr1 at0 y kn tr' ∧ lk' ≤ lk + 11 + 11 * tr.ht + 10 * tr1.ht) ∨ (c = 4 ∧ id ∉ tr.is ∨ c = 1 ∧ id ∈ tr.is ∧ (at0 < 0 ∨ tr.sz ≤ at0)) ∧ p = 0 ∧ tr' = tr ∧ lk' = lk) ∧ lk ≤ lk' ∧ Mk (Wr n0 ks) w w' := by
  have h' := h
  have hkl := tr.kv_len
  obtain ⟨g1, g2, g5, D, hF, g4⟩ := h
  by_cases c : id ∈ tr.is
  · obtain ⟨k, e⟩ := adr_in c
    by_cases c1 : at0 < 0 ∨ tr.sz ≤ at0
    · have hc : Calls Try.prog 16 #[pt t 0, .int .i64 id, .int .i64 at0] w fun e w' => e = .returned (.tuple #[.int .i64 0, .int .i64 1]) ∧ Mo w w' := by
        by_cases c2 : at0 < 0
        · exact move_b hF hi e (decide_eq_true c2)
        · exact move_c hF hi e (decide_eq_false c2) (decide_eq_true (by omega))
      refine hc.mono fun e w' hq => ?_
      obtain ⟨h1, h2⟩ := h'.eq hq.2
      exact ⟨_, _, tr, lk, hq.1, h1, Or.inr ⟨Or.inr ⟨rfl, c, c1⟩, rfl, rfl, rfl⟩, by omega, h2⟩
    · refine (move_ok hF hi e (decide_eq_false (by omega)) (decide_eq_false (by omega)) hlk).mono fun e w' hq => ?_
      obtain ⟨p, y, kn, tr1, tr', lk', D', he, hp, hy, hyi, hD, hI, hF2, hkn, hk1, hk2, hM, hDD⟩ := hq
      obtain ⟨q1, q2⟩ := GT.grow g1 g2 g5 g4 hF2 hDD hM
      exact ⟨p, 0, tr', lk', he, q1, Or.inl ⟨rfl, hp, by omega, by omega, y, kn, tr1, hy, hyi, hD, hI, hk2⟩, hk1, q2⟩
  · refine (move_a hF hi (adr_out c)).mono fun e w' hq => ?_
    obtain ⟨h1, h2⟩ := h'.eq hq.2
    exact ⟨_, _, tr, lk, hq.1, h1, Or.inr ⟨Or.inl ⟨rfl, c⟩, rfl, rfl, rfl⟩, by omega, h2⟩
theorem hasF {cn : Int} (h : cn < 0 ∨ (mb.sc.length : Int) ≤ cn) : (decide (0 ≤ cn) && decide (cn < (mb.sc.length : Int))) = false := by
  rcases h with h | h
  · rw [decide_eq_false (by omega)]; rfl
  · rw [decide_eq_false (p := cn < (mb.sc.length : Int)) (by omega), Bool.and_false]
theorem set_any {id cn : Int} {x : V10} (h : GT n0 ks w t mb tr lk) (hi : I64 id) (hx : x.n.ok) (hlk : lk ≤ 3000000000000000000) : Calls Try.prog 17 #[pt t 0, .int .i64 id, .int .i64 cn, V10.v x] w fun e w' => ∃ c tr' lk', e = .returned (.int .i64 c) ∧ GT n0 ks w' t mb tr' lk' ∧ (c = 0 ∧ 0 ≤ cn ∧ cn < mb.sc.length ∧ (∃ A B y, tr.ids = A ++ y :: B ∧ y.i = id ∧ tr'.ids = A ++ ⟨y.i, y.v, y.vs.set cn.toNat x⟩ :: B ∧ Sim tr tr') ∧ lk < lk' ∨ (c = 1 ∧ (cn < 0 ∨ (mb.sc.length : Int) ≤ cn) ∨ c = 4 ∧ 0 ≤ cn ∧ cn < mb.sc.length ∧ id ∉ tr.is) ∧ tr' = tr ∧ lk' = lk) ∧ lk ≤ lk' ∧ lk' ≤ lk + 3 * tr.ht ∧ Mk (Wr n0 ks) w w' := by
  have h' := h
  obtain ⟨g1, g2, g5, D, hF, g4⟩ := h
  by_cases c0 : cn < 0 ∨ (mb.sc.length : Int) ≤ cn
  · refine (set_x hF (hasF c0)).mono fun e w' hq => ?_
    obtain ⟨h1, h2⟩ := h'.eq hq.2
    exact ⟨_, tr, lk, hq.1, h1, Or.inr ⟨Or.inl ⟨rfl, c0⟩, rfl, rfl⟩, by omega, by omega, h2⟩
  obtain ⟨n, rfl⟩ := Int.eq_ofNat_of_zero_le (show 0 ≤ cn by omega)
  have hn : n < mb.sc.length := by omega
  by_cases c : id ∈ tr.is
  · obtain ⟨k, e⟩ := adr_in c
    refine (set_ok hF hi hn hx e hlk).mono fun e w' hq => ?_
    obtain ⟨A, B, y, tr', lk', he, h1, h2, h3, h4, hF2, hk1, hk2, hM⟩ := hq
    obtain ⟨q1, q2⟩ := GT.grow g1 g2 g5 g4 hF2 (fun j e => Or.inl e) (hM.sub (fun _ e => Or.inl e))
    exact ⟨0, tr', lk', he, q1, Or.inl ⟨rfl, by omega, by omega, ⟨A, B, y, h1, h2, h3, h4⟩, hk1⟩, by omega, hk2, q2⟩
  · refine (set_n hF hi hn (adr_out c)).mono fun e w' hq => ?_
    obtain ⟨h1, h2⟩ := h'.eq hq.2
    exact ⟨_, tr, lk, hq.1, h1, Or.inr ⟨Or.inr ⟨rfl, by omega, by omega, c⟩, rfl, rfl⟩, by omega, by omega, h2⟩
theorem GT.keep {D : Nat → Prop} {tr' : T} {lk' : Int} (h1 : n0 ≤ w.heap.size) (h2 : ∀ k ∈ ks, k < w.heap.size) (h5 : ∀ b, ob mb.h = some b → Wr n0 ks b) (h4 : ∀ j, D j ∨ j = mb.m → Wr n0 ks j) (h : FT D w' t mb tr' lk') (m : Mk D w w') : GT n0 ks w' t mb tr' lk' ∧ Mk (Wr n0 ks) w w' :=
  GT.grow h1 h2 h5 h4 h (fun _ e => Or.inl e) (m.sub (fun _ e => Or.inl e))
/-- Query, whatever is asked. -/
theorem qry_any {cn fa ta : Int} (h : GT n0 ks w t mb tr lk) (hlk : lk ≤ 3000000000000000000) : Calls Try.prog 11 #[pt t 0, .int .i64 cn, .int .i64 fa, .int .i64 ta] w fun e w' => ∃ S cd lk', e = .returned (.tuple #[smv S, .int .i64 cd]) ∧ GT n0 ks w' t mb tr lk' ∧ ((0 ≤ cn ∧ cn < mb.sc.length ∧ 0 ≤ fa ∧ fa ≤ ta ∧ ta ≤ tr.sz) ∧ cd = 0 ∧ S = prt cn.toNat (mb.sc.getD cn.toNat 0) fa ta tr.ids ∨ ¬ (0 ≤ cn ∧ cn < mb.sc.length ∧ 0 ≤ fa ∧ fa ≤ ta ∧ ta ≤ tr.sz) ∧ cd = 1 ∧ S = sm0) ∧ lk ≤ lk' ∧ lk' ≤ lk + 1 + 4 * tr.ht ∧ Mk (Wr n0 ks) w w' := by
  have h' := h
  obtain ⟨g1, g2, g5, D, hF, g4⟩ := h
  by_cases c0 : cn < 0 ∨ (mb.sc.length : Int) ≤ cn
  · refine (query_x hF (hasF c0)).mono fun e w' hq => ?_
    obtain ⟨h1, h2⟩ := h'.eq hq.2
    exact ⟨_, _, lk, hq.1, h1, Or.inr ⟨by omega, rfl, rfl⟩, by omega, by omega, h2⟩
  obtain ⟨n, rfl⟩ := Int.eq_ofNat_of_zero_le (show 0 ≤ cn by omega)
  have hn : n < mb.sc.length := by omega
  refine (query_c hF hn hlk).mono fun e w' hq => ?_
  obtain ⟨S, cd, lk', he, hr, hF2, hk1, hk2, hM⟩ := hq
  obtain ⟨q1, q2⟩ := GT.keep g1 g2 g5 g4 hF2 hM
  refine ⟨S, cd, lk', he, q1, ?_, hk1, hk2, q2⟩
  rcases hr with ⟨a, b, c⟩ | ⟨a, b, c⟩
  · exact Or.inl ⟨by omega, b, c⟩
  · exact Or.inr ⟨by omega, b, c⟩
theorem sum_any {cn : Int} (h : GT n0 ks w t mb tr lk) (hlk : lk ≤ 3000000000000000000) : Calls Try.prog 12 #[pt t 0, .int .i64 cn] w fun e w' => ∃ S cd lk', e = .returned (.tuple #[smv S, .int .i64 cd]) ∧ GT n0 ks w' t mb tr lk' ∧ ((0 ≤ cn ∧ cn < mb.sc.length) ∧ cd = 0 ∧ S = col cn.toNat (mb.sc.getD cn.toNat 0) tr.ids ∨ ¬ (0 ≤ cn ∧ cn < mb.sc.length) ∧ cd = 1 ∧ S = sm0) ∧ lk ≤ lk' ∧ lk' ≤ lk + 1 ∧ Mk (Wr n0 ks) w w' := by
  have h' := h
  obtain ⟨g1, g2, g5, D, hF, g4⟩ := h
  by_cases c0 : cn < 0 ∨ (mb.sc.length : Int) ≤ cn
  · refine (sumc_a hF (hasF c0)).mono fun e w' hq => ?_
    obtain ⟨h1, h2⟩ := h'.eq hq.2
    exact ⟨_, _, lk, hq.1, h1, Or.inr ⟨by omega, rfl, rfl⟩, by omega, by omega, h2⟩
  refine (sumc_ok hF (by rw [Bool.and_eq_true, decide_eq_true_eq, decide_eq_true_eq]; omega) hlk).mono fun e w' hq => ?_
  obtain ⟨lk', he, hF2, hk1, hk2, hM⟩ := hq
  obtain ⟨q1, q2⟩ := GT.keep g1 g2 g5 g4 hF2 hM
  exact ⟨_, _, lk', he, q1, Or.inl ⟨by omega, rfl, rfl⟩, hk1, hk2, q2⟩
theorem GT.st (h : GT n0 ks w t mb tr lk) {k : Nat} (s : St2 k w w') (hk : k ∈ ks) : GT n0 ks w' t mb tr lk := by
  obtain ⟨h1, h2, h5, D, h3, h4⟩ := h
  have hK := Mk.st1 s
  obtain ⟨R, root, hS, hAp, hC, hR, hn⟩ := h3.ts
  exact ⟨Nat.le_trans h1 hK.size, fun j e => Nat.lt_of_lt_of_le (h2 j e) hK.size, h5, D, ⟨⟨R, root, hS.kept hK (fun j e q => (h4 j (Or.inl e)).2 (by rw [q]; exact hk)) (fun b hb q => (h5 b hb).2 (by rw [q]; exact hk)), hAp, hC, hR, hn⟩, h3.om.mk hK (fun q => (h4 mb.m (Or.inr rfl)).2 (by rw [q]; exact hk)), h3.ok, h3.nd, h3.rg, h3.le, h3.l0, h3.hm⟩, h4⟩
end
end G
end Go.Proofs.Ythfemlhmnjfjiaa
/-
  Scripts; what their operations do at most.
-/
namespace Go.Proofs.Ythfemlhmnjfjiaa
open Go.RowKit
namespace G
/-- An operation of a script. -/
structure Op6 where
  d : Int
  a : Int
  i : Int
  p : Option Addr
  vs : List V10
  cap : Nat
  c : Int
  f : Int
  e : Int
def Op6.cells (o : Op6) : List Value := [.int .i64 o.d, .int .i64 o.a, .int .i64 o.i, .slice o.p o.vs.length o.cap, .int .i64 o.c, .int .i64 o.f, .int .i64 o.e]
abbrev Op6.v (o : Op6) : Value := .agg #[.int .i64 o.d, .int .i64 o.a, .int .i64 o.i, .slice o.p o.vs.length o.cap, .int .i64 o.c, .int .i64 o.f, .int .i64 o.e]
structure Op6.ok (o : Op6) : Prop where
  d : I64 o.d
  a : I64 o.a
  i : I64 o.i
  v : ∀ x ∈ o.vs, x.n.ok
  c : I64 o.c
  f : I64 o.f
  e : I64 o.e
def Op6.val (o : Op6) : V10 := o.vs.headD v0
theorem Op6.val_ok {o : Op6} (h : o.ok) : o.val.n.ok := by
  unfold Op6.val
  cases e : o.vs with
  | nil => exact d0_ok
  | cons x L => exact h.v x (by rw [e]; simp)
/-- A script lies there. -/
def SA (w : World) (p : Option Addr) (l : List Op6) : Prop := ∀ i o, l[i]? = some o → (∃ b off, p = some ⟨b, off, none⟩ ∧ b < w.heap.size ∧ w.rangeAt b (off + i * 7) o.cells) ∧ SVv w o.p o.vs
theorem SA.mo {w w' : World} {p : Option Addr} {l : List Op6} (h : SA w p l) (m : Mo w w') : SA w' p l := fun i o e => by
  obtain ⟨⟨b, off, h1, h2, h3⟩, h4⟩ := h i o e
  exact ⟨⟨b, off, h1, Nat.lt_of_lt_of_le h2 m.size, fun j v hv => (m.cell b _ h2).trans (h3 j v hv)⟩, h4.mo m⟩
theorem zs31 : (Try.prog.info? 31).map (·.size) = some 7 := by kernel_rfl
theorem SA.load {w : World} {b off i : Nat} {o : Op6} (h : w.rangeAt b (off + i * 7) o.cells) : (Instr.loadAt 31 (pt b (off + i * 7))).run Try.prog w = .ok o.v w :=
  run_loadAt_mid w b (off + i * 7) 31 o.cells _ h Try.underlying31 rfl zs31
theorem ix23 (b off i n c : Nat) (h : i < n) (w : World) : (Instr.indexAt 23 (.slice (some ⟨b, off, none⟩) n c) (.int .i64 (i : Int))).run Try.prog w = .ok (pt b (off + i * 7)) w := by
  have e : (Instr.indexAt 23 (.slice (some ⟨b, off, none⟩) n c) (.int .i64 (i : Int))).run Try.prog w = .ok (.pointer (some ((⟨b, off, none⟩ : Addr).add (i * 7)))) w := by simp [go_sem, h]
  rw [e, Addr.add_mid]
theorem len23 (ρ : Operand → Value) (x : Operand) (p : Option Addr) (m c : Nat) (hx : ρ x = .slice p m c) (dst : Option Tmp) (type : TypeId) (pos : String) (after : Array Edge) (guard : Option (Nat × Bool)) (w : World) : (execOp ρ { dst, op := .call { callee := .builtin .len, args := #[x], argTypes := #[23] }, type, pos, after, guard }).run Try.prog w = .ok (.value (.int .i64 (m : Int))) w := by
  simp [go_sem, hx]
theorem maxN (a b : Nat) (ρ : Operand → Value) (x y : Operand) (hx : ρ x = .int .i64 (a : Int)) (hy : ρ y = .int .i64 (b : Int)) (dst : Option Tmp) (type : TypeId) (pos : String) (after : Array Edge) (guard : Option (Nat × Bool)) (w : World) : (execOp ρ { dst, op := .call { callee := .builtin .max, args := #[x, y], argTypes := #[3, 3] }, type, pos, after, guard }).run Try.prog w = .ok (.value (.int .i64 ((max a b : Nat) : Int))) w := by
  rw [maxI (a : Int) (b : Int) ρ x y hx hy]
  congr 3; omega
theorem subL {a b : Int} (h1 : -9223372036854775808 ≤ a - b) (h2 : a - b ≤ 9223372036854775807) (x y : Operand) (w : World) : (do eqGuard .sub 2 x y (.int .i64 a) (.int .i64 b); binOp .sub 2 (.int .i64 a) (.int .i64 b)).run Try.prog w = .ok (.int .i64 (a - b)) w := by
  have e : (do eqGuard .sub 2 x y (.int .i64 a) (.int .i64 b); binOp .sub 2 (.int .i64 a) (.int .i64 b)).run Try.prog w = .ok (.int .i64 (IntKind.i64.wrap (a - b))) w := by kernel_rfl
  have h : IntKind.i64.wrap (a - b) = a - b := by rw [IntKind.wrap_i64]; omega
  rw [e, h]
theorem mulL {a b : Int} (h1 : -9223372036854775808 ≤ a * b) (h2 : a * b ≤ 9223372036854775807) (x y : Operand) (w : World) : (do eqGuard .mul 2 x y (.int .i64 a) (.int .i64 b); binOp .mul 2 (.int .i64 a) (.int .i64 b)).run Try.prog w = .ok (.int .i64 (a * b)) w := by
  have e : (do eqGuard .mul 2 x y (.int .i64 a) (.int .i64 b); binOp .mul 2 (.int .i64 a) (.int .i64 b)).run Try.prog w = .ok (.int .i64 (IntKind.i64.wrap (a * b))) w := by kernel_rfl
  have h : IntKind.i64.wrap (a * b) = a * b := by rw [IntKind.wrap_i64]; omega
  rw [e, h]
theorem eqT (k : Nat) (a b : Operand) (w : World) : (do eqGuard .eql 24 a b (pt k 0) (.pointer none); binOp .eql 24 (pt k 0) (.pointer none)).run Try.prog w = .ok (.bool false) w := by kernel_rfl
theorem eqT0 (a b : Operand) (w : World) : (do eqGuard .eql 24 a b (pp none) (.pointer none); binOp .eql 24 (pp none) (.pointer none)).run Try.prog w = .ok (.bool true) w := by kernel_rfl
theorem bitc_le (n : Nat) : bitc n ≤ n := by
  induction n using Nat.strongRecOn with
  | _ n ih =>
    by_cases h : n = 0
    · subst h; rw [bitc_0]; omega
    · rw [bitc_s h]; have := ih (n / 2) (by omega); omega
section
variable {n0 : Nat} {ks : List Nat} {w w' : World} {t : Nat} {mb : Hd} {tr : T} {lk : Int}
def Bm (a b : T) : Int := 24 * (1 + (bitc (max a.kv.length b.kv.length) : Int))
theorem bm_of {a b : T} (h : a.bw) (hs : a.sz ≤ 1024) : 11 * (a.ht : Int) + 3 ≤ Bm a b ∧ 10 * (a.ht : Int) + 8 ≤ Bm a b ∧ 3 * (a.ht : Int) ≤ Bm a b ∧ 1 + 4 * (a.ht : Int) ≤ Bm a b := by
  obtain ⟨h0, h1⟩ := ht_bits h hs
  have hk := a.kv_len
  have e : a.sz.toNat = a.kv.length := by omega
  rw [e] at h1 h0
  have h2 := bitc_mono (show a.kv.length ≤ max a.kv.length b.kv.length by omega)
  unfold Bm; omega
theorem bm_of2 {a b c : T} (h : c.bw) (hs : c.sz ≤ 1024) (hc : c.sz ≤ a.sz) : 10 * (c.ht : Int) + 8 ≤ Bm a b := by
  obtain ⟨h0, h1⟩ := ht_bits h hs
  have hk := a.kv_len
  have hk2 := c.kv_len
  have e : c.sz.toNat = c.kv.length := by omega
  rw [e] at h1 h0
  have h2 := bitc_mono (show c.kv.length ≤ max a.kv.length b.kv.length by omega)
  unfold Bm; omega
theorem bm_hi {a b : T} (h1 : a.sz ≤ 1024) (h2 : b.sz ≤ 1024) : Bm a b ≤ 30000 := by
  have := a.kv_len; have := b.kv_len
  have h := bitc_le (max a.kv.length b.kv.length)
  unfold Bm; omega
theorem Del.sz {tr tr' : T} {i : Py} {p : Int} (h : Del tr i p tr') : tr'.sz = tr.sz - 1 := by
  obtain ⟨A, B, h1, h2, h3⟩ := h.ids
  have a := tr.sz_ids
  have b := tr'.sz_ids
  rw [h1] at a
  rw [h3] at b
  simp only [List.length_append, List.length_cons] at a b
  omega
theorem ins_b {at0 id : Int} {p : Option Addr} {cap : Nat} {vs : List V10} (h : GT n0 ks w t mb tr lk) (hb : tr.bw) (hi : I64 id) (hlk : lk ≤ 2900000000000000000) (hSV : ∀ w', Mk (Wr n0 ks) w w' → SVv w' p vs) (hvo : ∀ x ∈ vs, x.n.ok) : Calls Try.prog 9 #[pt t 0, .int .i64 at0, .int .i64 id, .slice p vs.length cap] w fun e w' => ∃ tr' lk', e = .returned (.int .i64 (insE mb.sc.length tr at0 id vs.length)) ∧ GT n0 ks w' t mb tr' lk' ∧ tr'.bw ∧ lk ≤ lk' ∧ lk' - lk ≤ Bm tr tr' ∧ (insE mb.sc.length tr at0 id vs.length = 0 → lk < lk') ∧ Mk (Wr n0 ks) w w' := by
  have hle := h.le
  refine (ins_any h hi (by omega) hSV hvo).mono fun e w' hq => ?_
  obtain ⟨tr', lk', he, hG, hc, hk1, hk2, hM⟩ := hq
  have := (bm_of (b := tr') hb hle).2.1
  rcases hc with ⟨c0, ⟨y, kn, hI⟩, hk3⟩ | ⟨c0, rfl, rfl⟩
  · exact ⟨tr', lk', he, hG, hI.bw hb, hk1, by omega, fun _ => hk3, hM⟩
  · exact ⟨tr', lk', he, hG, hb, hk1, by omega, fun e => absurd e c0, hM⟩
theorem del_b {id : Int} (h : GT n0 ks w t mb tr lk) (hb : tr.bw) (hi : I64 id) (hlk : lk ≤ 2900000000000000000) : Calls Try.prog 15 #[pt t 0, .int .i64 id] w fun e w' => ∃ p c tr' lk', e = .returned (.tuple #[.int .i64 p, .int .i64 c]) ∧ GT n0 ks w' t mb tr' lk' ∧ tr'.bw ∧ lk ≤ lk' ∧ lk' - lk ≤ Bm tr tr' ∧ Mk (Wr n0 ks) w w' := by
  have hle := h.le
  refine (del_any h hi hlk).mono fun e w' hq => ?_
  obtain ⟨p, c, tr', lk', he, hG, hc, hk1, hk2, hM⟩ := hq
  have := (bm_of (b := tr') hb hle).1
  refine ⟨p, c, tr', lk', he, hG, ?_, hk1, by omega, hM⟩
  rcases hc with ⟨_, _, y, _, _, hD⟩ | ⟨_, _, _, rfl, _⟩
  · exact hD.bw hb
  · exact hb
theorem mov_b {at0 id : Int} (h : GT n0 ks w t mb tr lk) (hb : tr.bw) (hi : I64 id) (hlk : lk ≤ 2900000000000000000) : Calls Try.prog 16 #[pt t 0, .int .i64 id, .int .i64 at0] w fun e w' => ∃ p c tr' lk', e = .returned (.tuple #[.int .i64 p, .int .i64 c]) ∧ GT n0 ks w' t mb tr' lk' ∧ tr'.bw ∧ lk ≤ lk' ∧ lk' - lk ≤ 2 * Bm tr tr' ∧ Mk (Wr n0 ks) w w' := by
  have hle := h.le
  refine (mov_any h hi hlk).mono fun e w' hq => ?_
  obtain ⟨p, c, tr', lk', he, hG, hc, hk1, hM⟩ := hq
  have := (bm_of (b := tr') hb hle).1
  rcases hc with ⟨_, _, _, _, y, kn, tr1, _, _, hD, hI, hk2⟩ | ⟨_, _, rfl, rfl⟩
  · have hb1 := hD.bw hb
    have hs1 := hD.sz
    have := bm_of2 (a := tr) (b := tr') hb1 (by omega) (by omega)
    exact ⟨p, c, tr', lk', he, hG, hI.bw hb1, hk1, by omega, hM⟩
  · exact ⟨p, c, tr', lk', he, hG, hb, hk1, by omega, hM⟩
/-- What Set answers. -/
def setE (nc : Nat) (tr : T) (id cn : Int) : Int := if cn < 0 ∨ (nc : Int) ≤ cn then 1 else if id ∈ tr.is then 0 else 4
theorem set_b {id cn : Int} {x : V10} (h : GT n0 ks w t mb tr lk) (hb : tr.bw) (hi : I64 id) (hx : x.n.ok) (hlk : lk ≤ 2900000000000000000) : Calls Try.prog 17 #[pt t 0, .int .i64 id, .int .i64 cn, V10.v x] w fun e w' => ∃ tr' lk', e = .returned (.int .i64 (setE mb.sc.length tr id cn)) ∧ GT n0 ks w' t mb tr' lk' ∧ tr'.bw ∧ lk ≤ lk' ∧ lk' - lk ≤ Bm tr tr' ∧ (setE mb.sc.length tr id cn = 0 → lk < lk') ∧ Mk (Wr n0 ks) w w' := by
  have hle := h.le
  refine (set_any h hi hx (by omega)).mono fun e w' hq => ?_
  obtain ⟨c, tr', lk', he, hG, hc, hk1, hk2, hM⟩ := hq
  have := (bm_of (b := tr') hb hle).2.2.1
  rcases hc with ⟨c0, c1, c2, ⟨A, B, y, hA, hy, _, hS⟩, hk3⟩ | ⟨c0, rfl, rfl⟩
  · have e0 : setE mb.sc.length tr id cn = 0 := by
      unfold setE; rw [if_neg (by omega), if_pos (by unfold T.is; rw [hA, ← hy]; simp)]
    rw [e0]
    exact ⟨tr', lk', by rw [he, c0], hG, hS.all.2.2.2.2.2.2 hb, hk1, by omega, fun _ => hk3, hM⟩
  · have e0 : setE mb.sc.length tr' id cn = c ∧ c ≠ 0 := by
      unfold setE
      rcases c0 with ⟨rfl, h⟩ | ⟨rfl, h1, h2, h3⟩
      · rw [if_pos h]; exact ⟨rfl, by decide⟩
      · rw [if_neg (by omega), if_neg h3]; exact ⟨rfl, by decide⟩
    rw [e0.1]
    exact ⟨tr', lk', he, hG, hb, hk1, by omega, fun e => absurd e e0.2, hM⟩
theorem qry_b {cn fa ta : Int} (h : GT n0 ks w t mb tr lk) (hb : tr.bw) (hlk : lk ≤ 2900000000000000000) : Calls Try.prog 11 #[pt t 0, .int .i64 cn, .int .i64 fa, .int .i64 ta] w fun e w' => ∃ S cd lk', e = .returned (.tuple #[smv S, .int .i64 cd]) ∧ GT n0 ks w' t mb tr lk' ∧ lk ≤ lk' ∧ lk' - lk ≤ Bm tr tr ∧ Mk (Wr n0 ks) w w' := by
  have hle := h.le
  refine (qry_any h (by omega)).mono fun e w' hq => ?_
  obtain ⟨S, cd, lk', he, hG, _, hk1, hk2, hM⟩ := hq
  have := (bm_of (b := tr) hb hle).2.2.2
  exact ⟨S, cd, lk', he, hG, hk1, by omega, hM⟩
end
section
variable {w : World}
theorem value_t (o : Op6) (q0 : decide (o.vs.length = 0) = true) : Calls Try.prog 18 #[o.v] w fun e w' => e = .returned (V10.v o.val) ∧ Mo w w' := by
  have hval0 : o.val = v0 := by unfold Op6.val; rw [List.length_eq_zero_iff.1 (of_decide_eq_true q0)]; rfl
  refine w_enter 12 Try.func18 Try.ntmps18 rfl rfl ?_
  have M : Mo w w := Mo.refl _
  refine w_seq ?_
  refine w_reg ?_
  refine wl_box 31 (.tmp 0) (.agg #[.int .i64 (o.d), .int .i64 (o.a), .int .i64 (o.i), .slice o.p o.vs.length o.cap, .int .i64 (o.c), .int .i64 (o.f), .int .i64 (o.e)]) (#[.int .i64 (o.d), .int .i64 (o.a), .int .i64 (o.i), .slice o.p o.vs.length o.cap, .int .i64 (o.c), .int .i64 (o.f), .int .i64 (o.e)]) rfl rfl (fun _ => by kernel_rfl) rfl ?_
  intro k1 w1 hk hz hq Q1
  have N_k1 : w.heap.size ≤ k1 := by have := M.size; omega
  replace M := M.trans hq
  clear hk hz hq
  refine wl_alloc 55 #[.int .i64 0, .bool false, .int .u64 0, .int .u64 0, .int .u64 0, .int .u64 0, .int .i64 0, .bool false, .string ⟨#[]⟩, .int .i64 0] rfl (fun _ => by kernel_rfl) rfl ?_
  intro k2 w2 hk hz hq Q2
  have ne_k1_k2 : k1 ≠ k2 := by have := Q1.lt; omega
  have N_k2 : w.heap.size ≤ k2 := by have := M.size; omega
  replace Q1 := Q1.mo hq
  replace M := M.trans hq
  clear hk hz hq
  refine w_nil ?_
  refine xn_then ?_
  refine w_seq ?_
  refine w_seq ?_
  refine w_reg ?_
  refine wl_un (fun v => Instr.fieldAt 31 v 3) (.tmp 1) (pt k1 0) (pt k1 3) (fun _ => rfl) rfl (by kernel_rfl) rfl ?_
  refine wl_load 29 (.tmp 3) (pt k1 3) (.slice o.p o.vs.length o.cap) rfl rfl (run_one Q1 29 3 rfl Try.underlying29 rfl) rfl ?_
  refine wl_val (.int .i64 ((o.vs.length : Nat) : Int)) (len29 _ _ _ _ _ (by exact rfl) _ _ _ _ _ _) rfl ?_
  refine wl_bin (fun x y => do eqGuard .eql 3 (.tmp 5) (.const (.int .i64 (0))) x y; binOp .eql 3 x y) (.tmp 5) (.const (.int .i64 (0))) (.int .i64 ((o.vs.length : Nat) : Int)) (.int .i64 (0)) (.bool true) (fun _ => rfl) rfl rfl (eqI (by rw [← q0]; exact decide_eq_decide.2 (by omega)) _ _ _) rfl ?_
  refine w_nil ?_
  refine xn_then ?_
  refine w_condT rfl ?_
  refine w_seq ?_
  refine w_reg ?_
  refine wl_build 55 [] [] (.agg #[.int .i64 0, .bool false, .int .u64 0, .int .u64 0, .int .u64 0, .int .u64 0, .int .i64 0, .bool false, .string ⟨#[]⟩, .int .i64 0]) rfl rfl (by kernel_rfl) rfl ?_
  refine wl_st 55 (.tmp 2) (.tmp 7) k2 0 #[.int .i64 0, .bool false, .int .u64 0, .int .u64 0, .int .u64 0, .int .u64 0, .int .i64 0, .bool false, .string ⟨#[]⟩, .int .i64 0] [.int .i64 0, .bool false, .int .u64 0, .int .u64 0, .int .u64 0, .int .u64 0, .int .i64 0, .bool false, .string ⟨#[]⟩, .int .i64 0] [.int .i64 0, .bool false, .int .u64 0, .int .u64 0, .int .u64 0, .int .u64 0, .int .i64 0, .bool false, .string ⟨#[]⟩, .int .i64 0] Q2 rfl rfl rfl rfl rfl zs55 rfl rfl rfl ?_
  intro w3 hS Qn
  replace Q2 := Qn
  clear Qn
  replace Q1 := hS.other _ _ ne_k1_k2 Q1
  replace M := hS.mo _ N_k2 M
  clear hS
  refine w_nil ?_
  refine xn_then ?_
  refine w_ret ?_
  refine xr_then ?_
  exact w_ret1 _ (.agg #[.int .i64 0, .bool false, .int .u64 0, .int .u64 0, .int .u64 0, .int .u64 0, .int .i64 0, .bool false, .string ⟨#[]⟩, .int .i64 0]) rfl ⟨k2, rfl, (run_row Q2 55 0 10 [.int .i64 0, .bool false, .int .u64 0, .int .u64 0, .int .u64 0, .int .u64 0, .int .i64 0, .bool false, .string ⟨#[]⟩, .int .i64 0] rfl Try.underlying55 rfl zs55)⟩ ⟨by rw [hval0]; rfl, M⟩
theorem value_f (o : Op6) (hSV : SVv w o.p o.vs) (q0 : decide (o.vs.length = 0) = false) : Calls Try.prog 18 #[o.v] w fun e w' => e = .returned (V10.v o.val) ∧ Mo w w' := by
  have hlen := of_decide_eq_false q0
  obtain ⟨xv, hxv⟩ : ∃ x, o.vs[0]? = some x := ⟨o.vs[0]'(by omega), List.getElem?_eq_getElem _⟩
  have hval1 : o.val = xv := by
    unfold Op6.val
    cases e : o.vs with
    | nil => rw [e] at hxv; cases hxv
    | cons x L => rw [e] at hxv; cases hxv; rfl
  obtain ⟨b, off, hpb, hbl, hrg⟩ := hSV 0 xv hxv
  refine w_enter 12 Try.func18 Try.ntmps18 rfl rfl ?_
  have M : Mo w w := Mo.refl _
  refine w_seq ?_
  refine w_reg ?_
  refine wl_box 31 (.tmp 0) (.agg #[.int .i64 (o.d), .int .i64 (o.a), .int .i64 (o.i), .slice o.p o.vs.length o.cap, .int .i64 (o.c), .int .i64 (o.f), .int .i64 (o.e)]) (#[.int .i64 (o.d), .int .i64 (o.a), .int .i64 (o.i), .slice o.p o.vs.length o.cap, .int .i64 (o.c), .int .i64 (o.f), .int .i64 (o.e)]) rfl rfl (fun _ => by kernel_rfl) rfl ?_
  intro k1 w1 hk hz hq Q1
  have N_k1 : w.heap.size ≤ k1 := by have := M.size; omega
  replace M := M.trans hq
  clear hk hz hq
  refine wl_alloc 55 #[.int .i64 0, .bool false, .int .u64 0, .int .u64 0, .int .u64 0, .int .u64 0, .int .i64 0, .bool false, .string ⟨#[]⟩, .int .i64 0] rfl (fun _ => by kernel_rfl) rfl ?_
  intro k2 w2 hk hz hq Q2
  have ne_k1_k2 : k1 ≠ k2 := by have := Q1.lt; omega
  have N_k2 : w.heap.size ≤ k2 := by have := M.size; omega
  replace Q1 := Q1.mo hq
  replace M := M.trans hq
  clear hk hz hq
  refine w_nil ?_
  refine xn_then ?_
  refine w_seq ?_
  refine w_seq ?_
  refine w_reg ?_
  refine wl_un (fun v => Instr.fieldAt 31 v 3) (.tmp 1) (pt k1 0) (pt k1 3) (fun _ => rfl) rfl (by kernel_rfl) rfl ?_
  refine wl_load 29 (.tmp 3) (pt k1 3) (.slice o.p o.vs.length o.cap) rfl rfl (run_one Q1 29 3 rfl Try.underlying29 rfl) rfl ?_
  refine wl_val (.int .i64 ((o.vs.length : Nat) : Int)) (len29 _ _ _ _ _ (by exact rfl) _ _ _ _ _ _) rfl ?_
  refine wl_bin (fun x y => do eqGuard .eql 3 (.tmp 5) (.const (.int .i64 (0))) x y; binOp .eql 3 x y) (.tmp 5) (.const (.int .i64 (0))) (.int .i64 ((o.vs.length : Nat) : Int)) (.int .i64 (0)) (.bool false) (fun _ => rfl) rfl rfl (eqI (by rw [← q0]; exact decide_eq_decide.2 (by omega)) _ _ _) rfl ?_
  refine w_nil ?_
  refine xn_then ?_
  refine w_condF rfl ?_
  refine w_skip ?_
  refine xn_then ?_
  refine w_seq ?_
  refine w_reg ?_
  refine wl_un (fun v => Instr.fieldAt 31 v 3) (.tmp 1) (pt k1 0) (pt k1 3) (fun _ => rfl) rfl (by kernel_rfl) rfl ?_
  refine wl_load 29 (.tmp 8) (pt k1 3) (.slice o.p o.vs.length o.cap) rfl rfl (run_one Q1 29 3 rfl Try.underlying29 rfl) rfl ?_
  refine wl_bin (fun x y => Instr.indexAt 29 x y) (.tmp 9) (.const (.int .i64 (0))) (.slice o.p o.vs.length o.cap) (.int .i64 (0)) (pt b (off + 0 * 10)) (fun _ => rfl) rfl rfl (by rw [hpb]; exact ix29 b off 0 _ _ (by omega) _) rfl ?_
  refine wl_load 55 (.tmp 10) (pt b (off + 0 * 10)) (V10.v xv) rfl rfl (ld55 (fun j v hv => (M.cell b _ hbl).trans (hrg j v hv))) rfl ?_
  refine wl_st 55 (.tmp 2) (.tmp 11) k2 0 ((V10.cells xv).toArray) [.int .i64 0, .bool false, .int .u64 0, .int .u64 0, .int .u64 0, .int .u64 0, .int .i64 0, .bool false, .string ⟨#[]⟩, .int .i64 0] (V10.cells xv) Q2 rfl rfl rfl rfl rfl zs55 rfl rfl rfl ?_
  intro w3 hS Qn
  replace Q2 := Qn
  clear Qn
  replace Q1 := hS.other _ _ ne_k1_k2 Q1
  replace M := hS.mo _ N_k2 M
  clear hS
  refine w_nil ?_
  refine xn_then ?_
  refine w_ret ?_
  exact w_ret1 _ (V10.v xv) rfl ⟨k2, rfl, (run_row Q2 55 0 10 (V10.cells xv) rfl Try.underlying55 rfl zs55)⟩ ⟨by rw [hval1], M⟩
theorem value_n (o : Op6) (hSV : SVv w o.p o.vs) : Calls Try.prog 18 #[o.v] w fun e w' => e = .returned (V10.v o.val) ∧ Mo w w' := by
  by_cases h : o.vs.length = 0
  · exact value_t o (decide_eq_true h)
  · exact value_f o hSV (decide_eq_false h)
end
end G
end Go.Proofs.Ythfemlhmnjfjiaa
/-
  begun: three rows put in, one set anew.
-/
namespace Go.Proofs.Ythfemlhmnjfjiaa
open Go.RowKit
namespace G
theorem svv_one {w : World} {k : Nat} {x : V10} (h : At w k x.cells) : SVv w (some ⟨k, 0, none⟩) [x] := fun i y e => by
  match i, e with
  | 0, e => cases e; exact ⟨k, 0, rfl, h.2.2, fun j v hv => by have := h.1 j v hv; rw [show 0 + 0 * 10 + j = 0 + j by omega]; exact this⟩
  | i + 1, e => simp at e
theorem sn_one {w : World} {k : Nat} {x : Int} (h : At w k [.int .i64 x]) : SN w (some ⟨k, 0, none⟩) [x] := fun i y e => by
  match i, e with
  | 0, e => cases e; exact ⟨k, 0, rfl, h.2.2, fun j v hv => by have := h.1 j v hv; rw [show 0 + 0 * 1 + j = 0 + j by omega]; exact this⟩
  | i + 1, e => simp at e
section
variable {o : Oper} {n : Nat} {l : List (Nat × Value)} {w : World} {ops : Array Oper} {rest : List Oper} {Q : Exit → Act → World → Prop}
theorem bs22 (a : Int) (w : World) : (Instr.buildSlice 22 1 #[(0, .int .i64 a)]).run Try.prog w = .ok (.slice (some ⟨w.heap.size, 0, none⟩) 1 1) (w.alloc (.cells #[.int .i64 a] 3)) := by kernel_rfl
theorem bs29 (x : V10) (w : World) : (Instr.buildSlice 29 1 #[(0, x.v)]).run Try.prog w = .ok (.slice (some ⟨w.heap.size, 0, none⟩) 1 1) (w.alloc (.cells x.cells.toArray 55)) := by kernel_rfl
theorem wl_bs22_1 (x : Operand) (a : Int) (ho : o.op = .buildSlice 22 1 #[(0, x)]) (hx : evl n l x = .int .i64 a) (hg : wnt n l ops o = true)
    (hk : ∀ k w', w.heap.size = k → w'.heap.size = k + 1 → Mo w w' → At w' k [.int .i64 a] → WL Try.prog ops Q rest n (ext l o.dst (.slice (some ⟨k, 0, none⟩) 1 1)) w') : WL Try.prog ops Q (o :: rest) n l w :=
  ⟨l_step hg (o_val (.slice (some ⟨w.heap.size, 0, none⟩) 1 1) (w' := w.alloc (.cells #[.int .i64 a] 3)) (by
    have h := bs22 a w
    simp only [execOp, ho, List.map_toArray, List.map_cons, List.map_nil, hx, Sem.run_bind, h, Result.andThen_ok]
    simp) (hk _ _ rfl (by simp) ((Mo.refl _).alloc _ _) (At.new w _ 3)).out)⟩
theorem wl_bs29_1 (x : Operand) (a : V10) (ho : o.op = .buildSlice 29 1 #[(0, x)]) (hx : evl n l x = a.v) (hg : wnt n l ops o = true)
    (hk : ∀ k w', w.heap.size = k → w'.heap.size = k + 1 → Mo w w' → At w' k a.cells → WL Try.prog ops Q rest n (ext l o.dst (.slice (some ⟨k, 0, none⟩) 1 1)) w') : WL Try.prog ops Q (o :: rest) n l w :=
  ⟨l_step hg (o_val (.slice (some ⟨w.heap.size, 0, none⟩) 1 1) (w' := w.alloc (.cells a.cells.toArray 55)) (by
    have h := bs29 a w
    simp only [execOp, ho, List.map_toArray, List.map_cons, List.map_nil, hx, Sem.run_bind, h, Result.andThen_ok]
    simp) (hk _ _ rfl (by simp) ((Mo.refl _).alloc _ _) (At.new w _ 55)).out)⟩
end
theorem eqU {a b : Int} {r : Bool} (h : decide (a = b) = r) (x y : Operand) (w : World) : (do eqGuard .eql 34 x y (.int .u64 a) (.int .u64 b); binOp .eql 34 (.int .u64 a) (.int .u64 b)).run Try.prog w = .ok (.bool r) w := by
  have e : (do eqGuard .eql 34 x y (.int .u64 a) (.int .u64 b); binOp .eql 34 (.int .u64 a) (.int .u64 b)).run Try.prog w = .ok (.bool (a == b)) w := by kernel_rfl
  rw [e, ← h]; rfl
theorem Ins.td {tr tr' : T} {at0 : Int} {y : Py} {kn : Nat} (h : Ins tr at0 y kn tr') : tr'.ids = tr.ids.take at0.toNat ++ y :: tr.ids.drop at0.toNat := by
  obtain ⟨A, B, h1, h2, h3⟩ := h.ids
  rw [h1, h3, show at0.toNat = A.length by omega, List.take_left, List.drop_left]
theorem insE_of {tr : T} {nc nv : Nat} {at0 id : Int} (h0 : nv = nc) (h1 : id ∉ tr.is) (h2 : 1 ≤ id) (h3 : id ≤ 9007199254740992) (h4 : tr.sz < 1024) (h5 : 0 ≤ at0) (h6 : at0 ≤ tr.sz) : insE nc tr at0 id nv = 0 := by
  unfold insE
  rw [if_neg (fun h => h h0), if_neg (by omega), if_neg h1, if_neg (by omega), if_neg (by omega)]
def x250 : V10 := ⟨1, ⟨false, 250, 2⟩, false, ⟨#[]⟩, 0⟩
def x100 : V10 := ⟨1, ⟨true, 100, 2⟩, false, ⟨#[]⟩, 0⟩
def x400 : V10 := ⟨1, ⟨false, 400, 2⟩, false, ⟨#[]⟩, 0⟩
section
variable {w : World}
theorem x250_ok : x250.n.ok := ⟨by decide, by unfold x250 MM; decide⟩
theorem x100_ok : x100.n.ok := ⟨by decide, by unfold x100 MM; decide⟩
theorem x400_ok : x400.n.ok := ⟨by decide, by unfold x400 MM; decide⟩
theorem v0_ok : v0.n.ok := d0_ok
theorem begun_n (w : World) : Calls Try.prog 8 #[] w fun e w' => e = .returned (.bool true) ∧ Mo w w' := by
  have e0 : T.e.ids = [] := rfl
  refine w_enter 84 Try.func8 Try.ntmps8 rfl rfl ?_
  have M : Mo w w := Mo.refl _
  refine w_seq ?_
  refine w_reg ?_
  refine wl_mv (.const (.bool false)) (.bool false) (fun _ => rfl) rfl rfl ?_
  refine w_nil ?_
  refine xn_then ?_
  refine w_seq ?_
  refine w_reg ?_
  refine wl_bs22_1 (.const (.int .i64 (2))) (2) rfl rfl rfl ?_
  intro k1 w1 hk hz hq Q1
  have N_k1 : w.heap.size ≤ k1 := by have := M.size; omega
  replace M := M.trans hq
  clear hk hz hq
  refine wl_callx 7 [(.tmp 8)] _ [.slice (some ⟨k1, 0, none⟩) 1 1] rfl rfl (fun _ _ => by kernel_rfl) (new_g (n0 := w.heap.size) (ks := [k1]) (sc := [2]) (sn_one Q1) (by decide) M.size (fun j e => by rw [List.mem_singleton.1 e]; exact Q1.2.2)) rfl ?_
  rintro _ w2 ⟨t, mb, rfl, hG, hsc, ht9, hq⟩
  refine ⟨_, rfl, ?_⟩
  replace M := M.trans hq
  replace Q1 := Q1.mo hq
  clear hq
  refine wl_mv (.tmp 9) (.tuple #[pt t 0, .int .i64 (0)]) (fun _ => rfl) rfl rfl ?_
  refine wl_un (fun v => Instr.extract v 0) (.tmp 7) (.tuple #[pt t 0, .int .i64 (0)]) (pt t 0) (fun _ => rfl) rfl (by kernel_rfl) rfl ?_
  refine wl_un (fun v => Instr.extract v 1) (.tmp 7) (.tuple #[pt t 0, .int .i64 (0)]) (.int .i64 (0)) (fun _ => rfl) rfl (by kernel_rfl) rfl ?_
  refine wl_mv (.tmp 10) (pt t 0) (fun _ => rfl) rfl rfl ?_
  refine wl_mv (.tmp 11) (.int .i64 (0)) (fun _ => rfl) rfl rfl ?_
  refine w_nil ?_
  refine xn_then ?_
  refine w_seq ?_
  refine w_seq ?_
  refine w_reg ?_
  refine wl_mv (.tmp 1) (pt t 0) (fun _ => rfl) rfl rfl ?_
  refine wl_bin (fun x y => do eqGuard .eql 24 (.tmp 12) (.const (.pointer none)) x y; binOp .eql 24 x y) (.tmp 12) (.const (.pointer none)) (pt t 0) (pp none) (.bool false) (fun _ => rfl) rfl rfl (eqT _ _ _ _) rfl ?_
  refine wl_mv (.tmp 13) (.bool false) (fun _ => rfl) rfl rfl ?_
  refine wl_mv (.tmp 2) (.int .i64 (0)) (fun _ => rfl) rfl rfl ?_
  refine wl_bin (fun x y => do eqGuard .neq 25 (.tmp 15) (.const (.int .i64 (0))) x y; binOp .neq 25 x y) (.tmp 15) (.const (.int .i64 (0))) (.int .i64 (0)) (.int .i64 (0)) (.bool false) (fun _ => rfl) rfl rfl (by kernel_rfl) rfl ?_
  refine wl_pick (.tmp 14) (.const (.bool true)) (.tmp 16) false (.bool false) (fun _ => rfl) rfl rfl rfl ?_
  refine wl_mv (.tmp 17) (.bool false) (fun _ => rfl) rfl rfl ?_
  refine wl_mv (.tmp 1) (pt t 0) (fun _ => rfl) rfl rfl ?_
  refine wl_call 28 [(.const (.int .i64 (250))), (.const (.int .i64 (2)))] _ [.int .i64 (250), .int .i64 (2)] (V10.v x250) rfl rfl (fun _ _ => by kernel_rfl) (num_p (n := 250) (s := 2) (by decide) rfl rfl rfl) rfl ?_
  intro w3 hq
  replace Q1 := Q1.mo hq
  replace hG := hG.mo hq
  replace M := M.trans hq
  clear hq
  refine wl_bs29_1 (.tmp 20) x250 rfl rfl rfl ?_
  intro k2 w4 hk hz hq Q2
  have ne_k1_k2 : k1 ≠ k2 := by have := Q1.lt; omega
  have N_k2 : w.heap.size ≤ k2 := by have := M.size; omega
  replace hG := hG.push (Nat.le_of_eq hk) (by omega) hq
  replace Q1 := Q1.mo hq
  replace M := M.trans hq
  clear hk hz hq
  refine wl_callx 9 [(.tmp 19), (.const (.int .i64 (0))), (.const (.int .i64 (1))), (.tmp 21)] _ [pt t 0, .int .i64 (0), .int .i64 (1), .slice (some ⟨k2, 0, none⟩) 1 1] rfl rfl (fun _ _ => by kernel_rfl) (insert_g (vs := [x250]) hG (insE_of (by rw [hsc]; rfl) (by unfold T.is; rw [e0]; show (1 : Int) ∉ ([] : List Int); decide) (by decide) (by decide) (by rw [T.sz_ids, e0]; show ((0 : Nat) : Int) < 1024; decide) (by decide) (by rw [T.sz_ids, e0]; show (0 : Int) ≤ ((0 : Nat) : Int); decide)) (by omega) (fun w9 m9 => svv_one (Wr.at m9 Q2 (by simp))) (fun z hz => by rw [List.mem_singleton.1 hz]; exact x250_ok)) rfl ?_
  rintro _ w5 ⟨y1, kn1, tr1, lk1, rfl, hI1, hG, hl1, hu1, hM2⟩
  refine ⟨_, rfl, ?_⟩
  have e1 : tr1.ids = [⟨1, y1, [x250]⟩] := by have := hI1.td; rw [e0] at this; exact this
  replace hu1 : lk1 ≤ 0 + 10 * 1024 + 8 := by have := T.ht_le .e; have := T.sz_ids .e; rw [e0] at this; simp only [List.length_nil] at this; omega
  clear hI1
  replace M := Wr.mo hM2 M (Nat.le_refl _)
  replace Q1 := Wr.at hM2 Q1 (by simp)
  replace Q2 := Wr.at hM2 Q2 (by simp)
  clear hM2
  refine wl_bin (fun x y => do eqGuard .neq 25 (.tmp 22) (.const (.int .i64 (0))) x y; binOp .neq 25 x y) (.tmp 22) (.const (.int .i64 (0))) (.int .i64 (0)) (.int .i64 (0)) (.bool false) (fun _ => rfl) rfl rfl (by kernel_rfl) rfl ?_
  refine wl_pick (.tmp 18) (.const (.bool true)) (.tmp 23) false (.bool false) (fun _ => rfl) rfl rfl rfl ?_
  refine wl_mv (.tmp 24) (.bool false) (fun _ => rfl) rfl rfl ?_
  refine wl_mv (.tmp 1) (pt t 0) (fun _ => rfl) rfl rfl ?_
  refine wl_build 55 [] [] (.agg #[.int .i64 0, .bool false, .int .u64 0, .int .u64 0, .int .u64 0, .int .u64 0, .int .i64 0, .bool false, .string ⟨#[]⟩, .int .i64 0]) rfl rfl (by kernel_rfl) rfl ?_
  refine wl_bs29_1 (.tmp 27) v0 rfl rfl rfl ?_
  intro k3 w6 hk hz hq Q3
  have ne_k1_k3 : k1 ≠ k3 := by have := Q1.lt; omega
  have ne_k2_k3 : k2 ≠ k3 := by have := Q2.lt; omega
  have N_k3 : w.heap.size ≤ k3 := by have := M.size; omega
  replace hG := hG.push (Nat.le_of_eq hk) (by omega) hq
  replace Q1 := Q1.mo hq
  replace Q2 := Q2.mo hq
  replace M := M.trans hq
  clear hk hz hq
  refine wl_callx 9 [(.tmp 26), (.const (.int .i64 (1))), (.const (.int .i64 (2))), (.tmp 28)] _ [pt t 0, .int .i64 (1), .int .i64 (2), .slice (some ⟨k3, 0, none⟩) 1 1] rfl rfl (fun _ _ => by kernel_rfl) (insert_g (vs := [v0]) hG (insE_of (by rw [hsc]; rfl) (by unfold T.is; rw [e1]; show (2 : Int) ∉ ([1] : List Int); decide) (by decide) (by decide) (by rw [T.sz_ids, e1]; show ((1 : Nat) : Int) < 1024; decide) (by decide) (by rw [T.sz_ids, e1]; show (1 : Int) ≤ ((1 : Nat) : Int); decide)) (by omega) (fun w9 m9 => svv_one (Wr.at m9 Q3 (by simp))) (fun z hz => by rw [List.mem_singleton.1 hz]; exact v0_ok)) rfl ?_
  rintro _ w7 ⟨y2, kn2, tr2, lk2, rfl, hI2, hG, hl2, hu2, hM2⟩
  refine ⟨_, rfl, ?_⟩
  have e2 : tr2.ids = [⟨1, y1, [x250]⟩, ⟨2, y2, [v0]⟩] := by have := hI2.td; rw [e1] at this; exact this
  replace hu2 : lk2 ≤ lk1 + 10 * 1024 + 8 := by have := T.ht_le tr1; have := T.sz_ids tr1; rw [e1] at this; simp only [List.length_cons, List.length_nil] at this; omega
  clear hI2
  replace M := Wr.mo hM2 M (Nat.le_refl _)
  replace Q1 := Wr.at hM2 Q1 (by simp)
  replace Q2 := Wr.at hM2 Q2 (by simp)
  replace Q3 := Wr.at hM2 Q3 (by simp)
  clear hM2
  refine wl_bin (fun x y => do eqGuard .neq 25 (.tmp 29) (.const (.int .i64 (0))) x y; binOp .neq 25 x y) (.tmp 29) (.const (.int .i64 (0))) (.int .i64 (0)) (.int .i64 (0)) (.bool false) (fun _ => rfl) rfl rfl (by kernel_rfl) rfl ?_
  refine wl_pick (.tmp 25) (.const (.bool true)) (.tmp 30) false (.bool false) (fun _ => rfl) rfl rfl rfl ?_
  refine wl_mv (.tmp 31) (.bool false) (fun _ => rfl) rfl rfl ?_
  refine wl_mv (.tmp 1) (pt t 0) (fun _ => rfl) rfl rfl ?_
  refine wl_call 28 [(.const (.int .i64 (-100))), (.const (.int .i64 (2)))] _ [.int .i64 (-100), .int .i64 (2)] (V10.v x100) rfl rfl (fun _ _ => by kernel_rfl) (num_m (n := -100) (s := 2) (by decide) rfl rfl rfl) rfl ?_
  intro w8 hq
  replace Q1 := Q1.mo hq
  replace Q2 := Q2.mo hq
  replace Q3 := Q3.mo hq
  replace hG := hG.mo hq
  replace M := M.trans hq
  clear hq
  refine wl_bs29_1 (.tmp 34) x100 rfl rfl rfl ?_
  intro k4 w9 hk hz hq Q4
  have ne_k1_k4 : k1 ≠ k4 := by have := Q1.lt; omega
  have ne_k2_k4 : k2 ≠ k4 := by have := Q2.lt; omega
  have ne_k3_k4 : k3 ≠ k4 := by have := Q3.lt; omega
  have N_k4 : w.heap.size ≤ k4 := by have := M.size; omega
  replace hG := hG.push (Nat.le_of_eq hk) (by omega) hq
  replace Q1 := Q1.mo hq
  replace Q2 := Q2.mo hq
  replace Q3 := Q3.mo hq
  replace M := M.trans hq
  clear hk hz hq
  refine wl_callx 9 [(.tmp 33), (.const (.int .i64 (1))), (.const (.int .i64 (3))), (.tmp 35)] _ [pt t 0, .int .i64 (1), .int .i64 (3), .slice (some ⟨k4, 0, none⟩) 1 1] rfl rfl (fun _ _ => by kernel_rfl) (insert_g (vs := [x100]) hG (insE_of (by rw [hsc]; rfl) (by unfold T.is; rw [e2]; show (3 : Int) ∉ ([1, 2] : List Int); decide) (by decide) (by decide) (by rw [T.sz_ids, e2]; show ((2 : Nat) : Int) < 1024; decide) (by decide) (by rw [T.sz_ids, e2]; show (1 : Int) ≤ ((2 : Nat) : Int); decide)) (by omega) (fun w9 m9 => svv_one (Wr.at m9 Q4 (by simp))) (fun z hz => by rw [List.mem_singleton.1 hz]; exact x100_ok)) rfl ?_
  rintro _ w10 ⟨y3, kn3, tr3, lk3, rfl, hI3, hG, hl3, hu3, hM2⟩
  refine ⟨_, rfl, ?_⟩
  have e3 : tr3.ids = [⟨1, y1, [x250]⟩, ⟨3, y3, [x100]⟩, ⟨2, y2, [v0]⟩] := by have := hI3.td; rw [e2] at this; exact this
  replace hu3 : lk3 ≤ lk2 + 10 * 1024 + 8 := by have := T.ht_le tr2; have := T.sz_ids tr2; rw [e2] at this; simp only [List.length_cons, List.length_nil] at this; omega
  clear hI3
  replace M := Wr.mo hM2 M (Nat.le_refl _)
  replace Q1 := Wr.at hM2 Q1 (by simp)
  replace Q2 := Wr.at hM2 Q2 (by simp)
  replace Q3 := Wr.at hM2 Q3 (by simp)
  replace Q4 := Wr.at hM2 Q4 (by simp)
  clear hM2
  refine wl_bin (fun x y => do eqGuard .neq 25 (.tmp 36) (.const (.int .i64 (0))) x y; binOp .neq 25 x y) (.tmp 36) (.const (.int .i64 (0))) (.int .i64 (0)) (.int .i64 (0)) (.bool false) (fun _ => rfl) rfl rfl (by kernel_rfl) rfl ?_
  refine wl_pick (.tmp 32) (.const (.bool true)) (.tmp 37) false (.bool false) (fun _ => rfl) rfl rfl rfl ?_
  refine w_nil ?_
  refine xn_then ?_
  refine w_condF rfl ?_
  refine w_skip ?_
  refine xn_then ?_
  refine w_seq ?_
  refine w_reg ?_
  refine wl_mv (.tmp 1) (pt t 0) (fun _ => rfl) rfl rfl ?_
  refine wl_callx 12 [(.tmp 40), (.const (.int .i64 (0)))] _ [pt t 0, .int .i64 (0)] rfl rfl (fun _ _ => by kernel_rfl) (sum_any hG (by omega)) rfl ?_
  rintro _ w11 ⟨Sa, cd1, lk40, rfl, hG, hc9, hv1, hw1, hM2⟩
  refine ⟨_, rfl, ?_⟩
  obtain ⟨_, rfl, hSa⟩ : _ ∧ _ ∧ _ := hc9.resolve_right (fun h => h.1 (by rw [hsc]; decide))
  replace hSa : Sa = col 0 2 [⟨1, y1, [x250]⟩, ⟨3, y3, [x100]⟩, ⟨2, y2, [v0]⟩] := by rw [hSa, hsc, e3]; rfl
  have qf : decide (Sa.f = 2) = true := by rw [hSa]; rfl
  have qk : decide (Sa.k = 1) = true := by rw [hSa]; rfl
  have qt : decide (l0 (Sa).tt = 150) = true := by rw [hSa]; rfl
  clear hc9
  replace M := Wr.mo hM2 M (Nat.le_refl _)
  replace Q1 := Wr.at hM2 Q1 (by simp)
  replace Q2 := Wr.at hM2 Q2 (by simp)
  replace Q3 := Wr.at hM2 Q3 (by simp)
  replace Q4 := Wr.at hM2 Q4 (by simp)
  clear hM2
  refine wl_mv (.tmp 41) (.tuple #[smv Sa, .int .i64 (0)]) (fun _ => rfl) rfl rfl ?_
  refine wl_un (fun v => Instr.extract v 0) (.tmp 39) (.tuple #[smv Sa, .int .i64 (0)]) (smv Sa) (fun _ => rfl) rfl (by kernel_rfl) rfl ?_
  refine wl_un (fun v => Instr.extract v 1) (.tmp 39) (.tuple #[smv Sa, .int .i64 (0)]) (.int .i64 (0)) (fun _ => rfl) rfl (by kernel_rfl) rfl ?_
  refine wl_alloc 42 #[.int .i64 0, .int .i64 0, .int .i64 0, .int .i64 0, .int .i64 0, .int .u64 0, .int .u64 0, .int .u64 0, .int .u64 0, .int .u64 0, .bool false, .bool false, .int .u64 0, .int .u64 0, .int .u64 0, .int .u64 0, .int .i64 0, .bool false, .int .u64 0, .int .u64 0, .int .u64 0, .int .u64 0, .int .i64 0] rfl (fun _ => by kernel_rfl) rfl ?_
  intro k5 w12 hk hz hq Q5
  have ne_k1_k5 : k1 ≠ k5 := by have := Q1.lt; omega
  have ne_k2_k5 : k2 ≠ k5 := by have := Q2.lt; omega
  have ne_k3_k5 : k3 ≠ k5 := by have := Q3.lt; omega
  have ne_k4_k5 : k4 ≠ k5 := by have := Q4.lt; omega
  have N_k5 : w.heap.size ≤ k5 := by have := M.size; omega
  replace hG := hG.push (Nat.le_of_eq hk) (by omega) hq
  replace Q1 := Q1.mo hq
  replace Q2 := Q2.mo hq
  replace Q3 := Q3.mo hq
  replace Q4 := Q4.mo hq
  replace M := M.trans hq
  clear hk hz hq
  refine wl_stx2 42 (.tmp 3) (.tmp 42) k5 0 ((sml Sa).toArray) [.int .i64 0, .int .i64 0, .int .i64 0, .int .i64 0, .int .i64 0, .int .u64 0, .int .u64 0, .int .u64 0, .int .u64 0, .int .u64 0, .bool false, .bool false, .int .u64 0, .int .u64 0, .int .u64 0, .int .u64 0, .int .i64 0, .bool false, .int .u64 0, .int .u64 0, .int .u64 0, .int .u64 0, .int .i64 0] (sml Sa) Q5 rfl rfl rfl rfl rfl zs42 rfl rfl rfl ?_
  intro w13 hT Qn
  replace Q5 := Qn
  clear Qn
  replace Q1 := hT.other _ _ ne_k1_k5 Q1
  replace Q2 := hT.other _ _ ne_k2_k5 Q2
  replace Q3 := hT.other _ _ ne_k3_k5 Q3
  replace Q4 := hT.other _ _ ne_k4_k5 Q4
  replace hG := hG.st hT (by simp)
  replace M := (Mk.refl (fun j => j = k5) _ |>.st hT rfl).mo M (fun _ e => e ▸ N_k5)
  clear hT
  refine wl_mv (.tmp 43) (.int .i64 (0)) (fun _ => rfl) rfl rfl ?_
  refine w_nil ?_
  refine xn_then ?_
  refine w_seq ?_
  refine w_reg ?_
  refine wl_mv (.tmp 1) (pt t 0) (fun _ => rfl) rfl rfl ?_
  refine wl_call 28 [(.const (.int .i64 (400))), (.const (.int .i64 (2)))] _ [.int .i64 (400), .int .i64 (2)] (V10.v x400) rfl rfl (fun _ _ => by kernel_rfl) (num_p (n := 400) (s := 2) (by decide) rfl rfl rfl) rfl ?_
  intro w14 hq
  replace Q1 := Q1.mo hq
  replace Q2 := Q2.mo hq
  replace Q3 := Q3.mo hq
  replace Q4 := Q4.mo hq
  replace Q5 := Q5.mo hq
  replace hG := hG.mo hq
  replace M := M.trans hq
  clear hq
  refine wl_callx 17 [(.tmp 44), (.const (.int .i64 (3))), (.const (.int .i64 (0))), (.tmp 45)] _ [pt t 0, .int .i64 (3), .int .i64 (0), V10.v x400] rfl rfl (fun _ _ => by kernel_rfl) (set_any (x := x400) hG ⟨by decide, by decide⟩ x400_ok (by omega)) rfl ?_
  rintro _ w15 ⟨cc9, tr4, lk4, rfl, hG, hc9, hl7, hu7, hM2⟩
  refine ⟨_, rfl, ?_⟩
  rcases hc9 with ⟨rfl, _, _, ⟨A9, B9, y9, hA9, hy9, hB9, _⟩, _⟩ | ⟨hno, _, _⟩
  rotate_left
  · exfalso
    rcases hno with ⟨_, h⟩ | ⟨_, _, _, h⟩
    · rw [hsc] at h; simp at h
    · exact h (by unfold T.is; rw [e3]; show (3 : Int) ∈ ([1, 3, 2] : List Int); decide)
  have e4 : tr4.ids = [⟨1, y1, [x250]⟩, ⟨3, y3, [x400]⟩, ⟨2, y2, [v0]⟩] := by
    rw [e3] at hA9
    rw [hB9]
    match A9, hA9 with
    | [], h => cases h; cases hy9
    | [a], h => cases h; rfl
    | [a, b], h => cases h; cases hy9
    | a :: b :: c :: L, h => simp at h
  clear hA9 hB9 hy9
  replace hu7 : lk4 ≤ lk40 + 3 * 1024 := by have := T.ht_le tr3; have := T.sz_ids tr3; rw [e3] at this; simp only [List.length_cons, List.length_nil] at this; omega
  replace M := Wr.mo hM2 M (Nat.le_refl _)
  replace Q1 := Wr.at hM2 Q1 (by simp)
  replace Q2 := Wr.at hM2 Q2 (by simp)
  replace Q3 := Wr.at hM2 Q3 (by simp)
  replace Q4 := Wr.at hM2 Q4 (by simp)
  replace Q5 := Wr.at hM2 Q5 (by simp)
  clear hM2
  refine wl_mv (.tmp 46) (.int .i64 (0)) (fun _ => rfl) rfl rfl ?_
  refine w_nil ?_
  refine xn_then ?_
  refine w_seq ?_
  refine w_reg ?_
  refine wl_mv (.tmp 1) (pt t 0) (fun _ => rfl) rfl rfl ?_
  refine wl_callx 12 [(.tmp 48), (.const (.int .i64 (0)))] _ [pt t 0, .int .i64 (0)] rfl rfl (fun _ _ => by kernel_rfl) (sum_any hG (by omega)) rfl ?_
  rintro _ w16 ⟨Sb, cd2, lk50, rfl, hG, hc9, hv2, hw2, hM2⟩
  refine ⟨_, rfl, ?_⟩
  obtain ⟨_, rfl, hSb⟩ : _ ∧ _ ∧ _ := hc9.resolve_right (fun h => h.1 (by rw [hsc]; decide))
  replace hSb : Sb = col 0 2 [⟨1, y1, [x250]⟩, ⟨3, y3, [x400]⟩, ⟨2, y2, [v0]⟩] := by rw [hSb, hsc, e4]; rfl
  have qu : decide (l0 (Sb).tt = 650) = true := by rw [hSb]; rfl
  clear hc9
  replace M := Wr.mo hM2 M (Nat.le_refl _)
  replace Q1 := Wr.at hM2 Q1 (by simp)
  replace Q2 := Wr.at hM2 Q2 (by simp)
  replace Q3 := Wr.at hM2 Q3 (by simp)
  replace Q4 := Wr.at hM2 Q4 (by simp)
  replace Q5 := Wr.at hM2 Q5 (by simp)
  clear hM2
  refine wl_mv (.tmp 49) (.tuple #[smv Sb, .int .i64 (0)]) (fun _ => rfl) rfl rfl ?_
  refine wl_un (fun v => Instr.extract v 0) (.tmp 47) (.tuple #[smv Sb, .int .i64 (0)]) (smv Sb) (fun _ => rfl) rfl (by kernel_rfl) rfl ?_
  refine wl_un (fun v => Instr.extract v 1) (.tmp 47) (.tuple #[smv Sb, .int .i64 (0)]) (.int .i64 (0)) (fun _ => rfl) rfl (by kernel_rfl) rfl ?_
  refine wl_alloc 42 #[.int .i64 0, .int .i64 0, .int .i64 0, .int .i64 0, .int .i64 0, .int .u64 0, .int .u64 0, .int .u64 0, .int .u64 0, .int .u64 0, .bool false, .bool false, .int .u64 0, .int .u64 0, .int .u64 0, .int .u64 0, .int .i64 0, .bool false, .int .u64 0, .int .u64 0, .int .u64 0, .int .u64 0, .int .i64 0] rfl (fun _ => by kernel_rfl) rfl ?_
  intro k6 w17 hk hz hq Q6
  have ne_k1_k6 : k1 ≠ k6 := by have := Q1.lt; omega
  have ne_k2_k6 : k2 ≠ k6 := by have := Q2.lt; omega
  have ne_k3_k6 : k3 ≠ k6 := by have := Q3.lt; omega
  have ne_k4_k6 : k4 ≠ k6 := by have := Q4.lt; omega
  have ne_k5_k6 : k5 ≠ k6 := by have := Q5.lt; omega
  have N_k6 : w.heap.size ≤ k6 := by have := M.size; omega
  replace hG := hG.push (Nat.le_of_eq hk) (by omega) hq
  replace Q1 := Q1.mo hq
  replace Q2 := Q2.mo hq
  replace Q3 := Q3.mo hq
  replace Q4 := Q4.mo hq
  replace Q5 := Q5.mo hq
  replace M := M.trans hq
  clear hk hz hq
  refine wl_stx2 42 (.tmp 5) (.tmp 50) k6 0 ((sml Sb).toArray) [.int .i64 0, .int .i64 0, .int .i64 0, .int .i64 0, .int .i64 0, .int .u64 0, .int .u64 0, .int .u64 0, .int .u64 0, .int .u64 0, .bool false, .bool false, .int .u64 0, .int .u64 0, .int .u64 0, .int .u64 0, .int .i64 0, .bool false, .int .u64 0, .int .u64 0, .int .u64 0, .int .u64 0, .int .i64 0] (sml Sb) Q6 rfl rfl rfl rfl rfl zs42 rfl rfl rfl ?_
  intro w18 hT Qn
  replace Q6 := Qn
  clear Qn
  replace Q1 := hT.other _ _ ne_k1_k6 Q1
  replace Q2 := hT.other _ _ ne_k2_k6 Q2
  replace Q3 := hT.other _ _ ne_k3_k6 Q3
  replace Q4 := hT.other _ _ ne_k4_k6 Q4
  replace Q5 := hT.other _ _ ne_k5_k6 Q5
  replace hG := hG.st hT (by simp)
  replace M := (Mk.refl (fun j => j = k6) _ |>.st hT rfl).mo M (fun _ e => e ▸ N_k6)
  clear hT
  refine wl_mv (.tmp 51) (.int .i64 (0)) (fun _ => rfl) rfl rfl ?_
  refine w_nil ?_
  refine xn_then ?_
  refine w_seq ?_
  refine w_reg ?_
  refine wl_mv (.tmp 2) (.int .i64 (0)) (fun _ => rfl) rfl rfl ?_
  refine wl_bin (fun x y => do eqGuard .eql 25 (.tmp 52) (.const (.int .i64 (0))) x y; binOp .eql 25 x y) (.tmp 52) (.const (.int .i64 (0))) (.int .i64 (0)) (.int .i64 (0)) (.bool true) (fun _ => rfl) rfl rfl (by kernel_rfl) rfl ?_
  refine wl_mv (.tmp 53) (.bool true) (fun _ => rfl) rfl rfl ?_
  refine wl_mv (.tmp 4) (.int .i64 (0)) (fun _ => rfl) rfl rfl ?_
  refine wl_bin (fun x y => do eqGuard .eql 25 (.tmp 55) (.const (.int .i64 (0))) x y; binOp .eql 25 x y) (.tmp 55) (.const (.int .i64 (0))) (.int .i64 (0)) (.int .i64 (0)) (.bool true) (fun _ => rfl) rfl rfl (by kernel_rfl) rfl ?_
  refine wl_pick (.tmp 54) (.tmp 56) (.const (.bool false)) true (.bool true) (fun _ => rfl) rfl rfl rfl ?_
  refine wl_mv (.tmp 57) (.bool true) (fun _ => rfl) rfl rfl ?_
  refine wl_mv (.tmp 6) (.int .i64 (0)) (fun _ => rfl) rfl rfl ?_
  refine wl_bin (fun x y => do eqGuard .eql 25 (.tmp 59) (.const (.int .i64 (0))) x y; binOp .eql 25 x y) (.tmp 59) (.const (.int .i64 (0))) (.int .i64 (0)) (.int .i64 (0)) (.bool true) (fun _ => rfl) rfl rfl (by kernel_rfl) rfl ?_
  refine wl_pick (.tmp 58) (.tmp 60) (.const (.bool false)) true (.bool true) (fun _ => rfl) rfl rfl rfl ?_
  refine wl_mv (.tmp 61) (.bool true) (fun _ => rfl) rfl rfl ?_
  refine wl_un (fun v => Instr.fieldAt 42 v 1) (.tmp 3) (pt k5 0) (pt k5 1) (fun _ => rfl) rfl (by kernel_rfl) rfl ?_
  refine wl_load 3 (.tmp 63) (pt k5 1) (.int .i64 (Sa).f) rfl rfl (run_one Q5 3 1 rfl Try.underlying3 rfl) rfl ?_
  refine wl_bin (fun x y => do eqGuard .eql 3 (.tmp 64) (.const (.int .i64 (2))) x y; binOp .eql 3 x y) (.tmp 64) (.const (.int .i64 (2))) (.int .i64 (Sa).f) (.int .i64 (2)) (.bool true) (fun _ => rfl) rfl rfl (eqI qf _ _ _) rfl ?_
  refine wl_pick (.tmp 62) (.tmp 65) (.const (.bool false)) true (.bool true) (fun _ => rfl) rfl rfl rfl ?_
  refine wl_mv (.tmp 66) (.bool true) (fun _ => rfl) rfl rfl ?_
  refine wl_un (fun v => Instr.fieldAt 42 v 2) (.tmp 3) (pt k5 0) (pt k5 2) (fun _ => rfl) rfl (by kernel_rfl) rfl ?_
  refine wl_load 3 (.tmp 68) (pt k5 2) (.int .i64 (Sa).k) rfl rfl (run_one Q5 3 2 rfl Try.underlying3 rfl) rfl ?_
  refine wl_bin (fun x y => do eqGuard .eql 3 (.tmp 69) (.const (.int .i64 (1))) x y; binOp .eql 3 x y) (.tmp 69) (.const (.int .i64 (1))) (.int .i64 (Sa).k) (.int .i64 (1)) (.bool true) (fun _ => rfl) rfl rfl (eqI qk _ _ _) rfl ?_
  refine wl_pick (.tmp 67) (.tmp 70) (.const (.bool false)) true (.bool true) (fun _ => rfl) rfl rfl rfl ?_
  refine wl_mv (.tmp 71) (.bool true) (fun _ => rfl) rfl rfl ?_
  refine wl_un (fun v => Instr.fieldAt 42 v 5) (.tmp 3) (pt k5 0) (pt k5 5) (fun _ => rfl) rfl (by kernel_rfl) rfl ?_
  refine wl_bin (fun x y => Instr.indexAt 36 x y) (.tmp 73) (.const (.int .i64 (0))) (pt k5 5) (.int .i64 (0)) (pt k5 5) (fun _ => rfl) rfl rfl (by kernel_rfl) rfl ?_
  refine wl_load 34 (.tmp 74) (pt k5 5) (.int .u64 (l0 (Sa).tt)) rfl rfl (run_one Q5 34 5 rfl Try.underlying34 rfl) rfl ?_
  refine wl_bin (fun x y => do eqGuard .eql 34 (.tmp 75) (.const (.int .u64 (150))) x y; binOp .eql 34 x y) (.tmp 75) (.const (.int .u64 (150))) (.int .u64 (l0 (Sa).tt)) (.int .u64 (150)) (.bool true) (fun _ => rfl) rfl rfl (eqU qt _ _ _) rfl ?_
  refine wl_pick (.tmp 72) (.tmp 76) (.const (.bool false)) true (.bool true) (fun _ => rfl) rfl rfl rfl ?_
  refine wl_mv (.tmp 77) (.bool true) (fun _ => rfl) rfl rfl ?_
  refine wl_un (fun v => Instr.fieldAt 42 v 5) (.tmp 5) (pt k6 0) (pt k6 5) (fun _ => rfl) rfl (by kernel_rfl) rfl ?_
  refine wl_bin (fun x y => Instr.indexAt 36 x y) (.tmp 79) (.const (.int .i64 (0))) (pt k6 5) (.int .i64 (0)) (pt k6 5) (fun _ => rfl) rfl rfl (by kernel_rfl) rfl ?_
  refine wl_load 34 (.tmp 80) (pt k6 5) (.int .u64 (l0 (Sb).tt)) rfl rfl (run_one Q6 34 5 rfl Try.underlying34 rfl) rfl ?_
  refine wl_bin (fun x y => do eqGuard .eql 34 (.tmp 81) (.const (.int .u64 (650))) x y; binOp .eql 34 x y) (.tmp 81) (.const (.int .u64 (650))) (.int .u64 (l0 (Sb).tt)) (.int .u64 (650)) (.bool true) (fun _ => rfl) rfl rfl (eqU qu _ _ _) rfl ?_
  refine wl_pick (.tmp 78) (.tmp 82) (.const (.bool false)) true (.bool true) (fun _ => rfl) rfl rfl rfl ?_
  refine wl_mv (.tmp 83) (.bool true) (fun _ => rfl) rfl rfl ?_
  refine w_nil ?_
  refine xn_then ?_
  refine w_ret ?_
  exact w_ret1 _ (.bool true) rfl rfl ⟨rfl, M⟩
end
end G
end Go.Proofs.Ythfemlhmnjfjiaa
/-
  AggtreeBalanced: the law's walk.
-/
namespace Go.Proofs.Ythfemlhmnjfjiaa
open Go.RowKit
namespace G
section
variable {w : World}
theorem balanced_x (scs : List Int) (ps : Option Addr) (caps : Nat) (sc : List Op6) (p : Option Addr) (cap : Nat) (hgt64 : 64 < scs.length) : Calls Try.prog 4 #[.slice ps scs.length caps, .slice p sc.length cap] w fun e w' => e = .returned (.bool true) ∧ Mo w w' := by
  refine w_enter 138 Try.func4 Try.ntmps4 rfl rfl ?_
  have M : Mo w w := Mo.refl _
  refine w_seq ?_
  refine w_reg ?_
  refine wl_mv (.const (.bool false)) (.bool false) (fun _ => rfl) rfl rfl ?_
  refine w_nil ?_
  refine xn_then ?_
  refine w_seq ?_
  refine w_reg ?_
  refine wl_mv (.tmp 0) (.slice ps scs.length caps) (fun _ => rfl) rfl rfl ?_
  refine wl_call 7 [(.tmp 15)] _ [.slice ps scs.length caps] (.tuple #[pp none, .int .i64 (3)]) rfl rfl (fun _ _ => by kernel_rfl) (new_x hgt64) rfl ?_
  intro w1 hq
  replace M := M.trans hq
  clear hq
  refine wl_mv (.tmp 16) (.tuple #[pp none, .int .i64 (3)]) (fun _ => rfl) rfl rfl ?_
  refine wl_un (fun v => Instr.extract v 0) (.tmp 14) (.tuple #[pp none, .int .i64 (3)]) (pp none) (fun _ => rfl) rfl (by kernel_rfl) rfl ?_
  refine wl_un (fun v => Instr.extract v 1) (.tmp 14) (.tuple #[pp none, .int .i64 (3)]) (.int .i64 (3)) (fun _ => rfl) rfl (by kernel_rfl) rfl ?_
  refine wl_mv (.tmp 17) (pp none) (fun _ => rfl) rfl rfl ?_
  refine wl_mv (.tmp 18) (.int .i64 (3)) (fun _ => rfl) rfl rfl ?_
  refine w_nil ?_
  refine xn_then ?_
  refine w_seq ?_
  refine w_seq ?_
  refine w_reg ?_
  refine wl_call 8 [] _ [] (.bool true) rfl rfl (fun _ _ => by kernel_rfl) (begun_n _) rfl ?_
  intro w2 hq
  replace M := M.trans hq
  clear hq
  refine wl_un (fun v => Op.unary .not v) (.tmp 19) (.bool true) (.bool false) (fun _ => rfl) rfl (by kernel_rfl) rfl ?_
  refine wl_mv (.tmp 20) (.bool false) (fun _ => rfl) rfl rfl ?_
  refine wl_mv (.tmp 5) (pp none) (fun _ => rfl) rfl rfl ?_
  refine wl_bin (fun x y => do eqGuard .eql 24 (.tmp 22) (.const (.pointer none)) x y; binOp .eql 24 x y) (.tmp 22) (.const (.pointer none)) (pp none) (pp none) (.bool true) (fun _ => rfl) rfl rfl (eqT0 _ _ _) rfl ?_
  refine wl_mv (.tmp 6) (.int .i64 (3)) (fun _ => rfl) rfl rfl ?_
  refine wl_bin (fun x y => do eqGuard .neq 25 (.tmp 24) (.const (.int .i64 (0))) x y; binOp .neq 25 x y) (.tmp 24) (.const (.int .i64 (0))) (.int .i64 (3)) (.int .i64 (0)) (.bool true) (fun _ => rfl) rfl rfl (by kernel_rfl) rfl ?_
  refine wl_bin (fun x y => do eqGuard .neq 4 (.tmp 23) (.tmp 25) x y; binOp .neq 4 x y) (.tmp 23) (.tmp 25) (.bool true) (.bool true) (.bool false) (fun _ => rfl) rfl rfl (by kernel_rfl) rfl ?_
  refine wl_pick (.tmp 21) (.const (.bool true)) (.tmp 26) false (.bool false) (fun _ => rfl) rfl rfl rfl ?_
  refine w_nil ?_
  refine xn_then ?_
  refine w_condF rfl ?_
  refine w_skip ?_
  refine xn_then ?_
  refine w_seq ?_
  refine w_seq ?_
  refine w_reg ?_
  refine wl_mv (.tmp 5) (pp none) (fun _ => rfl) rfl rfl ?_
  refine wl_bin (fun x y => do eqGuard .eql 24 (.tmp 28) (.const (.pointer none)) x y; binOp .eql 24 x y) (.tmp 28) (.const (.pointer none)) (pp none) (pp none) (.bool true) (fun _ => rfl) rfl rfl (eqT0 _ _ _) rfl ?_
  refine w_nil ?_
  refine xn_then ?_
  refine w_condT rfl ?_
  refine w_seq ?_
  refine w_reg ?_
  refine wl_mv (.const (.bool true)) (.bool true) (fun _ => rfl) rfl rfl ?_
  refine w_nil ?_
  refine xn_then ?_
  refine w_ret ?_
  refine xr_then ?_
  exact w_ret1 _ (.bool true) rfl rfl ⟨rfl, M⟩
set_option maxHeartbeats 4000000 in
theorem balanced_k (scs : List Int) (ps : Option Addr) (caps : Nat) (sc : List Op6) (p : Option Addr) (cap : Nat) (hsc : ∀ o ∈ sc, o.ok) (hSN : SN w ps scs) (hSA : SA w p sc) (hn : sc.length ≤ 2000000000000) (hle64 : scs.length ≤ 64) : Calls Try.prog 4 #[.slice ps scs.length caps, .slice p sc.length cap] w fun e w' => e = .returned (.bool true) ∧ Mo w w' := by
  refine w_enter 138 Try.func4 Try.ntmps4 rfl rfl ?_
  have M : Mo w w := Mo.refl _
  refine w_seq ?_
  refine w_reg ?_
  refine wl_mv (.const (.bool false)) (.bool false) (fun _ => rfl) rfl rfl ?_
  refine w_nil ?_
  refine xn_then ?_
  refine w_seq ?_
  refine w_reg ?_
  refine wl_mv (.tmp 0) (.slice ps scs.length caps) (fun _ => rfl) rfl rfl ?_
  refine wl_callx 7 [(.tmp 15)] _ [.slice ps scs.length caps] rfl rfl (fun _ _ => by kernel_rfl) (new_g (n0 := w.heap.size) (ks := []) (sc := scs) (hSN.mo M) hle64 M.size (fun _ e => by cases e)) rfl ?_
  rintro _ w1 ⟨t, mb, rfl, hG, hscs, ht9, hq⟩
  refine ⟨_, rfl, ?_⟩
  replace M := M.trans hq
  clear hq
  refine wl_mv (.tmp 16) (.tuple #[pt t 0, .int .i64 (0)]) (fun _ => rfl) rfl rfl ?_
  refine wl_un (fun v => Instr.extract v 0) (.tmp 14) (.tuple #[pt t 0, .int .i64 (0)]) (pt t 0) (fun _ => rfl) rfl (by kernel_rfl) rfl ?_
  refine wl_un (fun v => Instr.extract v 1) (.tmp 14) (.tuple #[pt t 0, .int .i64 (0)]) (.int .i64 (0)) (fun _ => rfl) rfl (by kernel_rfl) rfl ?_
  refine wl_mv (.tmp 17) (pt t 0) (fun _ => rfl) rfl rfl ?_
  refine wl_mv (.tmp 18) (.int .i64 (0)) (fun _ => rfl) rfl rfl ?_
  refine w_nil ?_
  refine xn_then ?_
  refine w_seq ?_
  refine w_seq ?_
  refine w_reg ?_
  refine wl_call 8 [] _ [] (.bool true) rfl rfl (fun _ _ => by kernel_rfl) (begun_n _) rfl ?_
  intro w2 hq
  replace hG := hG.mo hq
  replace M := M.trans hq
  clear hq
  refine wl_un (fun v => Op.unary .not v) (.tmp 19) (.bool true) (.bool false) (fun _ => rfl) rfl (by kernel_rfl) rfl ?_
  refine wl_mv (.tmp 20) (.bool false) (fun _ => rfl) rfl rfl ?_
  refine wl_mv (.tmp 5) (pt t 0) (fun _ => rfl) rfl rfl ?_
  refine wl_bin (fun x y => do eqGuard .eql 24 (.tmp 22) (.const (.pointer none)) x y; binOp .eql 24 x y) (.tmp 22) (.const (.pointer none)) (pt t 0) (pp none) (.bool false) (fun _ => rfl) rfl rfl (eqT _ _ _ _) rfl ?_
  refine wl_mv (.tmp 6) (.int .i64 (0)) (fun _ => rfl) rfl rfl ?_
  refine wl_bin (fun x y => do eqGuard .neq 25 (.tmp 24) (.const (.int .i64 (0))) x y; binOp .neq 25 x y) (.tmp 24) (.const (.int .i64 (0))) (.int .i64 (0)) (.int .i64 (0)) (.bool false) (fun _ => rfl) rfl rfl (by kernel_rfl) rfl ?_
  refine wl_bin (fun x y => do eqGuard .neq 4 (.tmp 23) (.tmp 25) x y; binOp .neq 4 x y) (.tmp 23) (.tmp 25) (.bool false) (.bool false) (.bool false) (fun _ => rfl) rfl rfl (by kernel_rfl) rfl ?_
  refine wl_pick (.tmp 21) (.const (.bool true)) (.tmp 26) false (.bool false) (fun _ => rfl) rfl rfl rfl ?_
  refine w_nil ?_
  refine xn_then ?_
  refine w_condF rfl ?_
  refine w_skip ?_
  refine xn_then ?_
  refine w_seq ?_
  refine w_seq ?_
  refine w_reg ?_
  refine wl_mv (.tmp 5) (pt t 0) (fun _ => rfl) rfl rfl ?_
  refine wl_bin (fun x y => do eqGuard .eql 24 (.tmp 28) (.const (.pointer none)) x y; binOp .eql 24 x y) (.tmp 28) (.const (.pointer none)) (pt t 0) (pp none) (.bool false) (fun _ => rfl) rfl rfl (eqT _ _ _ _) rfl ?_
  refine w_nil ?_
  refine xn_then ?_
  refine w_condF rfl ?_
  refine w_skip ?_
  refine xn_then ?_
  refine w_seq ?_
  refine w_seq ?_
  refine w_reg ?_
  refine wl_mv (.tmp 1) (.slice p sc.length cap) (fun _ => rfl) rfl rfl ?_
  refine wl_val (.int .i64 ((sc.length : Int))) (len23 _ _ _ _ _ (by exact rfl) _ _ _ _ _ _) rfl ?_
  refine wl_mv (.const (.int .i64 (0))) (.int .i64 (0)) (fun _ => rfl) rfl rfl ?_
  refine w_nil ?_
  refine xn_then ?_
  refine w_block ?_
  refine w_loop (fun r l w1 => ∃ (i : Nat) (tr : T) (lk : Int), r + i = sc.length ∧ look l 30 = .slice p sc.length cap ∧ look l 31 = .int .i64 (sc.length : Int) ∧ look l 32 = .int .i64 (i : Int) ∧ look l 5 = pt t 0 ∧ GT w.heap.size [] w1 t mb tr lk ∧ tr.bw ∧ lk ≤ 200000 * i ∧ Mo w w1) sc.length ⟨0, .e, 0, by omega, rfl, rfl, rfl, rfl, hG, trivial, by decide, M⟩ ?_
  clear M hG
  rintro r l wl ⟨i, tr, lk, hr, e30, e31, e32, e5, hG, hb, hlk, M⟩
  have hle := hG.le
  have hkl := tr.kv_len
  have hl0 := hG.l0
  refine w_seq ?_
  cases hf0 : decide ((i : Int) < (sc.length : Int)) with
  | true =>
    have hf0p := of_decide_eq_true hf0
    refine w_reg ?_
    refine wl_bin (fun x y => do eqGuard .lss 3 (.tmp 32) (.tmp 31) x y; binOp .lss 3 x y) (.tmp 32) (.tmp 31) (.int .i64 (i : Int)) (.int .i64 (sc.length : Int)) (.bool true) (fun _ => rfl) e32 e31 (ltI hf0 _ _ _) rfl ?_
    refine w_nil ?_
    refine xn_then ?_
    refine w_seq ?_
    refine w_condT rfl ?_
    refine w_skip ?_
    refine xn_then ?_
    refine w_seq ?_
    refine w_block ?_
    refine w_seq ?_
    refine w_reg ?_
    obtain ⟨o, ho⟩ : ∃ o, sc[i]? = some o := ⟨sc[i]'(by omega), List.getElem?_eq_getElem _⟩
    have hok := hsc o (List.mem_of_getElem? ho)
    have hSVo := (hSA _ o ho).2
    obtain ⟨b, off, hpb, hbl, hrg⟩ := ((hSA.mo M) _ o ho).1
    refine wl_bin (fun x y => Instr.indexAt 23 x y) (.tmp 30) (.tmp 32) (.slice p sc.length cap) (.int .i64 (i : Int)) (pt b (off + i * 7)) (fun _ => rfl) e30 e32 (by rw [hpb]; exact ix23 b off i _ _ (by omega) _) rfl ?_
    refine wl_load 31 (.tmp 34) (pt b (off + i * 7)) (.agg #[.int .i64 (o.d), .int .i64 (o.a), .int .i64 (o.i), .slice o.p o.vs.length o.cap, .int .i64 (o.c), .int .i64 (o.f), .int .i64 (o.e)]) rfl rfl (SA.load hrg) rfl ?_
    refine wl_alloc 31 #[.int .i64 0, .int .i64 0, .int .i64 0, .slice none 0 0, .int .i64 0, .int .i64 0, .int .i64 0] rfl (fun _ => by kernel_rfl) rfl ?_
    intro k1 w11 hk hz hq Q1
    have N_k1 : w.heap.size ≤ k1 := by have := M.size; omega
    replace hG := hG.push (Nat.le_of_eq hk) (by omega) hq
    replace M := M.trans hq
    clear hk hz hq
    refine wl_stx2 31 (.tmp 8) (.tmp 35) k1 0 #[.int .i64 (o.d), .int .i64 (o.a), .int .i64 (o.i), .slice o.p o.vs.length o.cap, .int .i64 (o.c), .int .i64 (o.f), .int .i64 (o.e)] [.int .i64 0, .int .i64 0, .int .i64 0, .slice none 0 0, .int .i64 0, .int .i64 0, .int .i64 0] [.int .i64 (o.d), .int .i64 (o.a), .int .i64 (o.i), .slice o.p o.vs.length o.cap, .int .i64 (o.c), .int .i64 (o.f), .int .i64 (o.e)] Q1 rfl rfl rfl rfl rfl zs31 rfl rfl rfl ?_
    intro w12 hT Qn
    replace Q1 := Qn
    clear Qn
    replace hG := hG.st hT (by simp)
    replace M := (Mk.refl (fun j => j = k1) _ |>.st hT rfl).mo M (fun _ e => e ▸ N_k1)
    clear hT
    refine w_nil ?_
    refine xn_then ?_
    refine w_seq ?_
    refine w_reg ?_
    refine wl_mv (.tmp 5) (pt t 0) (fun _ => rfl) e5 rfl ?_
    refine wl_call 10 [(.tmp 36)] _ [pt t 0] (.int .i64 ((tr.kv.length : Int))) rfl rfl (fun _ _ => by kernel_rfl) (len_g hG) rfl ?_
    intro w13 hq
    replace Q1 := Q1.mo hq
    replace hG := hG.mo hq
    replace M := M.trans hq
    clear hq
    refine wl_mv (.tmp 5) (pt t 0) (fun _ => rfl) e5 rfl ?_
    refine wl_call 14 [(.tmp 38)] _ [pt t 0] (.int .i64 (lk)) rfl rfl (fun _ _ => by kernel_rfl) (looked_g hG) rfl ?_
    intro w14 hq
    replace Q1 := Q1.mo hq
    replace hG := hG.mo hq
    replace M := M.trans hq
    clear hq
    refine wl_mv (.tmp 37) (.int .i64 ((tr.kv.length : Int))) (fun _ => rfl) rfl rfl ?_
    refine wl_mv (.tmp 39) (.int .i64 (lk)) (fun _ => rfl) rfl rfl ?_
    refine w_nil ?_
    refine xn_then ?_
    refine w_seq ?_
    refine w_reg ?_
    refine wl_mv (.const (.int .i64 (24))) (.int .i64 (24)) (fun _ => rfl) rfl rfl ?_
    refine wl_mv (.const (.int .i64 (0))) (.int .i64 (0)) (fun _ => rfl) rfl rfl ?_
    refine w_nil ?_
    refine xn_then ?_
    refine w_cut (fun l w1 => ∃ (tr2 : T) (lk2 mn ls : Int), look l 30 = .slice p sc.length cap ∧ look l 31 = .int .i64 (sc.length : Int) ∧ look l 32 = .int .i64 (i : Int) ∧ look l 5 = pt t 0 ∧ look l 8 = pt k1 0 ∧ look l 9 = .int .i64 (tr.kv.length : Int) ∧ look l 10 = .int .i64 (lk) ∧ look l 11 = .int .i64 (mn) ∧ look l 12 = .int .i64 (ls) ∧ GT w.heap.size [k1] w1 t mb tr2 lk2 ∧ tr2.bw ∧ ls ≤ lk2 - lk ∧ 0 ≤ lk2 - lk ∧ lk2 - lk ≤ mn * (1 + (bitc (max tr.kv.length tr2.kv.length) : Int)) ∧ 0 ≤ mn * (1 + (bitc (max tr.kv.length tr2.kv.length) : Int)) ∧ mn * (1 + (bitc (max tr.kv.length tr2.kv.length) : Int)) ≤ 60000 ∧ At w1 k1 [.int .i64 (o.d), .int .i64 (o.a), .int .i64 (o.i), .slice o.p o.vs.length o.cap, .int .i64 (o.c), .int .i64 (o.f), .int .i64 (o.e)] ∧ Mo w w1) ?_ ?_
    · skip
      clear hG M Q1
      rintro l9 w9 ⟨tr2, lk2, mn, ls, f30, f31, f32, f5, f8, f9, f10, f11, f12, hG, hb2, hks, hk1, hk2, hk8, hk9, Q1, M⟩
      have hle2 := hG.le
      have hkl2 := tr2.kv_len
      have hz2 := bm_hi hle2 hle2
      refine w_seq ?_
      refine w_reg ?_
      refine wl_mv (.tmp 5) (pt t 0) (fun _ => rfl) f5 rfl ?_
      refine wl_call 14 [(.tmp 78)] _ [pt t 0] (.int .i64 (lk2)) rfl rfl (fun _ _ => by kernel_rfl) (looked_g hG) rfl ?_
      intro w41 hq
      replace Q1 := Q1.mo hq
      replace hG := hG.mo hq
      replace M := M.trans hq
      clear hq
      refine wl_mv (.tmp 10) (.int .i64 (lk)) (fun _ => rfl) f10 rfl ?_
      refine wl_bin (fun x y => do eqGuard .sub 2 (.tmp 79) (.tmp 80) x y; binOp .sub 2 x y) (.tmp 79) (.tmp 80) (.int .i64 (lk2)) (.int .i64 (lk)) (.int .i64 (lk2 - lk)) (fun _ => rfl) rfl rfl (subL (by omega) (by omega) _ _ _) rfl ?_
      refine wl_mv (.tmp 81) (.int .i64 (lk2 - lk)) (fun _ => rfl) rfl rfl ?_
      refine w_nil ?_
      refine xn_then ?_
      refine w_seq ?_
      refine w_seq ?_
      refine w_reg ?_
      refine wl_mv (.tmp 5) (pt t 0) (fun _ => rfl) f5 rfl ?_
      refine wl_call 19 [(.tmp 82)] _ [pt t 0] (.int .i64 ((tr2.ht : Int))) rfl rfl (fun _ _ => by kernel_rfl) (depth_g hG) rfl ?_
      intro w42 hq
      replace Q1 := Q1.mo hq
      replace hG := hG.mo hq
      replace M := M.trans hq
      clear hq
      refine wl_mv (.tmp 5) (pt t 0) (fun _ => rfl) f5 rfl ?_
      refine wl_call 10 [(.tmp 84)] _ [pt t 0] (.int .i64 ((tr2.kv.length : Int))) rfl rfl (fun _ _ => by kernel_rfl) (len_g hG) rfl ?_
      intro w43 hq
      replace Q1 := Q1.mo hq
      replace hG := hG.mo hq
      replace M := M.trans hq
      clear hq
      have hbl1 := bitc_le (tr2.kv.length)
      refine wl_call 20 [(.tmp 85)] _ [.int .i64 ((tr2.kv.length : Int))] (.int .i64 ((bitc (tr2.kv.length) : Int))) rfl rfl (fun _ _ => by kernel_rfl) (bits_n (tr2.kv.length) _ (by omega) (by omega)) rfl ?_
      intro w44 hq
      replace Q1 := Q1.mo hq
      replace hG := hG.mo hq
      replace M := M.trans hq
      clear hq
      refine wl_bin (fun x y => do eqGuard .mul 3 (.const (.int .i64 (3))) (.tmp 86) x y; binOp .mul 3 x y) (.const (.int .i64 (3))) (.tmp 86) (.int .i64 (3)) (.int .i64 ((bitc (tr2.kv.length) : Int))) (.int .i64 (3 * ((bitc (tr2.kv.length) : Int)))) (fun _ => rfl) rfl rfl (mulI (by omega) (by omega) _ _ _) rfl ?_
      have hbt := (ht_bits hb2 hle2).1
      rw [show tr2.sz.toNat = tr2.kv.length by omega] at hbt
      refine wl_bin (fun x y => do eqGuard .gtr 3 (.tmp 83) (.tmp 87) x y; binOp .gtr 3 x y) (.tmp 83) (.tmp 87) (.int .i64 ((tr2.ht : Int))) (.int .i64 (3 * ((bitc (tr2.kv.length) : Int)))) (.bool false) (fun _ => rfl) rfl rfl (gtI (decide_eq_false (by omega)) _ _ _) rfl ?_
      refine wl_mv (.tmp 88) (.bool false) (fun _ => rfl) rfl rfl ?_
      refine wl_mv (.tmp 13) (.int .i64 (lk2 - lk)) (fun _ => rfl) rfl rfl ?_
      refine wl_mv (.tmp 12) (.int .i64 (ls)) (fun _ => rfl) f12 rfl ?_
      refine wl_bin (fun x y => do eqGuard .lss 2 (.tmp 90) (.tmp 91) x y; binOp .lss 2 x y) (.tmp 90) (.tmp 91) (.int .i64 (lk2 - lk)) (.int .i64 (ls)) (.bool false) (fun _ => rfl) rfl rfl (ltL (decide_eq_false (by omega)) _ _ _) rfl ?_
      refine wl_pick (.tmp 89) (.const (.bool true)) (.tmp 92) false (.bool false) (fun _ => rfl) rfl rfl rfl ?_
      refine wl_mv (.tmp 93) (.bool false) (fun _ => rfl) rfl rfl ?_
      refine wl_mv (.tmp 13) (.int .i64 (lk2 - lk)) (fun _ => rfl) rfl rfl ?_
      refine wl_mv (.tmp 11) (.int .i64 (mn)) (fun _ => rfl) f11 rfl ?_
      refine wl_mv (.tmp 9) (.int .i64 (tr.kv.length : Int)) (fun _ => rfl) f9 rfl ?_
      refine wl_mv (.tmp 5) (pt t 0) (fun _ => rfl) f5 rfl ?_
      refine wl_call 10 [(.tmp 98)] _ [pt t 0] (.int .i64 ((tr2.kv.length : Int))) rfl rfl (fun _ _ => by kernel_rfl) (len_g hG) rfl ?_
      intro w45 hq
      replace Q1 := Q1.mo hq
      replace hG := hG.mo hq
      replace M := M.trans hq
      clear hq
      refine wl_val (.int .i64 (((max tr.kv.length tr2.kv.length : Nat) : Int))) (maxN tr.kv.length tr2.kv.length _ _ _ (by exact rfl) (by exact rfl) _ _ _ _ _ _) rfl ?_
      have hbl2 := bitc_le (max tr.kv.length tr2.kv.length)
      refine wl_call 20 [(.tmp 100)] _ [.int .i64 (((max tr.kv.length tr2.kv.length : Nat) : Int))] (.int .i64 ((bitc (max tr.kv.length tr2.kv.length) : Int))) rfl rfl (fun _ _ => by kernel_rfl) (bits_n (max tr.kv.length tr2.kv.length) _ (by omega) (by omega)) rfl ?_
      intro w46 hq
      replace Q1 := Q1.mo hq
      replace hG := hG.mo hq
      replace M := M.trans hq
      clear hq
      refine wl_bin (fun x y => do eqGuard .add 3 (.const (.int .i64 (1))) (.tmp 101) x y; binOp .add 3 x y) (.const (.int .i64 (1))) (.tmp 101) (.int .i64 (1)) (.int .i64 ((bitc (max tr.kv.length tr2.kv.length) : Int))) (.int .i64 (1 + ((bitc (max tr.kv.length tr2.kv.length) : Int)))) (fun _ => rfl) rfl rfl (addI (by omega) (by omega) _ _ _) rfl ?_
      refine wl_bin (fun x y => do eqGuard .mul 2 (.tmp 96) (.tmp 102) x y; binOp .mul 2 x y) (.tmp 96) (.tmp 102) (.int .i64 (mn)) (.int .i64 (1 + ((bitc (max tr.kv.length tr2.kv.length) : Int)))) (.int .i64 (mn * (1 + ((bitc (max tr.kv.length tr2.kv.length) : Int))))) (fun _ => rfl) rfl rfl (mulL (by omega) (by omega) _ _ _) rfl ?_
      refine wl_bin (fun x y => do eqGuard .gtr 2 (.tmp 95) (.tmp 103) x y; binOp .gtr 2 x y) (.tmp 95) (.tmp 103) (.int .i64 (lk2 - lk)) (.int .i64 (mn * (1 + ((bitc (max tr.kv.length tr2.kv.length) : Int))))) (.bool false) (fun _ => rfl) rfl rfl (gtL (decide_eq_false (by omega)) _ _ _) rfl ?_
      refine wl_pick (.tmp 94) (.const (.bool true)) (.tmp 104) false (.bool false) (fun _ => rfl) rfl rfl rfl ?_
      refine w_nil ?_
      refine xn_then ?_
      refine w_condF rfl ?_
      refine w_skip ?_
      refine xn_then ?_
      refine w_seq ?_
      refine w_reg ?_
      refine wl_mv (.tmp 5) (pt t 0) (fun _ => rfl) f5 rfl ?_
      refine wl_call 14 [(.tmp 106)] _ [pt t 0] (.int .i64 (lk2)) rfl rfl (fun _ _ => by kernel_rfl) (looked_g hG) rfl ?_
      intro w47 hq
      replace Q1 := Q1.mo hq
      replace hG := hG.mo hq
      replace M := M.trans hq
      clear hq
      refine wl_mv (.tmp 107) (.int .i64 (lk2)) (fun _ => rfl) rfl rfl ?_
      refine w_nil ?_
      refine xn_then ?_
      refine w_seq ?_
      refine w_reg ?_
      refine wl_mv (.tmp 5) (pt t 0) (fun _ => rfl) f5 rfl ?_
      refine wl_un (fun v => Instr.fieldAt 31 v 4) (.tmp 8) (pt k1 0) (pt k1 4) (fun _ => rfl) f8 (by kernel_rfl) rfl ?_
      refine wl_load 3 (.tmp 109) (pt k1 4) (.int .i64 (o.c)) rfl rfl (run_one Q1 3 4 rfl Try.underlying3 rfl) rfl ?_
      refine wl_un (fun v => Instr.fieldAt 31 v 5) (.tmp 8) (pt k1 0) (pt k1 5) (fun _ => rfl) f8 (by kernel_rfl) rfl ?_
      refine wl_load 3 (.tmp 111) (pt k1 5) (.int .i64 (o.f)) rfl rfl (run_one Q1 3 5 rfl Try.underlying3 rfl) rfl ?_
      refine wl_un (fun v => Instr.fieldAt 31 v 6) (.tmp 8) (pt k1 0) (pt k1 6) (fun _ => rfl) f8 (by kernel_rfl) rfl ?_
      refine wl_load 3 (.tmp 113) (pt k1 6) (.int .i64 (o.e)) rfl rfl (run_one Q1 3 6 rfl Try.underlying3 rfl) rfl ?_
      refine wl_callx 11 [(.tmp 108), (.tmp 110), (.tmp 112), (.tmp 114)] _ [pt t 0, .int .i64 (o.c), .int .i64 (o.f), .int .i64 (o.e)] rfl rfl (fun _ _ => by kernel_rfl) (qry_b hG hb2 (by omega)) rfl ?_
      rintro _ w48 ⟨S9, cd9, lk3, rfl, hG, hk4, hk5, hM2⟩
      refine ⟨_, rfl, ?_⟩
      replace M := Wr.mo hM2 M (Nat.le_refl _)
      replace Q1 := Wr.at hM2 Q1 (by simp)
      clear hM2
      refine w_nil ?_
      refine xn_then ?_
      refine w_seq ?_
      refine w_seq ?_
      refine w_reg ?_
      refine wl_mv (.tmp 5) (pt t 0) (fun _ => rfl) f5 rfl ?_
      refine wl_call 14 [(.tmp 116)] _ [pt t 0] (.int .i64 (lk3)) rfl rfl (fun _ _ => by kernel_rfl) (looked_g hG) rfl ?_
      intro w49 hq
      replace Q1 := Q1.mo hq
      replace hG := hG.mo hq
      replace M := M.trans hq
      clear hq
      refine wl_mv (.tmp 10) (.int .i64 (lk2)) (fun _ => rfl) rfl rfl ?_
      refine wl_bin (fun x y => do eqGuard .sub 2 (.tmp 117) (.tmp 118) x y; binOp .sub 2 x y) (.tmp 117) (.tmp 118) (.int .i64 (lk3)) (.int .i64 (lk2)) (.int .i64 (lk3 - lk2)) (fun _ => rfl) rfl rfl (subL (by omega) (by omega) _ _ _) rfl ?_
      refine wl_mv (.tmp 5) (pt t 0) (fun _ => rfl) f5 rfl ?_
      refine wl_call 10 [(.tmp 120)] _ [pt t 0] (.int .i64 ((tr2.kv.length : Int))) rfl rfl (fun _ _ => by kernel_rfl) (len_g hG) rfl ?_
      intro w50 hq
      replace Q1 := Q1.mo hq
      replace hG := hG.mo hq
      replace M := M.trans hq
      clear hq
      have hbl3 := bitc_le (tr2.kv.length)
      refine wl_call 20 [(.tmp 121)] _ [.int .i64 ((tr2.kv.length : Int))] (.int .i64 ((bitc (tr2.kv.length) : Int))) rfl rfl (fun _ _ => by kernel_rfl) (bits_n (tr2.kv.length) _ (by omega) (by omega)) rfl ?_
      intro w51 hq
      replace Q1 := Q1.mo hq
      replace hG := hG.mo hq
      replace M := M.trans hq
      clear hq
      refine wl_bin (fun x y => do eqGuard .add 3 (.const (.int .i64 (1))) (.tmp 122) x y; binOp .add 3 x y) (.const (.int .i64 (1))) (.tmp 122) (.int .i64 (1)) (.int .i64 ((bitc (tr2.kv.length) : Int))) (.int .i64 (1 + ((bitc (tr2.kv.length) : Int)))) (fun _ => rfl) rfl rfl (addI (by omega) (by omega) _ _ _) rfl ?_
      refine wl_bin (fun x y => do eqGuard .mul 2 (.const (.int .i64 (24))) (.tmp 123) x y; binOp .mul 2 x y) (.const (.int .i64 (24))) (.tmp 123) (.int .i64 (24)) (.int .i64 (1 + ((bitc (tr2.kv.length) : Int)))) (.int .i64 (24 * (1 + ((bitc (tr2.kv.length) : Int))))) (fun _ => rfl) rfl rfl (mulL (by omega) (by omega) _ _ _) rfl ?_
      have hk5b := hk5
      unfold Bm at hk5b
      rw [Nat.max_self] at hk5b
      refine wl_bin (fun x y => do eqGuard .gtr 2 (.tmp 119) (.tmp 124) x y; binOp .gtr 2 x y) (.tmp 119) (.tmp 124) (.int .i64 (lk3 - lk2)) (.int .i64 (24 * (1 + ((bitc (tr2.kv.length) : Int))))) (.bool false) (fun _ => rfl) rfl rfl (gtL (decide_eq_false (by omega)) _ _ _) rfl ?_
      refine w_nil ?_
      refine xn_then ?_
      refine w_condF rfl ?_
      refine w_skip ?_
      refine xn_then ?_
      refine w_seq ?_
      refine w_reg ?_
      refine wl_mv (.tmp 5) (pt t 0) (fun _ => rfl) f5 rfl ?_
      refine wl_call 14 [(.tmp 126)] _ [pt t 0] (.int .i64 (lk3)) rfl rfl (fun _ _ => by kernel_rfl) (looked_g hG) rfl ?_
      intro w52 hq
      replace Q1 := Q1.mo hq
      replace hG := hG.mo hq
      replace M := M.trans hq
      clear hq
      refine wl_mv (.tmp 127) (.int .i64 (lk3)) (fun _ => rfl) rfl rfl ?_
      refine w_nil ?_
      refine xn_then ?_
      refine w_seq ?_
      refine w_reg ?_
      refine wl_mv (.tmp 5) (pt t 0) (fun _ => rfl) f5 rfl ?_
      refine wl_un (fun v => Instr.fieldAt 31 v 4) (.tmp 8) (pt k1 0) (pt k1 4) (fun _ => rfl) f8 (by kernel_rfl) rfl ?_
      refine wl_load 3 (.tmp 129) (pt k1 4) (.int .i64 (o.c)) rfl rfl (run_one Q1 3 4 rfl Try.underlying3 rfl) rfl ?_
      refine wl_callx 12 [(.tmp 128), (.tmp 130)] _ [pt t 0, .int .i64 (o.c)] rfl rfl (fun _ _ => by kernel_rfl) (sum_any hG (by omega)) rfl ?_
      rintro _ w53 ⟨S8, cd8, lk4, rfl, hG, _, hk6, hk7, hM2⟩
      refine ⟨_, rfl, ?_⟩
      replace M := Wr.mo hM2 M (Nat.le_refl _)
      replace Q1 := Wr.at hM2 Q1 (by simp)
      clear hM2
      refine w_nil ?_
      refine xn_then ?_
      refine w_seq ?_
      refine w_reg ?_
      refine wl_mv (.tmp 5) (pt t 0) (fun _ => rfl) f5 rfl ?_
      refine wl_call 14 [(.tmp 132)] _ [pt t 0] (.int .i64 (lk4)) rfl rfl (fun _ _ => by kernel_rfl) (looked_g hG) rfl ?_
      intro w54 hq
      replace Q1 := Q1.mo hq
      replace hG := hG.mo hq
      replace M := M.trans hq
      clear hq
      refine wl_mv (.tmp 10) (.int .i64 (lk3)) (fun _ => rfl) rfl rfl ?_
      refine wl_bin (fun x y => do eqGuard .sub 2 (.tmp 133) (.tmp 134) x y; binOp .sub 2 x y) (.tmp 133) (.tmp 134) (.int .i64 (lk4)) (.int .i64 (lk3)) (.int .i64 (lk4 - lk3)) (fun _ => rfl) rfl rfl (subL (by omega) (by omega) _ _ _) rfl ?_
      refine wl_bin (fun x y => do eqGuard .gtr 2 (.tmp 135) (.const (.int .i64 (1))) x y; binOp .gtr 2 x y) (.tmp 135) (.const (.int .i64 (1))) (.int .i64 (lk4 - lk3)) (.int .i64 (1)) (.bool false) (fun _ => rfl) rfl rfl (gtL (decide_eq_false (by omega)) _ _ _) rfl ?_
      refine w_nil ?_
      refine xn_then ?_
      refine w_condF rfl ?_
      refine w_skip ?_
      refine xn_blk ?_
      refine xn_then ?_
      refine w_reg ?_
      refine wl_bin (fun x y => do eqGuard .add 3 (.tmp 32) (.const (.int .i64 (1))) x y; binOp .add 3 x y) (.tmp 32) (.const (.int .i64 (1))) (.int .i64 (i : Int)) (.int .i64 (1)) (.int .i64 ((i : Int) + 1)) (fun _ => rfl) f32 rfl (addI (by omega) (by omega) _ _ _) rfl ?_
      refine wl_mv (.tmp 137) (.int .i64 ((i : Int) + 1)) (fun _ => rfl) rfl rfl ?_
      refine w_nil ?_
      exact xn_loop (r - 1) (by omega) ⟨i + 1, tr2, lk4, by omega, f30, f31, rfl, f5, hG.pop (fun _ e => by cases e), hb2, by omega, M⟩
    · skip
      refine w_seq ?_
      refine w_reg ?_
      refine wl_un (fun v => Instr.fieldAt 31 v 0) (.tmp 8) (pt k1 0) (pt k1 0) (fun _ => rfl) rfl (by kernel_rfl) rfl ?_
      refine wl_load 3 (.tmp 40) (pt k1 0) (.int .i64 (o.d)) rfl rfl (run_one Q1 3 0 rfl Try.underlying3 rfl) rfl ?_
      refine w_nil ?_
      refine xn_then ?_
      refine w_block ?_
      refine w_seq ?_
      cases hf1 : decide (o.d = 0) with
      | true =>
        have hf1p := of_decide_eq_true hf1
        refine w_reg ?_
        refine wl_bin (fun x y => do eqGuard .eql 3 (.tmp 41) (.const (.int .i64 (0))) x y; binOp .eql 3 x y) (.tmp 41) (.const (.int .i64 (0))) (.int .i64 (o.d)) (.int .i64 (0)) (.bool true) (fun _ => rfl) rfl rfl (eqI hf1 _ _ _) rfl ?_
        refine wl_mv (.tmp 52) (.bool true) (fun _ => rfl) rfl rfl ?_
        refine w_nil ?_
        refine xn_then ?_
        refine w_condT rfl ?_
        refine w_seq ?_
        cases hf2 : decide (insE mb.sc.length tr (o.a) (o.i) o.vs.length = 0) with
        | true =>
          have hf2p := of_decide_eq_true hf2
          refine w_reg ?_
          refine wl_mv (.tmp 5) (pt t 0) (fun _ => rfl) e5 rfl ?_
          refine wl_un (fun v => Instr.fieldAt 31 v 1) (.tmp 8) (pt k1 0) (pt k1 1) (fun _ => rfl) rfl (by kernel_rfl) rfl ?_
          refine wl_load 3 (.tmp 54) (pt k1 1) (.int .i64 (o.a)) rfl rfl (run_one Q1 3 1 rfl Try.underlying3 rfl) rfl ?_
          refine wl_un (fun v => Instr.fieldAt 31 v 2) (.tmp 8) (pt k1 0) (pt k1 2) (fun _ => rfl) rfl (by kernel_rfl) rfl ?_
          refine wl_load 2 (.tmp 56) (pt k1 2) (.int .i64 (o.i)) rfl rfl (run_one Q1 2 2 rfl Try.underlying2 rfl) rfl ?_
          refine wl_un (fun v => Instr.fieldAt 31 v 3) (.tmp 8) (pt k1 0) (pt k1 3) (fun _ => rfl) rfl (by kernel_rfl) rfl ?_
          refine wl_load 29 (.tmp 58) (pt k1 3) (.slice o.p o.vs.length o.cap) rfl rfl (run_one Q1 29 3 rfl Try.underlying29 rfl) rfl ?_
          refine wl_callx 9 [(.tmp 53), (.tmp 55), (.tmp 57), (.tmp 59)] _ [pt t 0, .int .i64 (o.a), .int .i64 (o.i), .slice o.p o.vs.length o.cap] rfl rfl (fun _ _ => by kernel_rfl) (ins_b hG hb hok.i (by omega) (fun w9 m9 => hSVo.mo (Wr.mo m9 M (Nat.le_refl _))) hok.v) rfl ?_
          rintro _ w15 ⟨tr2, lk2, rfl, hG, hb2, hk1, hk2, hk3, hM2⟩
          refine ⟨_, rfl, ?_⟩
          have hle2 := hG.le
          have hkl2 := tr2.kv_len
          have hz1 := bm_hi hle hle2
          have hz2 := bm_hi hle2 hle2
          replace M := Wr.mo hM2 M (Nat.le_refl _)
          replace Q1 := Wr.at hM2 Q1 (by simp)
          clear hM2
          refine wl_bin (fun x y => do eqGuard .eql 25 (.tmp 60) (.const (.int .i64 (0))) x y; binOp .eql 25 x y) (.tmp 60) (.const (.int .i64 (0))) (.int .i64 (insE mb.sc.length tr (o.a) (o.i) o.vs.length)) (.int .i64 (0)) (.bool true) (fun _ => rfl) rfl rfl (eqE hf2 _ _ _) rfl ?_
          refine w_nil ?_
          refine xn_then ?_
          refine w_condT rfl ?_
          refine w_reg ?_
          refine wl_mv (.const (.int .i64 (1))) (.int .i64 (1)) (fun _ => rfl) rfl rfl ?_
          refine w_nil ?_
          refine xn_blk ?_
          have hk2b := hk2
          unfold Bm at hk2b hz1
          exact xn_cut ⟨tr2, lk2, 24, 1, e30, e31, e32, e5, rfl, rfl, rfl, rfl, rfl, hG, hb2, by have := hk3 (of_decide_eq_true hf2); omega, by omega, by omega, by omega, by omega, Q1, M⟩
        | false =>
          have hf2p := of_decide_eq_false hf2
          refine w_reg ?_
          refine wl_mv (.tmp 5) (pt t 0) (fun _ => rfl) e5 rfl ?_
          refine wl_un (fun v => Instr.fieldAt 31 v 1) (.tmp 8) (pt k1 0) (pt k1 1) (fun _ => rfl) rfl (by kernel_rfl) rfl ?_
          refine wl_load 3 (.tmp 54) (pt k1 1) (.int .i64 (o.a)) rfl rfl (run_one Q1 3 1 rfl Try.underlying3 rfl) rfl ?_
          refine wl_un (fun v => Instr.fieldAt 31 v 2) (.tmp 8) (pt k1 0) (pt k1 2) (fun _ => rfl) rfl (by kernel_rfl) rfl ?_
          refine wl_load 2 (.tmp 56) (pt k1 2) (.int .i64 (o.i)) rfl rfl (run_one Q1 2 2 rfl Try.underlying2 rfl) rfl ?_
          refine wl_un (fun v => Instr.fieldAt 31 v 3) (.tmp 8) (pt k1 0) (pt k1 3) (fun _ => rfl) rfl (by kernel_rfl) rfl ?_
          refine wl_load 29 (.tmp 58) (pt k1 3) (.slice o.p o.vs.length o.cap) rfl rfl (run_one Q1 29 3 rfl Try.underlying29 rfl) rfl ?_
          refine wl_callx 9 [(.tmp 53), (.tmp 55), (.tmp 57), (.tmp 59)] _ [pt t 0, .int .i64 (o.a), .int .i64 (o.i), .slice o.p o.vs.length o.cap] rfl rfl (fun _ _ => by kernel_rfl) (ins_b hG hb hok.i (by omega) (fun w9 m9 => hSVo.mo (Wr.mo m9 M (Nat.le_refl _))) hok.v) rfl ?_
          rintro _ w15 ⟨tr2, lk2, rfl, hG, hb2, hk1, hk2, hk3, hM2⟩
          refine ⟨_, rfl, ?_⟩
          have hle2 := hG.le
          have hkl2 := tr2.kv_len
          have hz1 := bm_hi hle hle2
          have hz2 := bm_hi hle2 hle2
          replace M := Wr.mo hM2 M (Nat.le_refl _)
          replace Q1 := Wr.at hM2 Q1 (by simp)
          clear hM2
          refine wl_bin (fun x y => do eqGuard .eql 25 (.tmp 60) (.const (.int .i64 (0))) x y; binOp .eql 25 x y) (.tmp 60) (.const (.int .i64 (0))) (.int .i64 (insE mb.sc.length tr (o.a) (o.i) o.vs.length)) (.int .i64 (0)) (.bool false) (fun _ => rfl) rfl rfl (eqE hf2 _ _ _) rfl ?_
          refine w_nil ?_
          refine xn_then ?_
          refine w_condF rfl ?_
          refine w_skip ?_
          refine xn_blk ?_
          have hk2b := hk2
          unfold Bm at hk2b hz1
          exact xn_cut ⟨tr2, lk2, 24, 0, e30, e31, e32, e5, rfl, rfl, rfl, rfl, rfl, hG, hb2, by omega, by omega, by omega, by omega, by omega, Q1, M⟩
      | false =>
        have hf1p := of_decide_eq_false hf1
        refine w_reg ?_
        refine wl_bin (fun x y => do eqGuard .eql 3 (.tmp 41) (.const (.int .i64 (0))) x y; binOp .eql 3 x y) (.tmp 41) (.const (.int .i64 (0))) (.int .i64 (o.d)) (.int .i64 (0)) (.bool false) (fun _ => rfl) rfl rfl (eqI hf1 _ _ _) rfl ?_
        refine wl_mv (.tmp 52) (.bool false) (fun _ => rfl) rfl rfl ?_
        refine w_nil ?_
        refine xn_then ?_
        refine w_condF rfl ?_
        refine w_seq ?_
        cases hf2 : decide (o.d = 1) with
        | true =>
          have hf2p := of_decide_eq_true hf2
          refine w_reg ?_
          refine wl_bin (fun x y => do eqGuard .eql 3 (.tmp 41) (.const (.int .i64 (1))) x y; binOp .eql 3 x y) (.tmp 41) (.const (.int .i64 (1))) (.int .i64 (o.d)) (.int .i64 (1)) (.bool true) (fun _ => rfl) rfl rfl (eqI hf2 _ _ _) rfl ?_
          refine wl_mv (.tmp 63) (.bool true) (fun _ => rfl) rfl rfl ?_
          refine w_nil ?_
          refine xn_then ?_
          refine w_condT rfl ?_
          refine w_reg ?_
          refine wl_mv (.tmp 5) (pt t 0) (fun _ => rfl) e5 rfl ?_
          refine wl_un (fun v => Instr.fieldAt 31 v 2) (.tmp 8) (pt k1 0) (pt k1 2) (fun _ => rfl) rfl (by kernel_rfl) rfl ?_
          refine wl_load 2 (.tmp 65) (pt k1 2) (.int .i64 (o.i)) rfl rfl (run_one Q1 2 2 rfl Try.underlying2 rfl) rfl ?_
          refine wl_callx 15 [(.tmp 64), (.tmp 66)] _ [pt t 0, .int .i64 (o.i)] rfl rfl (fun _ _ => by kernel_rfl) (del_b hG hb hok.i (by omega)) rfl ?_
          rintro _ w15 ⟨p9, c9, tr2, lk2, rfl, hG, hb2, hk1, hk2, hM2⟩
          refine ⟨_, rfl, ?_⟩
          have hle2 := hG.le
          have hkl2 := tr2.kv_len
          have hz1 := bm_hi hle hle2
          have hz2 := bm_hi hle2 hle2
          replace M := Wr.mo hM2 M (Nat.le_refl _)
          replace Q1 := Wr.at hM2 Q1 (by simp)
          clear hM2
          refine w_nil ?_
          refine xn_blk ?_
          have hk2b := hk2
          unfold Bm at hk2b hz1
          exact xn_cut ⟨tr2, lk2, 24, 0, e30, e31, e32, e5, rfl, rfl, rfl, rfl, rfl, hG, hb2, by omega, by omega, by omega, by omega, by omega, Q1, M⟩
        | false =>
          have hf2p := of_decide_eq_false hf2
          refine w_reg ?_
          refine wl_bin (fun x y => do eqGuard .eql 3 (.tmp 41) (.const (.int .i64 (1))) x y; binOp .eql 3 x y) (.tmp 41) (.const (.int .i64 (1))) (.int .i64 (o.d)) (.int .i64 (1)) (.bool false) (fun _ => rfl) rfl rfl (eqI hf2 _ _ _) rfl ?_
          refine wl_mv (.tmp 63) (.bool false) (fun _ => rfl) rfl rfl ?_
          refine w_nil ?_
          refine xn_then ?_
          refine w_condF rfl ?_
          refine w_seq ?_
          cases hf3 : decide (o.d = 2) with
          | true =>
            have hf3p := of_decide_eq_true hf3
            refine w_reg ?_
            refine wl_bin (fun x y => do eqGuard .eql 3 (.tmp 41) (.const (.int .i64 (2))) x y; binOp .eql 3 x y) (.tmp 41) (.const (.int .i64 (2))) (.int .i64 (o.d)) (.int .i64 (2)) (.bool true) (fun _ => rfl) rfl rfl (eqI hf3 _ _ _) rfl ?_
            refine wl_mv (.tmp 69) (.bool true) (fun _ => rfl) rfl rfl ?_
            refine w_nil ?_
            refine xn_then ?_
            refine w_condT rfl ?_
            refine w_seq ?_
            refine w_reg ?_
            refine wl_mv (.tmp 5) (pt t 0) (fun _ => rfl) e5 rfl ?_
            refine wl_un (fun v => Instr.fieldAt 31 v 2) (.tmp 8) (pt k1 0) (pt k1 2) (fun _ => rfl) rfl (by kernel_rfl) rfl ?_
            refine wl_load 2 (.tmp 71) (pt k1 2) (.int .i64 (o.i)) rfl rfl (run_one Q1 2 2 rfl Try.underlying2 rfl) rfl ?_
            refine wl_un (fun v => Instr.fieldAt 31 v 1) (.tmp 8) (pt k1 0) (pt k1 1) (fun _ => rfl) rfl (by kernel_rfl) rfl ?_
            refine wl_load 3 (.tmp 73) (pt k1 1) (.int .i64 (o.a)) rfl rfl (run_one Q1 3 1 rfl Try.underlying3 rfl) rfl ?_
            refine wl_callx 16 [(.tmp 70), (.tmp 72), (.tmp 74)] _ [pt t 0, .int .i64 (o.i), .int .i64 (o.a)] rfl rfl (fun _ _ => by kernel_rfl) (mov_b hG hb hok.i (by omega)) rfl ?_
            rintro _ w15 ⟨p9, c9, tr2, lk2, rfl, hG, hb2, hk1, hk2, hM2⟩
            refine ⟨_, rfl, ?_⟩
            have hle2 := hG.le
            have hkl2 := tr2.kv_len
            have hz1 := bm_hi hle hle2
            have hz2 := bm_hi hle2 hle2
            replace M := Wr.mo hM2 M (Nat.le_refl _)
            replace Q1 := Wr.at hM2 Q1 (by simp)
            clear hM2
            refine w_nil ?_
            refine xn_then ?_
            refine w_reg ?_
            refine wl_mv (.tmp 11) (.int .i64 (24)) (fun _ => rfl) rfl rfl ?_
            refine wl_bin (fun x y => do eqGuard .mul 2 (.tmp 76) (.const (.int .i64 (2))) x y; binOp .mul 2 x y) (.tmp 76) (.const (.int .i64 (2))) (.int .i64 (24)) (.int .i64 (2)) (.int .i64 (48)) (fun _ => rfl) rfl rfl (by kernel_rfl) rfl ?_
            refine wl_mv (.tmp 77) (.int .i64 (48)) (fun _ => rfl) rfl rfl ?_
            refine w_nil ?_
            refine xn_blk ?_
            have hk2b := hk2
            unfold Bm at hk2b hz1
            exact xn_cut ⟨tr2, lk2, 48, 0, e30, e31, e32, e5, rfl, rfl, rfl, rfl, rfl, hG, hb2, by omega, by omega, by omega, by omega, by omega, Q1, M⟩
          | false =>
            have hf3p := of_decide_eq_false hf3
            refine w_reg ?_
            refine wl_bin (fun x y => do eqGuard .eql 3 (.tmp 41) (.const (.int .i64 (2))) x y; binOp .eql 3 x y) (.tmp 41) (.const (.int .i64 (2))) (.int .i64 (o.d)) (.int .i64 (2)) (.bool false) (fun _ => rfl) rfl rfl (eqI hf3 _ _ _) rfl ?_
            refine wl_mv (.tmp 69) (.bool false) (fun _ => rfl) rfl rfl ?_
            refine w_nil ?_
            refine xn_then ?_
            refine w_condF rfl ?_
            refine w_seq ?_
            cases hf4 : decide (setE mb.sc.length tr (o.i) (o.c) = 0) with
            | true =>
              have hf4p := of_decide_eq_true hf4
              refine w_any 7 [.inl (pt t 0), .inl (pt k1 2), .inl (.int .i64 (o.i)), .inl (pt k1 4), .inl (.int .i64 (o.c)), .inl (.agg #[.int .i64 (o.d), .int .i64 (o.a), .int .i64 (o.i), .slice o.p o.vs.length o.cap, .int .i64 (o.c), .int .i64 (o.f), .int .i64 (o.e)]), .inl (V10.v o.val)] [] (by kernel_rfl) (by kernel_rfl) (by kernel_rfl) (by kernel_rfl) rfl (by kernel_rfl) (by kernel_rfl) late_nil ?_ ?_ ?_
              · exact Ds.none rfl
              · refine ea_cons ?_ (ea_cons ?_ (ea_cons ?_ (ea_cons ?_ (ea_cons ?_ (ea_cons ?_ (ea_cons ?_ (ea_nil)))))))
                · exact og_eq (pt t 0) rfl (fun f wf hq hd K hK => go_run rfl (wo_mv (.tmp 5) (pt t 0) (fun _ => rfl) e5 (hK _ (Mo.refl _))))
                · exact og_eq (pt k1 2) rfl (fun f wf hq hd K hK => go_run rfl (wo_un (fun v => Instr.fieldAt 31 v 2) (.tmp 8) (pt k1 0) (pt k1 2) (fun _ => rfl) rfl (by kernel_rfl) (hK _ (Mo.refl _))))
                · exact og_eq (.int .i64 (o.i)) rfl (fun f wf hq hd K hK => have Q1 := Q1.mo hq; go_run rfl (wo_load 2 (.tmp 43) (pt k1 2) (.int .i64 (o.i)) rfl (hd 1 rfl) (run_one Q1 2 2 rfl Try.underlying2 rfl) (hK _ (Mo.refl _))))
                · exact og_eq (pt k1 4) rfl (fun f wf hq hd K hK => go_run rfl (wo_un (fun v => Instr.fieldAt 31 v 4) (.tmp 8) (pt k1 0) (pt k1 4) (fun _ => rfl) rfl (by kernel_rfl) (hK _ (Mo.refl _))))
                · exact og_eq (.int .i64 (o.c)) rfl (fun f wf hq hd K hK => have Q1 := Q1.mo hq; go_run rfl (wo_load 3 (.tmp 45) (pt k1 4) (.int .i64 (o.c)) rfl (hd 3 rfl) (run_one Q1 3 4 rfl Try.underlying3 rfl) (hK _ (Mo.refl _))))
                · exact og_eq (.agg #[.int .i64 (o.d), .int .i64 (o.a), .int .i64 (o.i), .slice o.p o.vs.length o.cap, .int .i64 (o.c), .int .i64 (o.f), .int .i64 (o.e)]) rfl (fun f wf hq hd K hK => have Q1 := Q1.mo hq; go_run rfl (wo_load 31 (.tmp 8) (pt k1 0) (.agg #[.int .i64 (o.d), .int .i64 (o.a), .int .i64 (o.i), .slice o.p o.vs.length o.cap, .int .i64 (o.c), .int .i64 (o.f), .int .i64 (o.e)]) rfl rfl (run_row Q1 31 0 7 [.int .i64 (o.d), .int .i64 (o.a), .int .i64 (o.i), .slice o.p o.vs.length o.cap, .int .i64 (o.c), .int .i64 (o.f), .int .i64 (o.e)] rfl Try.underlying31 rfl zs31) (hK _ (Mo.refl _))))
                · exact og_eq (V10.v o.val) rfl (fun f wf hq hd K hK => go_run rfl (wo_call 18 [(.tmp 47)] _ [.agg #[.int .i64 (o.d), .int .i64 (o.a), .int .i64 (o.i), .slice o.p o.vs.length o.cap, .int .i64 (o.c), .int .i64 (o.f), .int .i64 (o.e)]] (V10.v o.val) rfl (li1 (hd 5 rfl)) (fun _ _ => by kernel_rfl) (value_n o (hSVo.mo (M.trans hq))) hK))
              intro kf15 w15 hq hR hne
              replace Q1 := Q1.mo hq
              replace hG := hG.mo hq
              replace M := M.trans hq
              clear hq hR hne
              refine wl_callx 17 [(.tmp 42), (.tmp 44), (.tmp 46), (.tmp 48)] _ [pt t 0, .int .i64 (o.i), .int .i64 (o.c), V10.v o.val] rfl rfl (fun _ _ => by kernel_rfl) (set_b hG hb hok.i (Op6.val_ok hok) (by omega)) rfl ?_
              rintro _ w16 ⟨tr2, lk2, rfl, hG, hb2, hk1, hk2, hk3, hM2⟩
              refine ⟨_, rfl, ?_⟩
              have hle2 := hG.le
              have hkl2 := tr2.kv_len
              have hz1 := bm_hi hle hle2
              have hz2 := bm_hi hle2 hle2
              replace M := Wr.mo hM2 M (Nat.le_refl _)
              replace Q1 := Wr.at hM2 Q1 (by simp)
              clear hM2
              refine wl_bin (fun x y => do eqGuard .eql 25 (.tmp 49) (.const (.int .i64 (0))) x y; binOp .eql 25 x y) (.tmp 49) (.const (.int .i64 (0))) (.int .i64 (setE mb.sc.length tr (o.i) (o.c))) (.int .i64 (0)) (.bool true) (fun _ => rfl) rfl rfl (eqE hf4 _ _ _) rfl ?_
              refine w_nil ?_
              refine xn_then ?_
              refine w_condT rfl ?_
              refine w_reg ?_
              refine wl_mv (.const (.int .i64 (1))) (.int .i64 (1)) (fun _ => rfl) rfl rfl ?_
              refine w_nil ?_
              refine xn_blk ?_
              have hk2b := hk2
              unfold Bm at hk2b hz1
              exact xn_cut ⟨tr2, lk2, 24, 1, e30, e31, e32, e5, rfl, rfl, rfl, rfl, rfl, hG, hb2, by have := hk3 (of_decide_eq_true hf4); omega, by omega, by omega, by omega, by omega, Q1, M⟩
            | false =>
              have hf4p := of_decide_eq_false hf4
              refine w_any 7 [.inl (pt t 0), .inl (pt k1 2), .inl (.int .i64 (o.i)), .inl (pt k1 4), .inl (.int .i64 (o.c)), .inl (.agg #[.int .i64 (o.d), .int .i64 (o.a), .int .i64 (o.i), .slice o.p o.vs.length o.cap, .int .i64 (o.c), .int .i64 (o.f), .int .i64 (o.e)]), .inl (V10.v o.val)] [] (by kernel_rfl) (by kernel_rfl) (by kernel_rfl) (by kernel_rfl) rfl (by kernel_rfl) (by kernel_rfl) late_nil ?_ ?_ ?_
              · exact Ds.none rfl
              · refine ea_cons ?_ (ea_cons ?_ (ea_cons ?_ (ea_cons ?_ (ea_cons ?_ (ea_cons ?_ (ea_cons ?_ (ea_nil)))))))
                · exact og_eq (pt t 0) rfl (fun f wf hq hd K hK => go_run rfl (wo_mv (.tmp 5) (pt t 0) (fun _ => rfl) e5 (hK _ (Mo.refl _))))
                · exact og_eq (pt k1 2) rfl (fun f wf hq hd K hK => go_run rfl (wo_un (fun v => Instr.fieldAt 31 v 2) (.tmp 8) (pt k1 0) (pt k1 2) (fun _ => rfl) rfl (by kernel_rfl) (hK _ (Mo.refl _))))
                · exact og_eq (.int .i64 (o.i)) rfl (fun f wf hq hd K hK => have Q1 := Q1.mo hq; go_run rfl (wo_load 2 (.tmp 43) (pt k1 2) (.int .i64 (o.i)) rfl (hd 1 rfl) (run_one Q1 2 2 rfl Try.underlying2 rfl) (hK _ (Mo.refl _))))
                · exact og_eq (pt k1 4) rfl (fun f wf hq hd K hK => go_run rfl (wo_un (fun v => Instr.fieldAt 31 v 4) (.tmp 8) (pt k1 0) (pt k1 4) (fun _ => rfl) rfl (by kernel_rfl) (hK _ (Mo.refl _))))
                · exact og_eq (.int .i64 (o.c)) rfl (fun f wf hq hd K hK => have Q1 := Q1.mo hq; go_run rfl (wo_load 3 (.tmp 45) (pt k1 4) (.int .i64 (o.c)) rfl (hd 3 rfl) (run_one Q1 3 4 rfl Try.underlying3 rfl) (hK _ (Mo.refl _))))
                · exact og_eq (.agg #[.int .i64 (o.d), .int .i64 (o.a), .int .i64 (o.i), .slice o.p o.vs.length o.cap, .int .i64 (o.c), .int .i64 (o.f), .int .i64 (o.e)]) rfl (fun f wf hq hd K hK => have Q1 := Q1.mo hq; go_run rfl (wo_load 31 (.tmp 8) (pt k1 0) (.agg #[.int .i64 (o.d), .int .i64 (o.a), .int .i64 (o.i), .slice o.p o.vs.length o.cap, .int .i64 (o.c), .int .i64 (o.f), .int .i64 (o.e)]) rfl rfl (run_row Q1 31 0 7 [.int .i64 (o.d), .int .i64 (o.a), .int .i64 (o.i), .slice o.p o.vs.length o.cap, .int .i64 (o.c), .int .i64 (o.f), .int .i64 (o.e)] rfl Try.underlying31 rfl zs31) (hK _ (Mo.refl _))))
                · exact og_eq (V10.v o.val) rfl (fun f wf hq hd K hK => go_run rfl (wo_call 18 [(.tmp 47)] _ [.agg #[.int .i64 (o.d), .int .i64 (o.a), .int .i64 (o.i), .slice o.p o.vs.length o.cap, .int .i64 (o.c), .int .i64 (o.f), .int .i64 (o.e)]] (V10.v o.val) rfl (li1 (hd 5 rfl)) (fun _ _ => by kernel_rfl) (value_n o (hSVo.mo (M.trans hq))) hK))
              intro kf15 w15 hq hR hne
              replace Q1 := Q1.mo hq
              replace hG := hG.mo hq
              replace M := M.trans hq
              clear hq hR hne
              refine wl_callx 17 [(.tmp 42), (.tmp 44), (.tmp 46), (.tmp 48)] _ [pt t 0, .int .i64 (o.i), .int .i64 (o.c), V10.v o.val] rfl rfl (fun _ _ => by kernel_rfl) (set_b hG hb hok.i (Op6.val_ok hok) (by omega)) rfl ?_
              rintro _ w16 ⟨tr2, lk2, rfl, hG, hb2, hk1, hk2, hk3, hM2⟩
              refine ⟨_, rfl, ?_⟩
              have hle2 := hG.le
              have hkl2 := tr2.kv_len
              have hz1 := bm_hi hle hle2
              have hz2 := bm_hi hle2 hle2
              replace M := Wr.mo hM2 M (Nat.le_refl _)
              replace Q1 := Wr.at hM2 Q1 (by simp)
              clear hM2
              refine wl_bin (fun x y => do eqGuard .eql 25 (.tmp 49) (.const (.int .i64 (0))) x y; binOp .eql 25 x y) (.tmp 49) (.const (.int .i64 (0))) (.int .i64 (setE mb.sc.length tr (o.i) (o.c))) (.int .i64 (0)) (.bool false) (fun _ => rfl) rfl rfl (eqE hf4 _ _ _) rfl ?_
              refine w_nil ?_
              refine xn_then ?_
              refine w_condF rfl ?_
              refine w_skip ?_
              refine xn_blk ?_
              have hk2b := hk2
              unfold Bm at hk2b hz1
              exact xn_cut ⟨tr2, lk2, 24, 0, e30, e31, e32, e5, rfl, rfl, rfl, rfl, rfl, hG, hb2, by omega, by omega, by omega, by omega, by omega, Q1, M⟩
  | false =>
    have hf0p := of_decide_eq_false hf0
    refine w_reg ?_
    refine wl_bin (fun x y => do eqGuard .lss 3 (.tmp 32) (.tmp 31) x y; binOp .lss 3 x y) (.tmp 32) (.tmp 31) (.int .i64 (i : Int)) (.int .i64 (sc.length : Int)) (.bool false) (fun _ => rfl) e32 e31 (ltI hf0 _ _ _) rfl ?_
    refine w_nil ?_
    refine xn_then ?_
    refine w_seq ?_
    refine w_condF rfl ?_
    refine w_exit ?_
    refine xx_then ?_
    refine xx_then ?_
    refine xx_blk ?_
    refine xn_then ?_
    refine w_seq ?_
    refine w_reg ?_
    refine wl_mv (.const (.bool true)) (.bool true) (fun _ => rfl) rfl rfl ?_
    refine w_nil ?_
    refine xn_then ?_
    refine w_ret ?_
    exact w_ret1 _ (.bool true) rfl rfl ⟨rfl, M⟩
theorem balanced_n (scs : List Int) (ps : Option Addr) (caps : Nat) (hSN : SN w ps scs) (sc : List Op6) (p : Option Addr) (cap : Nat) (hsc : ∀ o ∈ sc, o.ok) (hSA : SA w p sc) (hn : sc.length ≤ 2000000000000) : Calls Try.prog 4 #[.slice ps scs.length caps, .slice p sc.length cap] w fun e w' => e = .returned (.bool true) ∧ Mo w w' := by
  by_cases h : scs.length ≤ 64
  · exact balanced_k scs ps caps sc p cap hsc hSN hSA hn h
  · exact balanced_x scs ps caps sc p cap (by omega)
end
end G
end Go.Proofs.Ythfemlhmnjfjiaa
/-
  Scripts that came in.
-/
namespace Go.Proofs.Ythfemlhmnjfjiaa
open Go.ChangeShapes Go.WideShapes Go.ChangeAt Go.RowKit
namespace G
theorem Try.own : ownKnob Try.prog.godebug = none := by kernel_rfl
theorem Try.cl2 : Try.prog.cellsOf 2 = 1 := by kernel_rfl
theorem Try.cl4 : Try.prog.cellsOf 4 = 1 := by kernel_rfl
theorem Try.cl9 : Try.prog.cellsOf 9 = 1 := by kernel_rfl
theorem Try.cl29 : Try.prog.cellsOf 29 = 1 := by kernel_rfl
theorem Try.cl31 : Try.prog.cellsOf 31 = 7 := by kernel_rfl
theorem Try.cl34 : Try.prog.cellsOf 34 = 1 := by kernel_rfl
theorem Try.cl38 : Try.prog.cellsOf 38 = 4 := by kernel_rfl
theorem Try.cl40 : Try.prog.cellsOf 40 = 6 := by kernel_rfl
theorem Try.cl55 : Try.prog.cellsOf 55 = 10 := by kernel_rfl
theorem Try.by31 : Try.prog.bytesOf 31 = 72 := by kernel_rfl
theorem Try.laidOut : laidOutB Try.prog = true := by kernel_rfl
theorem l0_vl {a b c d : Int} (h : U4 a b c d) : l0 (vl a b c d) = a := by unfold vl l0; unfold U4 U1 at h; omega
theorem l1_vl {a b c d : Int} (h : U4 a b c d) : l1 (vl a b c d) = b := by unfold vl l1; unfold U4 U1 at h; omega
theorem l2_vl {a b c d : Int} (h : U4 a b c d) : l2 (vl a b c d) = c := by unfold vl l2; unfold U4 U1 at h; omega
theorem l3_vl {a b c d : Int} (h : U4 a b c d) : l3 (vl a b c d) = d := by unfold vl l3; unfold U4 U1 at h; omega
theorem wf_u1 {x : Int} (h : (Lit.int .u64 x).wf = true) : U1 x := by
  simp [Lit.wf, IntKind.min, IntKind.max, IntKind.signed, IntKind.bits] at h
  exact ⟨by omega, by omega⟩
theorem wf_i1 {x : Int} (h : (Lit.int .i64 x).wf = true) : I64 x := by
  simp [Lit.wf, IntKind.min, IntKind.max, IntKind.signed, IntKind.bits] at h
  exact ⟨by omega, by omega⟩
theorem trodAll_stays {H : Type} {enc : TypeId × Value → H} {W W' : World} {sp' : Nat → Bool} : ∀ {ts : List TypeId} {vs : List Value} {ds : List (DataW H)} {ps : List MemPlace}, (∀ t ∈ ts, Try.prog.readableRec t = true ∧ t < Try.prog.types.size) → DataW.TrodAll enc Try.prog W 0 (fun _ => true) true ts vs ds ps → (∀ p ∈ ps, W.sameAt W' p) → (∀ p ∈ ps, sp' p.block = true) → DataW.TrodAll enc Try.prog W' 0 sp' true ts vs ds ps
  | [], [], [], _, _, h, _, _ => h
  | _ :: _, _ :: _, _ :: _, _, hT, ⟨p, q, h1, h2, e⟩, hm, hs => ⟨p, q, WideElems.Trod_stays Try.laidOut (hT _ (List.mem_cons.2 (Or.inl rfl))).1 (hT _ (List.mem_cons.2 (Or.inl rfl))).2 h1 (fun x hx => hm x (by rw [e]; exact List.mem_append_left _ hx)) (fun x hx => hs x (by rw [e]; exact List.mem_append_left _ hx)),
      trodAll_stays (fun t ht => hT t (List.mem_cons.2 (Or.inr ht))) h2 (fun x hx => hm x (by rw [e]; exact List.mem_append_right _ hx)) (fun x hx => hs x (by rw [e]; exact List.mem_append_right _ hx)), e⟩
section
variable {H : Type} {enc : TypeId × Value → H} {W : World} {sp : Nat → Bool} {fuel : Nat} {cs : List Value} {x : DataW H × List MemPlace}
set_option maxRecDepth 100000 in
theorem cut4 (h : DataW.trod enc Try.prog W 0 sp true fuel 38 cs = some x) : ∃ n : Int, (0 ≤ n ∧ n < MM) ∧ cs = [.int .u64 (l0 n), .int .u64 (l1 n), .int .u64 (l2 n), .int .u64 (l3 n)] := by
  obtain ⟨xs, m, rfl, _, hlen, hn, hi⟩ := DataW.trod_array Try.underlying38 h
  rw [Try.cl38] at hlen
  obtain ⟨c0, c1, c2, c3, rfl⟩ : ∃ c0 c1 c2 c3, cs = [c0, c1, c2, c3] := by
    match cs, hlen with
    | [a, b, c, d], _ => exact ⟨a, b, c, d, rfl⟩
  obtain ⟨y0, y1, y2, y3, rfl⟩ : ∃ y0 y1 y2 y3, xs = [y0, y1, y2, y3] := by
    match xs, hn with
    | [a, b, c, d], _ => exact ⟨a, b, c, d, rfl⟩
  have i0 := hi 0 (by decide)
  have i1 := hi 1 (by decide)
  have i2 := hi 2 (by decide)
  have i3 := hi 3 (by decide)
  simp only [Try.cl34] at i0 i1 i2 i3
  simp at i0 i1 i2 i3
  obtain ⟨x0, e0, _, w0⟩ := DataW.trod_int Try.underlying34 i0
  obtain ⟨x1, e1, _, w1⟩ := DataW.trod_int Try.underlying34 i1
  obtain ⟨x2, e2, _, w2⟩ := DataW.trod_int Try.underlying34 i2
  obtain ⟨x3, e3, _, w3⟩ := DataW.trod_int Try.underlying34 i3
  simp at e0 e1 e2 e3
  subst e0 e1 e2 e3
  have u : U4 x0 x1 x2 x3 := ⟨wf_u1 w0, wf_u1 w1, wf_u1 w2, wf_u1 w3⟩
  exact ⟨vl x0 x1 x2 x3, vl_bd u, by rw [l0_vl u, l1_vl u, l2_vl u, l3_vl u]⟩
set_option maxRecDepth 100000 in
theorem cut6 (h : DataW.trod enc Try.prog W 0 sp true fuel 40 cs = some x) : ∃ d : D3, d.ok ∧ cs = [.bool d.b, .int .u64 (l0 d.n), .int .u64 (l1 d.n), .int .u64 (l2 d.n), .int .u64 (l3 d.n), .int .i64 d.s] := by
  obtain ⟨y0, y1, y2, m, _, hl, h0, h1, h2⟩ := Go.Deep.trod_struct3 Try.underlying40 h
  rw [Try.cl40] at hl
  obtain ⟨c0, c1, c2, c3, c4, c5, rfl⟩ : ∃ c0 c1 c2 c3 c4 c5, cs = [c0, c1, c2, c3, c4, c5] := by
    match cs, hl with
    | [a, b, c, d, e, f], _ => exact ⟨a, b, c, d, e, f, rfl⟩
  simp [Try.cl4, Try.cl38, Try.cl3] at h0 h1 h2
  obtain ⟨b, e0, _⟩ := DataW.trod_bool Try.underlying4 h0
  obtain ⟨n, hn, e1⟩ := cut4 h1
  obtain ⟨s, e2, _, w2⟩ := DataW.trod_int Try.underlying3 h2
  simp at e0 e1 e2
  obtain ⟨e10, e11, e12, e13⟩ := e1
  subst e0 e10 e11 e12 e13 e2
  exact ⟨⟨b, n, s⟩, hn, rfl⟩
set_option maxRecDepth 100000 in
theorem cut10 (h : DataW.trod enc Try.prog W 0 sp true fuel 55 cs = some x) : ∃ v : V10, v.n.ok ∧ cs = v.cells := by
  obtain ⟨xs, n, rfl, _, hl, hlen, hi⟩ := DataW.trod_struct Try.underlying55 h
  rw [Try.cl55] at hl
  obtain ⟨c0, c1, c2, c3, c4, c5, c6, c7, c8, c9, rfl⟩ : ∃ c0 c1 c2 c3 c4 c5 c6 c7 c8 c9, cs = [c0, c1, c2, c3, c4, c5, c6, c7, c8, c9] := by
    match cs, hl with
    | [a0, a1, a2, a3, a4, a5, a6, a7, a8, a9], _ => exact ⟨a0, a1, a2, a3, a4, a5, a6, a7, a8, a9, rfl⟩
  obtain ⟨y0, y1, y2, y3, y4, rfl⟩ : ∃ y0 y1 y2 y3 y4, xs = [y0, y1, y2, y3, y4] := by
    match xs, hlen with
    | [a0, a1, a2, a3, a4], _ => exact ⟨a0, a1, a2, a3, a4, rfl⟩
  have i0 := hi 0 _ rfl
  have i1 := hi 1 _ rfl
  have i2 := hi 2 _ rfl
  have i3 := hi 3 _ rfl
  have i4 := hi 4 _ rfl
  simp [Try.cl3, Try.cl4, Try.cl9, Try.cl40] at i0 i1 i2 i3 i4
  obtain ⟨K, e0, _, w0⟩ := DataW.trod_int Try.underlying3 i0
  obtain ⟨d, hd, e1⟩ := cut6 i1
  obtain ⟨fl, e2, _⟩ := DataW.trod_bool Try.underlying4 i2
  obtain ⟨tx, e3, _⟩ := DataW.trod_string Try.underlying9 i3
  obtain ⟨er, e4, _, w4⟩ := DataW.trod_int Try.underlying3 i4
  simp at e0 e1 e2 e3 e4
  obtain ⟨e10, e11, e12, e13, e14, e15⟩ := e1
  subst e0 e10 e11 e12 e13 e14 e15 e2 e3 e4
  exact ⟨⟨K, d, fl, tx, er⟩, hd, rfl⟩
/-- A slice that came in, of whatever elements of n cells. -/
theorem cut_sl {t e : TypeId} (hu : Try.prog.underlying t = some (.slice e)) {n : Nat} (hn : 0 < n) (hcl : Try.prog.cellsOf e = n) {α : Type} (cells : α → List Value) (dflt : α) (ok : α → Prop) (hlen : ∀ y, (cells y).length = n)
    (hcut : ∀ {m : Nat} {cs : List Value} {y : DataW H × List MemPlace}, DataW.trod enc Try.prog W 0 sp true m e cs = some y → ∃ z, ok z ∧ cs = cells z) {v : Value} (h : DataW.trod enc Try.prog W 0 sp true fuel t [v] = some x) :
    ∃ (L : List α) (pa : Option Addr) (cap : Nat), v = .slice pa L.length cap ∧ (∀ o ∈ L, ok o) ∧ (∀ i o, L[i]? = some o → ∃ b off, pa = some ⟨b, off, none⟩ ∧ b < W.heap.size ∧ W.rangeAt b (off + i * n) (cells o)) ∧ (L = [] ∨ ∃ elems spare, x.1 = .slice elems spare ∧ elems.length = L.length) := by
  rcases Go.Deep.open_slice hu h with ⟨hcs, _⟩ | ⟨a, len, cap, m, k, D, Pl, hcs, _, hl, _, hm, hx, hel⟩
  · simp only [List.cons.injEq, and_true] at hcs
    subst hcs
    exact ⟨[], none, 0, rfl, fun _ e => (by cases e), fun _ _ e => (by cases e), Or.inl rfl⟩
  · simp only [List.cons.injEq, and_true] at hcs
    subst hcs
    have hm2 : len ≤ m := by rw [hm]; split <;> omega
    have first : ∀ o : α, ∃ u, (cells o)[0]? = some u := fun o => ⟨(cells o)[0]'(by rw [hlen]; exact hn), List.getElem?_eq_getElem _⟩
    have key : ∀ i : Nat, ∃ S : α, i < len → ok S ∧ ∃ b off, some a = some (⟨b, off, none⟩ : Addr) ∧ b < W.heap.size ∧ W.rangeAt b (off + i * n) (cells S) := by
      intro i
      by_cases hi : i < len
      · obtain ⟨cs', hc, ht⟩ := hel i (by omega)
        obtain ⟨o, ho, rfl⟩ := hcut ht
        refine ⟨o, fun _ => ⟨ho, ?_⟩⟩
        rw [hcl] at hc
        have hb := World.cells?_block hc hn
        obtain ⟨_, _, hcell⟩ := World.cells?_some hc
        obtain ⟨b, off, spot⟩ := a
        have hs : spot = none := by
          obtain ⟨cs0, hc0, ht0⟩ := hel 0 (by omega)
          obtain ⟨o0, _, rfl⟩ := hcut ht0
          rw [hcl] at hc0
          have h0 := (World.cells?_some hc0).2.2 0 hn
          obtain ⟨u, hu0⟩ := first o0
          rw [hu0] at h0
          have := World.cell?_spot (show W.cell? (((⟨b, off, spot⟩ : Addr).add (0 * n)).add 0) = some u from h0)
          simpa [Addr.add] using this
        subst hs
        refine ⟨b, off, rfl, by simpa [Addr.add_mid] using hb, fun j v hv => ?_⟩
        have hj : j < n := by rw [← hlen o]; exact (List.getElem?_eq_some_iff.1 hv).1
        have := hcell j hj
        rw [Addr.add_mid, Addr.add_mid, hv] at this
        exact this
      · exact ⟨dflt, fun e => absurd e hi⟩
    obtain ⟨f, hf2⟩ := Classical.skolem.1 key
    refine ⟨(List.range len).map f, some a, cap, by simp, fun o ho => ?_, fun i o e => ?_, Or.inr ⟨_, _, congrArg Prod.fst hx, by simp⟩⟩
    · obtain ⟨i, hi, rfl⟩ := List.mem_map.1 ho
      exact (hf2 i (by simpa using hi)).1
    · have hi : i < len := by have := (List.getElem?_eq_some_iff.1 e).1; simpa using this
      rw [List.getElem?_map, List.getElem?_range hi] at e
      cases e
      exact (hf2 i hi).2
set_option maxRecDepth 100000 in
theorem cut31 (h : DataW.trod enc Try.prog W 0 sp true fuel 31 cs = some x) : ∃ o : Op6, (o.ok ∧ SVv W o.p o.vs) ∧ cs = o.cells := by
  obtain ⟨xs, n, rfl, _, hl, hlen, hi⟩ := DataW.trod_struct Try.underlying31 h
  rw [Try.cl31] at hl
  obtain ⟨c0, c1, c2, c3, c4, c5, c6, rfl⟩ : ∃ c0 c1 c2 c3 c4 c5 c6, cs = [c0, c1, c2, c3, c4, c5, c6] := by
    match cs, hl with
    | [a0, a1, a2, a3, a4, a5, a6], _ => exact ⟨a0, a1, a2, a3, a4, a5, a6, rfl⟩
  obtain ⟨y0, y1, y2, y3, y4, y5, y6, rfl⟩ : ∃ y0 y1 y2 y3 y4 y5 y6, xs = [y0, y1, y2, y3, y4, y5, y6] := by
    match xs, hlen with
    | [a0, a1, a2, a3, a4, a5, a6], _ => exact ⟨a0, a1, a2, a3, a4, a5, a6, rfl⟩
  have i0 := hi 0 _ rfl
  have i1 := hi 1 _ rfl
  have i2 := hi 2 _ rfl
  have i3 := hi 3 _ rfl
  have i4 := hi 4 _ rfl
  have i5 := hi 5 _ rfl
  have i6 := hi 6 _ rfl
  simp [Try.cl3, Try.cl2, Try.cl29] at i0 i1 i2 i3 i4 i5 i6
  obtain ⟨d, e0, _, w0⟩ := DataW.trod_int Try.underlying3 i0
  obtain ⟨a, e1, _, w1⟩ := DataW.trod_int Try.underlying3 i1
  obtain ⟨i, e2, _, w2⟩ := DataW.trod_int Try.underlying2 i2
  obtain ⟨L, pa, cap, e3, hL, hSV, _⟩ := cut_sl Try.underlying29 (n := 10) (by decide) Try.cl55 V10.cells v0 (fun y => y.n.ok) (fun _ => rfl) (fun h => cut10 h) i3
  obtain ⟨c, e4, _, w4⟩ := DataW.trod_int Try.underlying3 i4
  obtain ⟨f, e5, _, w5⟩ := DataW.trod_int Try.underlying3 i5
  obtain ⟨g, e6, _, w6⟩ := DataW.trod_int Try.underlying3 i6
  simp at e0 e1 e2 e4 e5 e6
  subst e0 e1 e2 e3 e4 e5 e6
  exact ⟨⟨d, a, i, pa, L, cap, c, f, g⟩, ⟨⟨wf_i1 w0, wf_i1 w1, wf_i1 w2, hL, wf_i1 w4, wf_i1 w5, wf_i1 w6⟩, hSV⟩, rfl⟩
end
section
variable {H : Type} {enc : TypeId × Value → H} {W : World} {base : Nat} {v : Value} {d : DataW H} {p : List MemPlace}
set_option maxRecDepth 100000 in
theorem open_script (hv : Value.okWide Try.prog W .any base 23 v) (h : DataW.Trod enc Try.prog W 0 (fun _ => true) true 23 v d p) :
    ∃ (sc : List Op6) (pa : Option Addr) (cap : Nat), v = .slice pa sc.length cap ∧ (∀ o ∈ sc, o.ok) ∧ SA W pa sc ∧ (sc = [] ∨ ∃ elems spare, d = .slice elems spare ∧ elems.length = sc.length) := by
  obtain ⟨a0, len, cap0, rfl⟩ := okWide_slice Try.underlying23 hv
  obtain ⟨fuel, hf⟩ := h
  obtain ⟨L, pa, cap, h1, h2, h3, h4⟩ := cut_sl Try.underlying23 (n := 7) (by decide) Try.cl31 Op6.cells ⟨0, 0, 0, none, [], 0, 0, 0, 0⟩ (fun o => o.ok ∧ SVv W o.p o.vs) (fun _ => rfl) (fun h => cut31 h) (show DataW.trod enc Try.prog W 0 _ true fuel 23 [_] = some (d, p) from hf)
  exact ⟨L, pa, cap, h1, fun o ho => (h2 o ho).1, fun i o e => ⟨h3 i o e, (h2 o (List.mem_of_getElem? e)).2⟩, h4⟩
set_option maxRecDepth 100000 in
theorem open_ints (hv : Value.okWide Try.prog W .any base 22 v) (h : DataW.Trod enc Try.prog W 0 (fun _ => true) true 22 v d p) :
    ∃ (L : List Int) (pa : Option Addr) (cap : Nat), v = .slice pa L.length cap ∧ (∀ x ∈ L, I64 x) ∧ SN W pa L := by
  obtain ⟨a0, len, cap0, rfl⟩ := okWide_slice Try.underlying22 hv
  obtain ⟨fuel, hf⟩ := h
  obtain ⟨L, pa, cap, h1, h2, h3, _⟩ := cut_sl Try.underlying22 (n := 1) (by decide) Try.cl3 (fun x : Int => [.int .i64 x]) 0 I64 (fun _ => rfl) (fun h => by
    obtain ⟨z, e, _, w⟩ := DataW.trod_int Try.underlying3 h
    exact ⟨z, wf_i1 w, e⟩) (show DataW.trod enc Try.prog W 0 _ true fuel 22 [_] = some (d, p) from hf)
  exact ⟨L, pa, cap, h1, h2, h3⟩
end
end G
end Go.Proofs.Ythfemlhmnjfjiaa
