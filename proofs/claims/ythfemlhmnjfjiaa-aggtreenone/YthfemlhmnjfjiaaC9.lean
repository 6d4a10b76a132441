/-
  A part of the proof.
-/
import Derived.Test.YthfemlhmnjfjiaaC8
import Derived.RangeFuncWrites
import Derived.RangeFuncLeaves
import Derived.RangeFuncCalls
import Derived.OrdersIn
import Derived.Maps.AppendAt
import Derived.Deep.AppendLies
/-
  A tree in a law: its blocks are new, and none of the law's own.
-/
namespace Go.Proofs.Ythfemlhmnjfjiaa
open Go.RowKit
namespace G
/-- What may be written: neither what was there at the beginning (below n0) nor what is kept (ks). -/
def Wr (n0 : Nat) (ks : List Nat) (j : Nat) : Prop := n0 ≤ j ∧ j ∉ ks
/-- A tree whose blocks are all new and none of the kept ones. -/
def GT (n0 : Nat) (ks : List Nat) (w : World) (t : Nat) (mb : Hd) (tr : T) (lk : Int) : Prop :=
  n0 ≤ w.heap.size ∧ (∀ k ∈ ks, k < w.heap.size) ∧ (∀ b, ob mb.h = some b → Wr n0 ks b) ∧ ∃ D, FT D w t mb tr lk ∧ ∀ j, D j ∨ j = mb.m → Wr n0 ks j
def I64 (i : Int) : Prop := -9223372036854775808 ≤ i ∧ i ≤ 9223372036854775807
/-- The rows' ids. -/
def T.is (tr : T) : List Int := tr.ids.map (·.i)
section
variable {n0 : Nat} {ks : List Nat} {w w' : World} {t : Nat} {mb : Hd} {tr : T} {lk : Int}
theorem GT.mo (h : GT n0 ks w t mb tr lk) (m : Mo w w') : GT n0 ks w' t mb tr lk := by
  obtain ⟨h1, h2, h5, D, h3, h4⟩ := h
  exact ⟨Nat.le_trans h1 m.size, fun k e => Nat.lt_of_lt_of_le (h2 k e) m.size, h5, D, h3.mo m, h4⟩
theorem FT.sclt {D : Nat → Prop} (h : FT D w t mb tr lk) {b : Nat} (e : ob mb.h = some b) : b < w.heap.size := by
  obtain ⟨R, root, hS, _⟩ := h.ts
  exact hS.sc.lt e
theorem GT.push (h : GT n0 ks w t mb tr lk) {k : Nat} (hk : w.heap.size ≤ k) (hk2 : k < w'.heap.size) (m : Mo w w') : GT n0 (k :: ks) w' t mb tr lk := by
  obtain ⟨h1, h2, h5, D, h3, h4⟩ := h
  refine ⟨Nat.le_trans h1 m.size, fun j e => ?_, fun b e => ⟨(h5 b e).1, fun q => ?_⟩, D, h3.mo m, fun j e => ⟨(h4 j e).1, fun q => ?_⟩⟩
  · rcases List.mem_cons.1 e with rfl | e
    · exact hk2
    · exact Nat.lt_of_lt_of_le (h2 j e) m.size
  · rcases List.mem_cons.1 q with rfl | q
    · have := h3.sclt e; omega
    · exact (h5 b e).2 q
  · rcases List.mem_cons.1 q with rfl | q
    · rcases e with e | rfl
      · obtain ⟨R, root, hS, _⟩ := h3.ts
        have := hS.lt e; omega
      · have := h3.om.lt; omega
    · exact (h4 j e).2 q
theorem GT.l0 (h : GT n0 ks w t mb tr lk) : 0 ≤ lk := by obtain ⟨_, _, _, D, h3, _⟩ := h; exact h3.l0
theorem GT.le (h : GT n0 ks w t mb tr lk) : tr.sz ≤ 1024 := by obtain ⟨_, _, _, D, h3, _⟩ := h; exact h3.le
theorem GT.nd (h : GT n0 ks w t mb tr lk) : tr.is.Nodup := by obtain ⟨_, _, _, D, h3, _⟩ := h; exact h3.nd
theorem GT.rg (h : GT n0 ks w t mb tr lk) : ∀ i ∈ tr.is, 1 ≤ i ∧ i ≤ 9007199254740992 := by obtain ⟨_, _, _, D, h3, _⟩ := h; exact h3.rg
theorem GT.oks (h : GT n0 ks w t mb tr lk) : ∀ y ∈ tr.ids, y.ok ∧ y.vs.length = mb.sc.length := by
  obtain ⟨_, _, _, D, h3, _⟩ := h
  obtain ⟨R, root, hS, _, _, hR, _⟩ := h3.ts
  have : ∀ (tr : T) {u : Option Nat}, Rep mb.sc R u tr → ∀ y ∈ tr.ids, y.ok ∧ y.vs.length = mb.sc.length := by
    intro tr
    induction tr with
    | e => intro u _ y hy; cases hy
    | n k i s l r il ir =>
      intro u h y hy
      obtain ⟨h9, e9⟩ := h.1
      unfold T.ids at hy
      rcases List.mem_append.1 hy with hy | hy
      · exact il h.2.1 y hy
      · rcases List.mem_cons.1 hy with rfl | hy
        · exact ⟨(hS.sv k _ e9).2.2, (hS.sv k _ e9).2.1⟩
        · exact ir h.2.2 y hy
  exact this tr hR
theorem Wr.mo {a : World} (h : Mk (Wr n0 ks) w w') (m : Mo a w) (hn : a.heap.size ≤ n0) : Mo a w' := h.mo m (fun _ e => Nat.le_trans hn e.1)
theorem Wr.at (h : Mk (Wr n0 ks) w w') {k : Nat} {vs : List Value} (hA : At w k vs) (hk : k ∈ ks) : At w' k vs := h.at hA (fun e => e.2 hk)
theorem Mk.sub {D E : Nat → Prop} (h : Mk D w w') (hs : ∀ j, D j → E j) : Mk E w w' := (Mk.refl E w).tr h (fun j _ e => hs j e)
theorem GT.grow {D D' : Nat → Prop} {tr' : T} {lk' : Int} (h1 : n0 ≤ w.heap.size) (h2 : ∀ k ∈ ks, k < w.heap.size) (h5 : ∀ b, ob mb.h = some b → Wr n0 ks b) (h4 : ∀ j, D j ∨ j = mb.m → Wr n0 ks j) (h : FT D' w' t mb tr' lk') (hD : ∀ j, D' j → D j ∨ w.heap.size ≤ j) (m : Mk (fun j => D j ∨ j = mb.m) w w') : GT n0 ks w' t mb tr' lk' ∧ Mk (Wr n0 ks) w w' := by
  refine ⟨⟨Nat.le_trans h1 m.size, fun k e => Nat.lt_of_lt_of_le (h2 k e) m.size, h5, _, h, fun j e => ?_⟩, m.sub h4⟩
  rcases e with e | e
  · rcases hD j e with e | e
    · exact h4 j (Or.inl e)
    · exact ⟨by omega, fun q => by have := h2 _ q; omega⟩
  · exact h4 j (Or.inr e)
theorem GT.eq (h : GT n0 ks w t mb tr lk) (m : Mo w w') : GT n0 ks w' t mb tr lk ∧ Mk (Wr n0 ks) w w' := ⟨h.mo m, Mk.of _ m⟩
theorem new_g {p : Option Addr} {c : Nat} {sc : List Int} (hr : SN w p sc) (hle : sc.length ≤ 64) (h0 : n0 ≤ w.heap.size) (hk : ∀ k ∈ ks, k < w.heap.size) : Calls Try.prog 7 #[.slice p sc.length c] w fun e w' => ∃ (t : Nat) (mb : Hd), e = .returned (.tuple #[pt t 0, .int .i64 0]) ∧ GT n0 ks w' t mb .e 0 ∧ mb.sc = sc ∧ w.heap.size ≤ t ∧ Mo w w' := by
  refine (new_ok hr (decide_eq_false (by omega))).mono fun e w' hq => ?_
  obtain ⟨t, mb, D, he, hF, hs, hD, hm, hb, M⟩ := hq
  have key : ∀ j, w.heap.size ≤ j → Wr n0 ks j := fun j hj => ⟨Nat.le_trans h0 hj, fun q => by have := hk j q; omega⟩
  refine ⟨t, mb, he, ⟨Nat.le_trans h0 M.size, fun k e => Nat.lt_of_lt_of_le (hk k e) M.size, fun b e => key b (hb b e), D, hF, fun j e => key j ?_⟩, hs, ?_, M⟩
  · rcases e with e | rfl
    · exact hD j e
    · exact hm
  · obtain ⟨R, root, hS, _⟩ := hF.ts
    exact hD t hS.dt
theorem adr_out {id : Int} (h : id ∉ tr.is) : adr tr.kv id = none := adr_none (by rw [T.kv_ids]; exact h)
theorem adr_in {id : Int} (h : id ∈ tr.is) : ∃ k, adr tr.kv id = some k := by
  cases e : adr tr.kv id with
  | none => have := adr_is.2 (show id ∈ tr.kv.map (·.1) by rw [T.kv_ids]; exact h); rw [e] at this; cases this
  | some k => exact ⟨k, rfl⟩
/-- The error that Insert answers, or 0. -/
def insE (nc : Nat) (tr : T) (at0 id : Int) (nv : Nat) : Int := if nv ≠ nc then 1 else if id < 1 ∨ 9007199254740992 < id then 1 else if id ∈ tr.is then 5 else if 1024 ≤ tr.sz then 6 else if at0 < 0 ∨ tr.sz < at0 then 1 else 0
theorem insE_0 {nc nv : Nat} {at0 id : Int} (h : insE nc tr at0 id nv = 0) : nv = nc ∧ id ∉ tr.is ∧ 1 ≤ id ∧ id ≤ 9007199254740992 ∧ tr.sz < 1024 ∧ 0 ≤ at0 ∧ at0 ≤ tr.sz := by
  unfold insE at h
  by_cases c0 : nv ≠ nc
  · rw [if_pos c0] at h; omega
  rw [if_neg c0] at h
  by_cases c1 : id < 1 ∨ 9007199254740992 < id
  · rw [if_pos c1] at h; omega
  rw [if_neg c1] at h
  by_cases c3 : id ∈ tr.is
  · rw [if_pos c3] at h; omega
  rw [if_neg c3] at h
  by_cases c4 : 1024 ≤ tr.sz
  · rw [if_pos c4] at h; omega
  rw [if_neg c4] at h
  by_cases c5 : at0 < 0 ∨ tr.sz < at0
  · rw [if_pos c5] at h; omega
  exact ⟨Classical.not_not.1 c0, c3, by omega, by omega, by omega, by omega, by omega⟩
theorem insert_g {at0 id : Int} {p : Option Addr} {cap : Nat} {vs : List V10} (h : GT n0 ks w t mb tr lk) (he : insE mb.sc.length tr at0 id vs.length = 0) (hlk : lk ≤ 3000000000000000000) (hSV : ∀ w', Mk (Wr n0 ks) w w' → SVv w' p vs) (hvo : ∀ x ∈ vs, x.n.ok) : Calls Try.prog 9 #[pt t 0, .int .i64 at0, .int .i64 id, .slice p vs.length cap] w fun e w' => ∃ y kn tr' lk', e = .returned (.int .i64 0) ∧ Ins tr at0 ⟨id, y, vs⟩ kn tr' ∧ GT n0 ks w' t mb tr' lk' ∧ lk < lk' ∧ lk' ≤ lk + 10 * tr.ht + 8 ∧ Mk (Wr n0 ks) w w' := by
  obtain ⟨c0, c1, c2, c3, c4, c5, c6⟩ := insE_0 he
  obtain ⟨g1, g2, g5, D, hF, g4⟩ := h
  have hkl := tr.kv_len
  refine (insert_ok hF ⟨by omega, by omega⟩ (decide_eq_true c0) (decide_eq_false (by omega)) (decide_eq_false (by omega)) (by rw [adr_out c1]; rfl) (decide_eq_false (by omega)) (decide_eq_false (by omega)) (decide_eq_false (by omega)) hlk (fun w' m => hSV w' (m.sub g4)) hvo).mono fun e w' hq => ?_
  obtain ⟨y, kn, tr', lk', D', he, hI, hF2, hkn, hk1, hk2, hM, hD⟩ := hq
  obtain ⟨q1, q2⟩ := GT.grow g1 g2 g5 g4 hF2 hD hM
  exact ⟨y, kn, tr', lk', he, hI, q1, hk1, hk2, q2⟩
theorem hasF {cn : Int} (h : cn < 0 ∨ (mb.sc.length : Int) ≤ cn) : (decide (0 ≤ cn) && decide (cn < (mb.sc.length : Int))) = false := by
  rcases h with h | h
  · rw [decide_eq_false (by omega)]; rfl
  · rw [decide_eq_false (p := cn < (mb.sc.length : Int)) (by omega), Bool.and_false]
theorem set_any {id cn : Int} {x : V10} (h : GT n0 ks w t mb tr lk) (hi : I64 id) (hx : x.n.ok) (hlk : lk ≤ 3000000000000000000) : Calls Try.prog 17 #[pt t 0, .int .i64 id, .int .i64 cn, V10.v x] w fun e w' => ∃ c tr' lk', e = .returned (.int .i64 c) ∧ GT n0 ks w' t mb tr' lk' ∧ (c = 0 ∧ 0 ≤ cn ∧ cn < mb.sc.length ∧ (∃ A B y, tr.ids = A ++ y :: B ∧ y.i = id ∧ tr'.ids = A ++ ⟨y.i, y.v, y.vs.set cn.toNat x⟩ :: B ∧ Sim tr tr') ∧ lk < lk' ∨ (c = 1 ∧ (cn < 0 ∨ (mb.sc.length : Int) ≤ cn) ∨ c = 4 ∧ 0 ≤ cn ∧ cn < mb.sc.length ∧ id ∉ tr.is) ∧ tr' = tr ∧ lk' = lk) ∧ lk ≤ lk' ∧ lk' ≤ lk + 3 * tr.ht ∧ Mk (Wr n0 ks) w w' := by
  have h' := h
  obtain ⟨g1, g2, g5, D, hF, g4⟩ := h
  by_cases c0 : cn < 0 ∨ (mb.sc.length : Int) ≤ cn
  · refine (set_x hF (hasF c0)).mono fun e w' hq => ?_
    obtain ⟨h1, h2⟩ := h'.eq hq.2
    exact ⟨_, tr, lk, hq.1, h1, Or.inr ⟨Or.inl ⟨rfl, c0⟩, rfl, rfl⟩, by omega, by omega, h2⟩
  obtain ⟨n, rfl⟩ := Int.eq_ofNat_of_zero_le (show 0 ≤ cn by omega)
  have hn : n < mb.sc.length := by omega
  by_cases c : id ∈ tr.is
  · obtain ⟨k, e⟩ := adr_in c
    refine (set_ok hF hi hn hx e hlk).mono fun e w' hq => ?_
    obtain ⟨A, B, y, tr', lk', he, h1, h2, h3, h4, hF2, hk1, hk2, hM⟩ := hq
    obtain ⟨q1, q2⟩ := GT.grow g1 g2 g5 g4 hF2 (fun j e => Or.inl e) (hM.sub (fun _ e => Or.inl e))
    exact ⟨0, tr', lk', he, q1, Or.inl ⟨rfl, by omega, by omega, ⟨A, B, y, h1, h2, h3, h4⟩, hk1⟩, by omega, hk2, q2⟩
  · refine (set_n hF hi hn (adr_out c)).mono fun e w' hq => ?_
    obtain ⟨h1, h2⟩ := h'.eq hq.2
    exact ⟨_, tr, lk, hq.1, h1, Or.inr ⟨Or.inr ⟨rfl, by omega, by omega, c⟩, rfl, rfl⟩, by omega, by omega, h2⟩
theorem GT.keep {D : Nat → Prop} {tr' : T} {lk' : Int} (h1 : n0 ≤ w.heap.size) (h2 : ∀ k ∈ ks, k < w.heap.size) (h5 : ∀ b, ob mb.h = some b → Wr n0 ks b) (h4 : ∀ j, D j ∨ j = mb.m → Wr n0 ks j) (h : FT D w' t mb tr' lk') (m : Mk D w w') : GT n0 ks w' t mb tr' lk' ∧ Mk (Wr n0 ks) w w' :=
  GT.grow h1 h2 h5 h4 h (fun _ e => Or.inl e) (m.sub (fun _ e => Or.inl e))
theorem sum_any {cn : Int} (h : GT n0 ks w t mb tr lk) (hlk : lk ≤ 3000000000000000000) : Calls Try.prog 12 #[pt t 0, .int .i64 cn] w fun e w' => ∃ S cd lk', e = .returned (.tuple #[smv S, .int .i64 cd]) ∧ GT n0 ks w' t mb tr lk' ∧ ((0 ≤ cn ∧ cn < mb.sc.length) ∧ cd = 0 ∧ S = col cn.toNat (mb.sc.getD cn.toNat 0) tr.ids ∨ ¬ (0 ≤ cn ∧ cn < mb.sc.length) ∧ cd = 1 ∧ S = sm0) ∧ lk ≤ lk' ∧ lk' ≤ lk + 1 ∧ Mk (Wr n0 ks) w w' := by
  have h' := h
  obtain ⟨g1, g2, g5, D, hF, g4⟩ := h
  by_cases c0 : cn < 0 ∨ (mb.sc.length : Int) ≤ cn
  · refine (sumc_a hF (hasF c0)).mono fun e w' hq => ?_
    obtain ⟨h1, h2⟩ := h'.eq hq.2
    exact ⟨_, _, lk, hq.1, h1, Or.inr ⟨by omega, rfl, rfl⟩, by omega, by omega, h2⟩
  refine (sumc_ok hF (by rw [Bool.and_eq_true, decide_eq_true_eq, decide_eq_true_eq]; omega) hlk).mono fun e w' hq => ?_
  obtain ⟨lk', he, hF2, hk1, hk2, hM⟩ := hq
  obtain ⟨q1, q2⟩ := GT.keep g1 g2 g5 g4 hF2 hM
  exact ⟨_, _, lk', he, q1, Or.inl ⟨by omega, rfl, rfl⟩, hk1, hk2, q2⟩
theorem GT.st (h : GT n0 ks w t mb tr lk) {k : Nat} (s : St2 k w w') (hk : k ∈ ks) : GT n0 ks w' t mb tr lk := by
  obtain ⟨h1, h2, h5, D, h3, h4⟩ := h
  have hK := Mk.st1 s
  obtain ⟨R, root, hS, hAp, hC, hR, hn⟩ := h3.ts
  exact ⟨Nat.le_trans h1 hK.size, fun j e => Nat.lt_of_lt_of_le (h2 j e) hK.size, h5, D, ⟨⟨R, root, hS.kept hK (fun j e q => (h4 j (Or.inl e)).2 (by rw [q]; exact hk)) (fun b hb q => (h5 b hb).2 (by rw [q]; exact hk)), hAp, hC, hR, hn⟩, h3.om.mk hK (fun q => (h4 mb.m (Or.inr rfl)).2 (by rw [q]; exact hk)), h3.ok, h3.nd, h3.rg, h3.le, h3.l0, h3.hm⟩, h4⟩
end
end G
end Go.Proofs.Ythfemlhmnjfjiaa
/-
  Scripts; what their operations do at most.
-/
namespace Go.Proofs.Ythfemlhmnjfjiaa
open Go.RowKit
namespace G
/-- An operation of a script. -/
structure Op6 where
  d : Int
  a : Int
  i : Int
  p : Option Addr
  vs : List V10
  cap : Nat
  c : Int
  f : Int
  e : Int
def Op6.cells (o : Op6) : List Value := [.int .i64 o.d, .int .i64 o.a, .int .i64 o.i, .slice o.p o.vs.length o.cap, .int .i64 o.c, .int .i64 o.f, .int .i64 o.e]
abbrev Op6.v (o : Op6) : Value := .agg #[.int .i64 o.d, .int .i64 o.a, .int .i64 o.i, .slice o.p o.vs.length o.cap, .int .i64 o.c, .int .i64 o.f, .int .i64 o.e]
structure Op6.ok (o : Op6) : Prop where
  d : I64 o.d
  a : I64 o.a
  i : I64 o.i
  v : ∀ x ∈ o.vs, x.n.ok
  c : I64 o.c
  f : I64 o.f
  e : I64 o.e
def Op6.val (o : Op6) : V10 := o.vs.headD v0
theorem eqT (k : Nat) (a b : Operand) (w : World) : (do eqGuard .eql 24 a b (pt k 0) (.pointer none); binOp .eql 24 (pt k 0) (.pointer none)).run Try.prog w = .ok (.bool false) w := by kernel_rfl
end G
end Go.Proofs.Ythfemlhmnjfjiaa
/-
  begun: three rows put in, one set anew.
-/
namespace Go.Proofs.Ythfemlhmnjfjiaa
open Go.RowKit
namespace G
theorem svv_one {w : World} {k : Nat} {x : V10} (h : At w k x.cells) : SVv w (some ⟨k, 0, none⟩) [x] := fun i y e => by
  match i, e with
  | 0, e => cases e; exact ⟨k, 0, rfl, h.2.2, fun j v hv => by have := h.1 j v hv; rw [show 0 + 0 * 10 + j = 0 + j by omega]; exact this⟩
  | i + 1, e => simp at e
theorem sn_one {w : World} {k : Nat} {x : Int} (h : At w k [.int .i64 x]) : SN w (some ⟨k, 0, none⟩) [x] := fun i y e => by
  match i, e with
  | 0, e => cases e; exact ⟨k, 0, rfl, h.2.2, fun j v hv => by have := h.1 j v hv; rw [show 0 + 0 * 1 + j = 0 + j by omega]; exact this⟩
  | i + 1, e => simp at e
section
variable {o : Oper} {n : Nat} {l : List (Nat × Value)} {w : World} {ops : Array Oper} {rest : List Oper} {Q : Exit → Act → World → Prop}
theorem bs22 (a : Int) (w : World) : (Instr.buildSlice 22 1 #[(0, .int .i64 a)]).run Try.prog w = .ok (.slice (some ⟨w.heap.size, 0, none⟩) 1 1) (w.alloc (.cells #[.int .i64 a] 3)) := by kernel_rfl
theorem bs29 (x : V10) (w : World) : (Instr.buildSlice 29 1 #[(0, x.v)]).run Try.prog w = .ok (.slice (some ⟨w.heap.size, 0, none⟩) 1 1) (w.alloc (.cells x.cells.toArray 55)) := by kernel_rfl
theorem wl_bs22_1 (x : Operand) (a : Int) (ho : o.op = .buildSlice 22 1 #[(0, x)]) (hx : evl n l x = .int .i64 a) (hg : wnt n l ops o = true)
    (hk : ∀ k w', w.heap.size = k → w'.heap.size = k + 1 → Mo w w' → At w' k [.int .i64 a] → WL Try.prog ops Q rest n (ext l o.dst (.slice (some ⟨k, 0, none⟩) 1 1)) w') : WL Try.prog ops Q (o :: rest) n l w :=
  ⟨l_step hg (o_val (.slice (some ⟨w.heap.size, 0, none⟩) 1 1) (w' := w.alloc (.cells #[.int .i64 a] 3)) (by
    have h := bs22 a w
    simp only [execOp, ho, List.map_toArray, List.map_cons, List.map_nil, hx, Sem.run_bind, h, Result.andThen_ok]
    simp) (hk _ _ rfl (by simp) ((Mo.refl _).alloc _ _) (At.new w _ 3)).out)⟩
theorem wl_bs29_1 (x : Operand) (a : V10) (ho : o.op = .buildSlice 29 1 #[(0, x)]) (hx : evl n l x = a.v) (hg : wnt n l ops o = true)
    (hk : ∀ k w', w.heap.size = k → w'.heap.size = k + 1 → Mo w w' → At w' k a.cells → WL Try.prog ops Q rest n (ext l o.dst (.slice (some ⟨k, 0, none⟩) 1 1)) w') : WL Try.prog ops Q (o :: rest) n l w :=
  ⟨l_step hg (o_val (.slice (some ⟨w.heap.size, 0, none⟩) 1 1) (w' := w.alloc (.cells a.cells.toArray 55)) (by
    have h := bs29 a w
    simp only [execOp, ho, List.map_toArray, List.map_cons, List.map_nil, hx, Sem.run_bind, h, Result.andThen_ok]
    simp) (hk _ _ rfl (by simp) ((Mo.refl _).alloc _ _) (At.new w _ 55)).out)⟩
end
theorem eqU {a b : Int} {r : Bool} (h : decide (a = b) = r) (x y : Operand) (w : World) : (do eqGuard .eql 34 x y (.int .u64 a) (.int .u64 b); binOp .eql 34 (.int .u64 a) (.int .u64 b)).run Try.prog w = .ok (.bool r) w := by
  have e : (do eqGuard .eql 34 x y (.int .u64 a) (.int .u64 b); binOp .eql 34 (.int .u64 a) (.int .u64 b)).run Try.prog w = .ok (.bool (a == b)) w := by kernel_rfl
  rw [e, ← h]; rfl
theorem Ins.td {tr tr' : T} {at0 : Int} {y : Py} {kn : Nat} (h : Ins tr at0 y kn tr') : tr'.ids = tr.ids.take at0.toNat ++ y :: tr.ids.drop at0.toNat := by
  obtain ⟨A, B, h1, h2, h3⟩ := h.ids
  rw [h1, h3, show at0.toNat = A.length by omega, List.take_left, List.drop_left]
theorem insE_of {tr : T} {nc nv : Nat} {at0 id : Int} (h0 : nv = nc) (h1 : id ∉ tr.is) (h2 : 1 ≤ id) (h3 : id ≤ 9007199254740992) (h4 : tr.sz < 1024) (h5 : 0 ≤ at0) (h6 : at0 ≤ tr.sz) : insE nc tr at0 id nv = 0 := by
  unfold insE
  rw [if_neg (fun h => h h0), if_neg (by omega), if_neg h1, if_neg (by omega), if_neg (by omega)]
def x250 : V10 := ⟨1, ⟨false, 250, 2⟩, false, ⟨#[]⟩, 0⟩
def x100 : V10 := ⟨1, ⟨true, 100, 2⟩, false, ⟨#[]⟩, 0⟩
def x400 : V10 := ⟨1, ⟨false, 400, 2⟩, false, ⟨#[]⟩, 0⟩
section
variable {w : World}
theorem x250_ok : x250.n.ok := ⟨by decide, by unfold x250 MM; decide⟩
theorem x100_ok : x100.n.ok := ⟨by decide, by unfold x100 MM; decide⟩
theorem x400_ok : x400.n.ok := ⟨by decide, by unfold x400 MM; decide⟩
theorem v0_ok : v0.n.ok := d0_ok
theorem begun_n (w : World) : Calls Try.prog 8 #[] w fun e w' => e = .returned (.bool true) ∧ Mo w w' := by
  have e0 : T.e.ids = [] := rfl
  refine w_enter 84 Try.func8 Try.ntmps8 rfl rfl ?_
  have M : Mo w w := Mo.refl _
  refine w_seq ?_
  refine w_reg ?_
  refine wl_mv (.const (.bool false)) (.bool false) (fun _ => rfl) rfl rfl ?_
  refine w_nil ?_
  refine xn_then ?_
  refine w_seq ?_
  refine w_reg ?_
  refine wl_bs22_1 (.const (.int .i64 (2))) (2) rfl rfl rfl ?_
  intro k1 w1 hk hz hq Q1
  have N_k1 : w.heap.size ≤ k1 := by have := M.size; omega
  replace M := M.trans hq
  clear hk hz hq
  refine wl_callx 7 [(.tmp 8)] _ [.slice (some ⟨k1, 0, none⟩) 1 1] rfl rfl (fun _ _ => by kernel_rfl) (new_g (n0 := w.heap.size) (ks := [k1]) (sc := [2]) (sn_one Q1) (by decide) M.size (fun j e => by rw [List.mem_singleton.1 e]; exact Q1.2.2)) rfl ?_
  rintro _ w2 ⟨t, mb, rfl, hG, hsc, ht9, hq⟩
  refine ⟨_, rfl, ?_⟩
  replace M := M.trans hq
  replace Q1 := Q1.mo hq
  clear hq
  refine wl_mv (.tmp 9) (.tuple #[pt t 0, .int .i64 (0)]) (fun _ => rfl) rfl rfl ?_
  refine wl_un (fun v => Instr.extract v 0) (.tmp 7) (.tuple #[pt t 0, .int .i64 (0)]) (pt t 0) (fun _ => rfl) rfl (by kernel_rfl) rfl ?_
  refine wl_un (fun v => Instr.extract v 1) (.tmp 7) (.tuple #[pt t 0, .int .i64 (0)]) (.int .i64 (0)) (fun _ => rfl) rfl (by kernel_rfl) rfl ?_
  refine wl_mv (.tmp 10) (pt t 0) (fun _ => rfl) rfl rfl ?_
  refine wl_mv (.tmp 11) (.int .i64 (0)) (fun _ => rfl) rfl rfl ?_
  refine w_nil ?_
  refine xn_then ?_
  refine w_seq ?_
  refine w_seq ?_
  refine w_reg ?_
  refine wl_mv (.tmp 1) (pt t 0) (fun _ => rfl) rfl rfl ?_
  refine wl_bin (fun x y => do eqGuard .eql 24 (.tmp 12) (.const (.pointer none)) x y; binOp .eql 24 x y) (.tmp 12) (.const (.pointer none)) (pt t 0) (pp none) (.bool false) (fun _ => rfl) rfl rfl (eqT _ _ _ _) rfl ?_
  refine wl_mv (.tmp 13) (.bool false) (fun _ => rfl) rfl rfl ?_
  refine wl_mv (.tmp 2) (.int .i64 (0)) (fun _ => rfl) rfl rfl ?_
  refine wl_bin (fun x y => do eqGuard .neq 25 (.tmp 15) (.const (.int .i64 (0))) x y; binOp .neq 25 x y) (.tmp 15) (.const (.int .i64 (0))) (.int .i64 (0)) (.int .i64 (0)) (.bool false) (fun _ => rfl) rfl rfl (by kernel_rfl) rfl ?_
  refine wl_pick (.tmp 14) (.const (.bool true)) (.tmp 16) false (.bool false) (fun _ => rfl) rfl rfl rfl ?_
  refine wl_mv (.tmp 17) (.bool false) (fun _ => rfl) rfl rfl ?_
  refine wl_mv (.tmp 1) (pt t 0) (fun _ => rfl) rfl rfl ?_
  refine wl_call 28 [(.const (.int .i64 (250))), (.const (.int .i64 (2)))] _ [.int .i64 (250), .int .i64 (2)] (V10.v x250) rfl rfl (fun _ _ => by kernel_rfl) (num_p (n := 250) (s := 2) (by decide) rfl rfl rfl) rfl ?_
  intro w3 hq
  replace Q1 := Q1.mo hq
  replace hG := hG.mo hq
  replace M := M.trans hq
  clear hq
  refine wl_bs29_1 (.tmp 20) x250 rfl rfl rfl ?_
  intro k2 w4 hk hz hq Q2
  have ne_k1_k2 : k1 ≠ k2 := by have := Q1.lt; omega
  have N_k2 : w.heap.size ≤ k2 := by have := M.size; omega
  replace hG := hG.push (Nat.le_of_eq hk) (by omega) hq
  replace Q1 := Q1.mo hq
  replace M := M.trans hq
  clear hk hz hq
  refine wl_callx 9 [(.tmp 19), (.const (.int .i64 (0))), (.const (.int .i64 (1))), (.tmp 21)] _ [pt t 0, .int .i64 (0), .int .i64 (1), .slice (some ⟨k2, 0, none⟩) 1 1] rfl rfl (fun _ _ => by kernel_rfl) (insert_g (vs := [x250]) hG (insE_of (by rw [hsc]; rfl) (by unfold T.is; rw [e0]; show (1 : Int) ∉ ([] : List Int); decide) (by decide) (by decide) (by rw [T.sz_ids, e0]; show ((0 : Nat) : Int) < 1024; decide) (by decide) (by rw [T.sz_ids, e0]; show (0 : Int) ≤ ((0 : Nat) : Int); decide)) (by omega) (fun w9 m9 => svv_one (Wr.at m9 Q2 (by simp))) (fun z hz => by rw [List.mem_singleton.1 hz]; exact x250_ok)) rfl ?_
  rintro _ w5 ⟨y1, kn1, tr1, lk1, rfl, hI1, hG, hl1, hu1, hM2⟩
  refine ⟨_, rfl, ?_⟩
  have e1 : tr1.ids = [⟨1, y1, [x250]⟩] := by have := hI1.td; rw [e0] at this; exact this
  replace hu1 : lk1 ≤ 0 + 10 * 1024 + 8 := by have := T.ht_le .e; have := T.sz_ids .e; rw [e0] at this; simp only [List.length_nil] at this; omega
  clear hI1
  replace M := Wr.mo hM2 M (Nat.le_refl _)
  replace Q1 := Wr.at hM2 Q1 (by simp)
  replace Q2 := Wr.at hM2 Q2 (by simp)
  clear hM2
  refine wl_bin (fun x y => do eqGuard .neq 25 (.tmp 22) (.const (.int .i64 (0))) x y; binOp .neq 25 x y) (.tmp 22) (.const (.int .i64 (0))) (.int .i64 (0)) (.int .i64 (0)) (.bool false) (fun _ => rfl) rfl rfl (by kernel_rfl) rfl ?_
  refine wl_pick (.tmp 18) (.const (.bool true)) (.tmp 23) false (.bool false) (fun _ => rfl) rfl rfl rfl ?_
  refine wl_mv (.tmp 24) (.bool false) (fun _ => rfl) rfl rfl ?_
  refine wl_mv (.tmp 1) (pt t 0) (fun _ => rfl) rfl rfl ?_
  refine wl_build 55 [] [] (.agg #[.int .i64 0, .bool false, .int .u64 0, .int .u64 0, .int .u64 0, .int .u64 0, .int .i64 0, .bool false, .string ⟨#[]⟩, .int .i64 0]) rfl rfl (by kernel_rfl) rfl ?_
  refine wl_bs29_1 (.tmp 27) v0 rfl rfl rfl ?_
  intro k3 w6 hk hz hq Q3
  have ne_k1_k3 : k1 ≠ k3 := by have := Q1.lt; omega
  have ne_k2_k3 : k2 ≠ k3 := by have := Q2.lt; omega
  have N_k3 : w.heap.size ≤ k3 := by have := M.size; omega
  replace hG := hG.push (Nat.le_of_eq hk) (by omega) hq
  replace Q1 := Q1.mo hq
  replace Q2 := Q2.mo hq
  replace M := M.trans hq
  clear hk hz hq
  refine wl_callx 9 [(.tmp 26), (.const (.int .i64 (1))), (.const (.int .i64 (2))), (.tmp 28)] _ [pt t 0, .int .i64 (1), .int .i64 (2), .slice (some ⟨k3, 0, none⟩) 1 1] rfl rfl (fun _ _ => by kernel_rfl) (insert_g (vs := [v0]) hG (insE_of (by rw [hsc]; rfl) (by unfold T.is; rw [e1]; show (2 : Int) ∉ ([1] : List Int); decide) (by decide) (by decide) (by rw [T.sz_ids, e1]; show ((1 : Nat) : Int) < 1024; decide) (by decide) (by rw [T.sz_ids, e1]; show (1 : Int) ≤ ((1 : Nat) : Int); decide)) (by omega) (fun w9 m9 => svv_one (Wr.at m9 Q3 (by simp))) (fun z hz => by rw [List.mem_singleton.1 hz]; exact v0_ok)) rfl ?_
  rintro _ w7 ⟨y2, kn2, tr2, lk2, rfl, hI2, hG, hl2, hu2, hM2⟩
  refine ⟨_, rfl, ?_⟩
  have e2 : tr2.ids = [⟨1, y1, [x250]⟩, ⟨2, y2, [v0]⟩] := by have := hI2.td; rw [e1] at this; exact this
  replace hu2 : lk2 ≤ lk1 + 10 * 1024 + 8 := by have := T.ht_le tr1; have := T.sz_ids tr1; rw [e1] at this; simp only [List.length_cons, List.length_nil] at this; omega
  clear hI2
  replace M := Wr.mo hM2 M (Nat.le_refl _)
  replace Q1 := Wr.at hM2 Q1 (by simp)
  replace Q2 := Wr.at hM2 Q2 (by simp)
  replace Q3 := Wr.at hM2 Q3 (by simp)
  clear hM2
  refine wl_bin (fun x y => do eqGuard .neq 25 (.tmp 29) (.const (.int .i64 (0))) x y; binOp .neq 25 x y) (.tmp 29) (.const (.int .i64 (0))) (.int .i64 (0)) (.int .i64 (0)) (.bool false) (fun _ => rfl) rfl rfl (by kernel_rfl) rfl ?_
  refine wl_pick (.tmp 25) (.const (.bool true)) (.tmp 30) false (.bool false) (fun _ => rfl) rfl rfl rfl ?_
  refine wl_mv (.tmp 31) (.bool false) (fun _ => rfl) rfl rfl ?_
  refine wl_mv (.tmp 1) (pt t 0) (fun _ => rfl) rfl rfl ?_
  refine wl_call 28 [(.const (.int .i64 (-100))), (.const (.int .i64 (2)))] _ [.int .i64 (-100), .int .i64 (2)] (V10.v x100) rfl rfl (fun _ _ => by kernel_rfl) (num_m (n := -100) (s := 2) (by decide) rfl rfl rfl) rfl ?_
  intro w8 hq
  replace Q1 := Q1.mo hq
  replace Q2 := Q2.mo hq
  replace Q3 := Q3.mo hq
  replace hG := hG.mo hq
  replace M := M.trans hq
  clear hq
  refine wl_bs29_1 (.tmp 34) x100 rfl rfl rfl ?_
  intro k4 w9 hk hz hq Q4
  have ne_k1_k4 : k1 ≠ k4 := by have := Q1.lt; omega
  have ne_k2_k4 : k2 ≠ k4 := by have := Q2.lt; omega
  have ne_k3_k4 : k3 ≠ k4 := by have := Q3.lt; omega
  have N_k4 : w.heap.size ≤ k4 := by have := M.size; omega
  replace hG := hG.push (Nat.le_of_eq hk) (by omega) hq
  replace Q1 := Q1.mo hq
  replace Q2 := Q2.mo hq
  replace Q3 := Q3.mo hq
  replace M := M.trans hq
  clear hk hz hq
  refine wl_callx 9 [(.tmp 33), (.const (.int .i64 (1))), (.const (.int .i64 (3))), (.tmp 35)] _ [pt t 0, .int .i64 (1), .int .i64 (3), .slice (some ⟨k4, 0, none⟩) 1 1] rfl rfl (fun _ _ => by kernel_rfl) (insert_g (vs := [x100]) hG (insE_of (by rw [hsc]; rfl) (by unfold T.is; rw [e2]; show (3 : Int) ∉ ([1, 2] : List Int); decide) (by decide) (by decide) (by rw [T.sz_ids, e2]; show ((2 : Nat) : Int) < 1024; decide) (by decide) (by rw [T.sz_ids, e2]; show (1 : Int) ≤ ((2 : Nat) : Int); decide)) (by omega) (fun w9 m9 => svv_one (Wr.at m9 Q4 (by simp))) (fun z hz => by rw [List.mem_singleton.1 hz]; exact x100_ok)) rfl ?_
  rintro _ w10 ⟨y3, kn3, tr3, lk3, rfl, hI3, hG, hl3, hu3, hM2⟩
  refine ⟨_, rfl, ?_⟩
  have e3 : tr3.ids = [⟨1, y1, [x250]⟩, ⟨3, y3, [x100]⟩, ⟨2, y2, [v0]⟩] := by have := hI3.td; rw [e2] at this; exact this
  replace hu3 : lk3 ≤ lk2 + 10 * 1024 + 8 := by have := T.ht_le tr2; have := T.sz_ids tr2; rw [e2] at this; simp only [List.length_cons, List.length_nil] at this; omega
  clear hI3
  replace M := Wr.mo hM2 M (Nat.le_refl _)
  replace Q1 := Wr.at hM2 Q1 (by simp)
  replace Q2 := Wr.at hM2 Q2 (by simp)
  replace Q3 := Wr.at hM2 Q3 (by simp)
  replace Q4 := Wr.at hM2 Q4 (by simp)
  clear hM2
  refine wl_bin (fun x y => do eqGuard .neq 25 (.tmp 36) (.const (.int .i64 (0))) x y; binOp .neq 25 x y) (.tmp 36) (.const (.int .i64 (0))) (.int .i64 (0)) (.int .i64 (0)) (.bool false) (fun _ => rfl) rfl rfl (by kernel_rfl) rfl ?_
  refine wl_pick (.tmp 32) (.const (.bool true)) (.tmp 37) false (.bool false) (fun _ => rfl) rfl rfl rfl ?_
  refine w_nil ?_
  refine xn_then ?_
  refine w_condF rfl ?_
  refine w_skip ?_
  refine xn_then ?_
  refine w_seq ?_
  refine w_reg ?_
  refine wl_mv (.tmp 1) (pt t 0) (fun _ => rfl) rfl rfl ?_
  refine wl_callx 12 [(.tmp 40), (.const (.int .i64 (0)))] _ [pt t 0, .int .i64 (0)] rfl rfl (fun _ _ => by kernel_rfl) (sum_any hG (by omega)) rfl ?_
  rintro _ w11 ⟨Sa, cd1, lk40, rfl, hG, hc9, hv1, hw1, hM2⟩
  refine ⟨_, rfl, ?_⟩
  obtain ⟨_, rfl, hSa⟩ : _ ∧ _ ∧ _ := hc9.resolve_right (fun h => h.1 (by rw [hsc]; decide))
  replace hSa : Sa = col 0 2 [⟨1, y1, [x250]⟩, ⟨3, y3, [x100]⟩, ⟨2, y2, [v0]⟩] := by rw [hSa, hsc, e3]; rfl
  have qf : decide (Sa.f = 2) = true := by rw [hSa]; rfl
  have qk : decide (Sa.k = 1) = true := by rw [hSa]; rfl
  have qt : decide (l0 (Sa).tt = 150) = true := by rw [hSa]; rfl
  clear hc9
  replace M := Wr.mo hM2 M (Nat.le_refl _)
  replace Q1 := Wr.at hM2 Q1 (by simp)
  replace Q2 := Wr.at hM2 Q2 (by simp)
  replace Q3 := Wr.at hM2 Q3 (by simp)
  replace Q4 := Wr.at hM2 Q4 (by simp)
  clear hM2
  refine wl_mv (.tmp 41) (.tuple #[smv Sa, .int .i64 (0)]) (fun _ => rfl) rfl rfl ?_
  refine wl_un (fun v => Instr.extract v 0) (.tmp 39) (.tuple #[smv Sa, .int .i64 (0)]) (smv Sa) (fun _ => rfl) rfl (by kernel_rfl) rfl ?_
  refine wl_un (fun v => Instr.extract v 1) (.tmp 39) (.tuple #[smv Sa, .int .i64 (0)]) (.int .i64 (0)) (fun _ => rfl) rfl (by kernel_rfl) rfl ?_
  refine wl_alloc 42 #[.int .i64 0, .int .i64 0, .int .i64 0, .int .i64 0, .int .i64 0, .int .u64 0, .int .u64 0, .int .u64 0, .int .u64 0, .int .u64 0, .bool false, .bool false, .int .u64 0, .int .u64 0, .int .u64 0, .int .u64 0, .int .i64 0, .bool false, .int .u64 0, .int .u64 0, .int .u64 0, .int .u64 0, .int .i64 0] rfl (fun _ => by kernel_rfl) rfl ?_
  intro k5 w12 hk hz hq Q5
  have ne_k1_k5 : k1 ≠ k5 := by have := Q1.lt; omega
  have ne_k2_k5 : k2 ≠ k5 := by have := Q2.lt; omega
  have ne_k3_k5 : k3 ≠ k5 := by have := Q3.lt; omega
  have ne_k4_k5 : k4 ≠ k5 := by have := Q4.lt; omega
  have N_k5 : w.heap.size ≤ k5 := by have := M.size; omega
  replace hG := hG.push (Nat.le_of_eq hk) (by omega) hq
  replace Q1 := Q1.mo hq
  replace Q2 := Q2.mo hq
  replace Q3 := Q3.mo hq
  replace Q4 := Q4.mo hq
  replace M := M.trans hq
  clear hk hz hq
  refine wl_stx2 42 (.tmp 3) (.tmp 42) k5 0 ((sml Sa).toArray) [.int .i64 0, .int .i64 0, .int .i64 0, .int .i64 0, .int .i64 0, .int .u64 0, .int .u64 0, .int .u64 0, .int .u64 0, .int .u64 0, .bool false, .bool false, .int .u64 0, .int .u64 0, .int .u64 0, .int .u64 0, .int .i64 0, .bool false, .int .u64 0, .int .u64 0, .int .u64 0, .int .u64 0, .int .i64 0] (sml Sa) Q5 rfl rfl rfl rfl rfl zs42 rfl rfl rfl ?_
  intro w13 hT Qn
  replace Q5 := Qn
  clear Qn
  replace Q1 := hT.other _ _ ne_k1_k5 Q1
  replace Q2 := hT.other _ _ ne_k2_k5 Q2
  replace Q3 := hT.other _ _ ne_k3_k5 Q3
  replace Q4 := hT.other _ _ ne_k4_k5 Q4
  replace hG := hG.st hT (by simp)
  replace M := (Mk.refl (fun j => j = k5) _ |>.st hT rfl).mo M (fun _ e => e ▸ N_k5)
  clear hT
  refine wl_mv (.tmp 43) (.int .i64 (0)) (fun _ => rfl) rfl rfl ?_
  refine w_nil ?_
  refine xn_then ?_
  refine w_seq ?_
  refine w_reg ?_
  refine wl_mv (.tmp 1) (pt t 0) (fun _ => rfl) rfl rfl ?_
  refine wl_call 28 [(.const (.int .i64 (400))), (.const (.int .i64 (2)))] _ [.int .i64 (400), .int .i64 (2)] (V10.v x400) rfl rfl (fun _ _ => by kernel_rfl) (num_p (n := 400) (s := 2) (by decide) rfl rfl rfl) rfl ?_
  intro w14 hq
  replace Q1 := Q1.mo hq
  replace Q2 := Q2.mo hq
  replace Q3 := Q3.mo hq
  replace Q4 := Q4.mo hq
  replace Q5 := Q5.mo hq
  replace hG := hG.mo hq
  replace M := M.trans hq
  clear hq
  refine wl_callx 17 [(.tmp 44), (.const (.int .i64 (3))), (.const (.int .i64 (0))), (.tmp 45)] _ [pt t 0, .int .i64 (3), .int .i64 (0), V10.v x400] rfl rfl (fun _ _ => by kernel_rfl) (set_any (x := x400) hG ⟨by decide, by decide⟩ x400_ok (by omega)) rfl ?_
  rintro _ w15 ⟨cc9, tr4, lk4, rfl, hG, hc9, hl7, hu7, hM2⟩
  refine ⟨_, rfl, ?_⟩
  rcases hc9 with ⟨rfl, _, _, ⟨A9, B9, y9, hA9, hy9, hB9, _⟩, _⟩ | ⟨hno, _, _⟩
  rotate_left
  · exfalso
    rcases hno with ⟨_, h⟩ | ⟨_, _, _, h⟩
    · rw [hsc] at h; simp at h
    · exact h (by unfold T.is; rw [e3]; show (3 : Int) ∈ ([1, 3, 2] : List Int); decide)
  have e4 : tr4.ids = [⟨1, y1, [x250]⟩, ⟨3, y3, [x400]⟩, ⟨2, y2, [v0]⟩] := by
    rw [e3] at hA9
    rw [hB9]
    match A9, hA9 with
    | [], h => cases h; cases hy9
    | [a], h => cases h; rfl
    | [a, b], h => cases h; cases hy9
    | a :: b :: c :: L, h => simp at h
  clear hA9 hB9 hy9
  replace hu7 : lk4 ≤ lk40 + 3 * 1024 := by have := T.ht_le tr3; have := T.sz_ids tr3; rw [e3] at this; simp only [List.length_cons, List.length_nil] at this; omega
  replace M := Wr.mo hM2 M (Nat.le_refl _)
  replace Q1 := Wr.at hM2 Q1 (by simp)
  replace Q2 := Wr.at hM2 Q2 (by simp)
  replace Q3 := Wr.at hM2 Q3 (by simp)
  replace Q4 := Wr.at hM2 Q4 (by simp)
  replace Q5 := Wr.at hM2 Q5 (by simp)
  clear hM2
  refine wl_mv (.tmp 46) (.int .i64 (0)) (fun _ => rfl) rfl rfl ?_
  refine w_nil ?_
  refine xn_then ?_
  refine w_seq ?_
  refine w_reg ?_
  refine wl_mv (.tmp 1) (pt t 0) (fun _ => rfl) rfl rfl ?_
  refine wl_callx 12 [(.tmp 48), (.const (.int .i64 (0)))] _ [pt t 0, .int .i64 (0)] rfl rfl (fun _ _ => by kernel_rfl) (sum_any hG (by omega)) rfl ?_
  rintro _ w16 ⟨Sb, cd2, lk50, rfl, hG, hc9, hv2, hw2, hM2⟩
  refine ⟨_, rfl, ?_⟩
  obtain ⟨_, rfl, hSb⟩ : _ ∧ _ ∧ _ := hc9.resolve_right (fun h => h.1 (by rw [hsc]; decide))
  replace hSb : Sb = col 0 2 [⟨1, y1, [x250]⟩, ⟨3, y3, [x400]⟩, ⟨2, y2, [v0]⟩] := by rw [hSb, hsc, e4]; rfl
  have qu : decide (l0 (Sb).tt = 650) = true := by rw [hSb]; rfl
  clear hc9
  replace M := Wr.mo hM2 M (Nat.le_refl _)
  replace Q1 := Wr.at hM2 Q1 (by simp)
  replace Q2 := Wr.at hM2 Q2 (by simp)
  replace Q3 := Wr.at hM2 Q3 (by simp)
  replace Q4 := Wr.at hM2 Q4 (by simp)
  replace Q5 := Wr.at hM2 Q5 (by simp)
  clear hM2
  refine wl_mv (.tmp 49) (.tuple #[smv Sb, .int .i64 (0)]) (fun _ => rfl) rfl rfl ?_
  refine wl_un (fun v => Instr.extract v 0) (.tmp 47) (.tuple #[smv Sb, .int .i64 (0)]) (smv Sb) (fun _ => rfl) rfl (by kernel_rfl) rfl ?_
  refine wl_un (fun v => Instr.extract v 1) (.tmp 47) (.tuple #[smv Sb, .int .i64 (0)]) (.int .i64 (0)) (fun _ => rfl) rfl (by kernel_rfl) rfl ?_
  refine wl_alloc 42 #[.int .i64 0, .int .i64 0, .int .i64 0, .int .i64 0, .int .i64 0, .int .u64 0, .int .u64 0, .int .u64 0, .int .u64 0, .int .u64 0, .bool false, .bool false, .int .u64 0, .int .u64 0, .int .u64 0, .int .u64 0, .int .i64 0, .bool false, .int .u64 0, .int .u64 0, .int .u64 0, .int .u64 0, .int .i64 0] rfl (fun _ => by kernel_rfl) rfl ?_
  intro k6 w17 hk hz hq Q6
  have ne_k1_k6 : k1 ≠ k6 := by have := Q1.lt; omega
  have ne_k2_k6 : k2 ≠ k6 := by have := Q2.lt; omega
  have ne_k3_k6 : k3 ≠ k6 := by have := Q3.lt; omega
  have ne_k4_k6 : k4 ≠ k6 := by have := Q4.lt; omega
  have ne_k5_k6 : k5 ≠ k6 := by have := Q5.lt; omega
  have N_k6 : w.heap.size ≤ k6 := by have := M.size; omega
  replace hG := hG.push (Nat.le_of_eq hk) (by omega) hq
  replace Q1 := Q1.mo hq
  replace Q2 := Q2.mo hq
  replace Q3 := Q3.mo hq
  replace Q4 := Q4.mo hq
  replace Q5 := Q5.mo hq
  replace M := M.trans hq
  clear hk hz hq
  refine wl_stx2 42 (.tmp 5) (.tmp 50) k6 0 ((sml Sb).toArray) [.int .i64 0, .int .i64 0, .int .i64 0, .int .i64 0, .int .i64 0, .int .u64 0, .int .u64 0, .int .u64 0, .int .u64 0, .int .u64 0, .bool false, .bool false, .int .u64 0, .int .u64 0, .int .u64 0, .int .u64 0, .int .i64 0, .bool false, .int .u64 0, .int .u64 0, .int .u64 0, .int .u64 0, .int .i64 0] (sml Sb) Q6 rfl rfl rfl rfl rfl zs42 rfl rfl rfl ?_
  intro w18 hT Qn
  replace Q6 := Qn
  clear Qn
  replace Q1 := hT.other _ _ ne_k1_k6 Q1
  replace Q2 := hT.other _ _ ne_k2_k6 Q2
  replace Q3 := hT.other _ _ ne_k3_k6 Q3
  replace Q4 := hT.other _ _ ne_k4_k6 Q4
  replace Q5 := hT.other _ _ ne_k5_k6 Q5
  replace hG := hG.st hT (by simp)
  replace M := (Mk.refl (fun j => j = k6) _ |>.st hT rfl).mo M (fun _ e => e ▸ N_k6)
  clear hT
  refine wl_mv (.tmp 51) (.int .i64 (0)) (fun _ => rfl) rfl rfl ?_
  refine w_nil ?_
  refine xn_then ?_
  refine w_seq ?_
  refine w_reg ?_
  refine wl_mv (.tmp 2) (.int .i64 (0)) (fun _ => rfl) rfl rfl ?_
  refine wl_bin (fun x y => do eqGuard .eql 25 (.tmp 52) (.const (.int .i64 (0))) x y; binOp .eql 25 x y) (.tmp 52) (.const (.int .i64 (0))) (.int .i64 (0)) (.int .i64 (0)) (.bool true) (fun _ => rfl) rfl rfl (by kernel_rfl) rfl ?_
  refine wl_mv (.tmp 53) (.bool true) (fun _ => rfl) rfl rfl ?_
  refine wl_mv (.tmp 4) (.int .i64 (0)) (fun _ => rfl) rfl rfl ?_
  refine wl_bin (fun x y => do eqGuard .eql 25 (.tmp 55) (.const (.int .i64 (0))) x y; binOp .eql 25 x y) (.tmp 55) (.const (.int .i64 (0))) (.int .i64 (0)) (.int .i64 (0)) (.bool true) (fun _ => rfl) rfl rfl (by kernel_rfl) rfl ?_
  refine wl_pick (.tmp 54) (.tmp 56) (.const (.bool false)) true (.bool true) (fun _ => rfl) rfl rfl rfl ?_
  refine wl_mv (.tmp 57) (.bool true) (fun _ => rfl) rfl rfl ?_
  refine wl_mv (.tmp 6) (.int .i64 (0)) (fun _ => rfl) rfl rfl ?_
  refine wl_bin (fun x y => do eqGuard .eql 25 (.tmp 59) (.const (.int .i64 (0))) x y; binOp .eql 25 x y) (.tmp 59) (.const (.int .i64 (0))) (.int .i64 (0)) (.int .i64 (0)) (.bool true) (fun _ => rfl) rfl rfl (by kernel_rfl) rfl ?_
  refine wl_pick (.tmp 58) (.tmp 60) (.const (.bool false)) true (.bool true) (fun _ => rfl) rfl rfl rfl ?_
  refine wl_mv (.tmp 61) (.bool true) (fun _ => rfl) rfl rfl ?_
  refine wl_un (fun v => Instr.fieldAt 42 v 1) (.tmp 3) (pt k5 0) (pt k5 1) (fun _ => rfl) rfl (by kernel_rfl) rfl ?_
  refine wl_load 3 (.tmp 63) (pt k5 1) (.int .i64 (Sa).f) rfl rfl (run_one Q5 3 1 rfl Try.underlying3 rfl) rfl ?_
  refine wl_bin (fun x y => do eqGuard .eql 3 (.tmp 64) (.const (.int .i64 (2))) x y; binOp .eql 3 x y) (.tmp 64) (.const (.int .i64 (2))) (.int .i64 (Sa).f) (.int .i64 (2)) (.bool true) (fun _ => rfl) rfl rfl (eqI qf _ _ _) rfl ?_
  refine wl_pick (.tmp 62) (.tmp 65) (.const (.bool false)) true (.bool true) (fun _ => rfl) rfl rfl rfl ?_
  refine wl_mv (.tmp 66) (.bool true) (fun _ => rfl) rfl rfl ?_
  refine wl_un (fun v => Instr.fieldAt 42 v 2) (.tmp 3) (pt k5 0) (pt k5 2) (fun _ => rfl) rfl (by kernel_rfl) rfl ?_
  refine wl_load 3 (.tmp 68) (pt k5 2) (.int .i64 (Sa).k) rfl rfl (run_one Q5 3 2 rfl Try.underlying3 rfl) rfl ?_
  refine wl_bin (fun x y => do eqGuard .eql 3 (.tmp 69) (.const (.int .i64 (1))) x y; binOp .eql 3 x y) (.tmp 69) (.const (.int .i64 (1))) (.int .i64 (Sa).k) (.int .i64 (1)) (.bool true) (fun _ => rfl) rfl rfl (eqI qk _ _ _) rfl ?_
  refine wl_pick (.tmp 67) (.tmp 70) (.const (.bool false)) true (.bool true) (fun _ => rfl) rfl rfl rfl ?_
  refine wl_mv (.tmp 71) (.bool true) (fun _ => rfl) rfl rfl ?_
  refine wl_un (fun v => Instr.fieldAt 42 v 5) (.tmp 3) (pt k5 0) (pt k5 5) (fun _ => rfl) rfl (by kernel_rfl) rfl ?_
  refine wl_bin (fun x y => Instr.indexAt 36 x y) (.tmp 73) (.const (.int .i64 (0))) (pt k5 5) (.int .i64 (0)) (pt k5 5) (fun _ => rfl) rfl rfl (by kernel_rfl) rfl ?_
  refine wl_load 34 (.tmp 74) (pt k5 5) (.int .u64 (l0 (Sa).tt)) rfl rfl (run_one Q5 34 5 rfl Try.underlying34 rfl) rfl ?_
  refine wl_bin (fun x y => do eqGuard .eql 34 (.tmp 75) (.const (.int .u64 (150))) x y; binOp .eql 34 x y) (.tmp 75) (.const (.int .u64 (150))) (.int .u64 (l0 (Sa).tt)) (.int .u64 (150)) (.bool true) (fun _ => rfl) rfl rfl (eqU qt _ _ _) rfl ?_
  refine wl_pick (.tmp 72) (.tmp 76) (.const (.bool false)) true (.bool true) (fun _ => rfl) rfl rfl rfl ?_
  refine wl_mv (.tmp 77) (.bool true) (fun _ => rfl) rfl rfl ?_
  refine wl_un (fun v => Instr.fieldAt 42 v 5) (.tmp 5) (pt k6 0) (pt k6 5) (fun _ => rfl) rfl (by kernel_rfl) rfl ?_
  refine wl_bin (fun x y => Instr.indexAt 36 x y) (.tmp 79) (.const (.int .i64 (0))) (pt k6 5) (.int .i64 (0)) (pt k6 5) (fun _ => rfl) rfl rfl (by kernel_rfl) rfl ?_
  refine wl_load 34 (.tmp 80) (pt k6 5) (.int .u64 (l0 (Sb).tt)) rfl rfl (run_one Q6 34 5 rfl Try.underlying34 rfl) rfl ?_
  refine wl_bin (fun x y => do eqGuard .eql 34 (.tmp 81) (.const (.int .u64 (650))) x y; binOp .eql 34 x y) (.tmp 81) (.const (.int .u64 (650))) (.int .u64 (l0 (Sb).tt)) (.int .u64 (650)) (.bool true) (fun _ => rfl) rfl rfl (eqU qu _ _ _) rfl ?_
  refine wl_pick (.tmp 78) (.tmp 82) (.const (.bool false)) true (.bool true) (fun _ => rfl) rfl rfl rfl ?_
  refine wl_mv (.tmp 83) (.bool true) (fun _ => rfl) rfl rfl ?_
  refine w_nil ?_
  refine xn_then ?_
  refine w_ret ?_
  exact w_ret1 _ (.bool true) rfl rfl ⟨rfl, M⟩
end
end G
end Go.Proofs.Ythfemlhmnjfjiaa
/-
  Walks within a fence: rounds of a range over a function, iterators, frames with marks among their deferred calls.
-/
namespace Go.Proofs.Ythfemlhmnjfjiaa
open Go.RowKit
namespace G
namespace R
/-- Deferred calls more. -/
def wd (a : Act) (ds : List Deferred) : Act := { a with defers := a.defers ++ ds }
def Fw (ro : Option Nat) : Fence := { Fence.wide with round := ro }
theorem wd_put (a : Act) (ds : List Deferred) (d : Option Tmp) (v : Value) : wd (a.put d v) ds = (wd a ds).put d v := by cases d <;> rfl
def Wd (ds : List Deferred) (Q : Exit → Act → World → Prop) : Exit → Act → World → Prop
  | .outgrown, _, _ => False
  | e, a, w => Q e (wd a ds) w
theorem wd_out (ds : List Deferred) (Q : Exit → Act → World → Prop) : ¬ LetsOut (Wd ds Q) := fun ⟨_, _, h⟩ => h
def notDefer (o : Oper) : Bool := match o.op with
  | .defer _ => false
  | _ => true
theorem notDefer_spec {o : Oper} (h : notDefer o = true) : ∀ c, o.op ≠ .defer c := fun c e => by simp [notDefer, e] at h
theorem rowsIn_of {ro : Option Nat} {m : Nat} {P : Program} {row : String} {args : Array Value} {w : World} {X : Value → World → Prop} (h : Rows P row args w X) : RowsIn (Fw ro) m P row args w X :=
  fun c cs _ => let ⟨v, w', r, s⟩ := h c cs; ⟨v, w', r, (show StepsIn (Machine.fenced P Fence.wide) P _ _ from stepsIn_wide.2 s)⟩
theorem callsIn_of {ro : Option Nat} {m : Nat} {P : Program} {f : FuncId} {args : Array Value} {w : World} {X : Ending → World → Prop} (h : Calls P f args w X) : CallsIn (Fw ro) m P f args w X := (show CallsIn Fence.wide m P f args w X from callsIn_wide.2 h)
theorem calls_of {m : Nat} {P : Program} {f : FuncId} {args : Array Value} {w : World} {X : Ending → World → Prop} (h : CallsIn (Fw none) m P f args w X) : Calls P f args w X := callsIn_wide.1 (show CallsIn Fence.wide m P f args w X from h)
theorem op_in {ro : Option Nat} {m : Nat} {ds : List Deferred} {P : Program} {o : Oper} {a : Act} {w : World} {K K' : Act → World → Prop} {Q : Exit → Act → World → Prop} (hnd : notDefer o = true) (hK : ∀ a w, K a w → K' (wd a ds) w) (h : o.wp P a w K (Wd ds Q)) : o.wpIn (Fw ro) m P (wd a ds) w K' Q := by
  refine ⟨fun _ _ => trivial, ?_⟩
  have he : (wd a ds).eval = a.eval := rfl
  rw [he, Oper.semAt_eq _ _ _ (notDefer_spec hnd)]
  unfold Oper.wp at h
  cases hr : (execOp a.eval o).run P w with
  | ok x w' =>
    rw [hr] at h
    cases x with
    | value v => have := hK _ _ h; rw [wd_put] at this; exact this
    | skip => have := hK _ _ h; rw [wd_put] at this; exact this
    | defer d => have := hK _ _ h; rw [wd_put] at this; exact this
    | enter f args =>
      refine ⟨(fun e => by cases e), callsIn_of (Calls.mono h ?_)⟩
      intro e w'' q
      cases e with
      | returned v => have := hK _ _ q; rw [wd_put] at this; exact this
      | panicked c => exact q
      | outgrown => exact absurd q (wd_out ds Q)
    | row r args => exact ⟨(fun e => by cases e), rowsIn_of (Rows.mono h (fun v w'' q => by have := hK _ _ q; rw [wd_put] at this; exact this))⟩
    | _ => exact h.elim
  | halt r w' =>
    rw [hr] at h
    cases r with
    | panic v => exact h
    | _ => exact h.elim
theorem list_in {ro : Option Nat} {m : Nat} {ds : List Deferred} {P : Program} {ops : Array Oper} {Q : Exit → Act → World → Prop} : ∀ (r : List Oper) (a : Act) (w : World), r.all notDefer = true → wpList P ops (Wd ds Q) r a w → wpListIn (Fw ro) m P ops Q r (wd a ds) w
  | [], _, _, _, h => h
  | o :: r, a, w, hn, h => by
    simp only [List.all_cons, Bool.and_eq_true] at hn
    unfold wpList at h
    unfold wpListIn
    have e : (wd a ds).tmps = a.tmps := rfl
    rw [e]
    split
    · rename_i hw
      rw [if_pos hw] at h
      rcases h with h | ⟨_, h⟩
      · exact op_in hn.1 (fun a w q => list_in r a w hn.2 q) h
      · exact absurd h (wd_out ds Q)
    · rename_i hw
      rw [if_neg hw] at h
      refine ⟨fun _ _ => trivial, ?_⟩
      have := list_in (m := m) (ro := ro) r _ w hn.2 h
      rw [wd_put] at this
      exact this
theorem any_in {ro : Option Nat} {m : Nat} {ds : List Deferred} {P : Program} {ops : Array Oper} {md : Region.Mode} {Q : Exit → Act → World → Prop} (hn : ops.all notDefer = true) : ∀ (fuel : Nat) (listed : Array Bool) (a : Act) (w : World), wpAny P md ops (Wd ds Q) fuel listed a w → wpAnyIn (Fw ro) m P md ops Q fuel listed (wd a ds) w
  | 0, _, _, _, h => h
  | fuel + 1, listed, a, w, h => by
    refine ⟨h.1, fun i hi => ?_⟩
    have h1 := h.2 i hi
    unfold wpOp at h1
    unfold wpOpIn
    cases ho : ops[i]? with
    | none => simp only [ho] at h1 ⊢; exact any_in hn fuel _ a w h1
    | some o =>
      simp only [ho] at h1 ⊢
      have hno : notDefer o = true := by
        obtain ⟨hi', e⟩ := Array.getElem?_eq_some_iff.1 ho
        rw [← e]; exact Array.all_eq_true.1 hn i hi'
      have e : (wd a ds).tmps = a.tmps := rfl
      rw [e]
      split
      · rename_i hw
        rw [if_pos hw] at h1
        rcases h1 with h1 | ⟨_, h1⟩
        · exact op_in hno (fun a w q => any_in hn fuel _ a w q) h1
        · exact absurd h1 (wd_out ds Q)
      · rename_i hw
        rw [if_neg hw] at h1
        refine ⟨fun _ _ => trivial, ?_⟩
        have := any_in (m := m) (ro := ro) hn fuel _ _ w h1
        rw [wd_put] at this
        exact this
structure RC (ro : Option Nat) (m : Nat) (ds : List Deferred) (P : Program) (c : Code) (Q : Exit → Act → World → Prop) (n : Nat) (l : List (Nat × Value)) (w : World) : Prop where
  out : c.wpIn (Fw ro) m P Q (wd (fr n l) ds) w
structure RL (ro : Option Nat) (m : Nat) (ds : List Deferred) (P : Program) (ops : Array Oper) (Q : Exit → Act → World → Prop) (r : List Oper) (n : Nat) (l : List (Nat × Value)) (w : World) : Prop where
  out : wpListIn (Fw ro) m P ops Q r (wd (fr n l) ds) w
section
variable {ro : Option Nat} {m : Nat} {ds : List Deferred} {P : Program} {o : Oper} {n : Nat} {l : List (Nat × Value)} {w : World} {ops : Array Oper} {rest : List Oper} {Q : Exit → Act → World → Prop} {K : Act → World → Prop}
theorem w_enter {f : FuncId} {fn : Func} {c : Code} {args : Array Value} {X : Ending → World → Prop} (n : Nat) (hf : P.funcs[f]? = some fn) (hn : fn.ntmps = n) (hb : fn.body = some c)
    (ha : Nat.ble args.size n = true) (h : RC none m [] P c (bodyPostM (Fw none) m P fn X) n (argl 0 args.toList) w) : CallsIn (Fw none) m P f args w X := by
  refine callsIn_of_wp_marks hf hb trivial ?_ rfl
  rw [hn, fr_args n args (Nat.le_of_ble_eq_true ha)]
  exact h.out
theorem w_seq {x y : Code} (h : RC ro m ds P x (Exit.then (y.wpIn (Fw ro) m P Q) Q) n l w) : RC ro m ds P (Code.seq x y) Q n l w := ⟨wpIn_seq h.out⟩
theorem w_block {id : Nat} {c : Code} (h : RC ro m ds P c (Exit.inBlock id Q) n l w) : RC ro m ds P (Code.block id c) Q n l w := ⟨wpIn_block h.out⟩
theorem w_skip (h : WX (Wd ds Q) .normal n l w) : RC ro m ds P .skip Q n l w := ⟨wpIn_skip h.out⟩
theorem w_ret (h : WX (Wd ds Q) .ret n l w) : RC ro m ds P .ret Q n l w := ⟨wpIn_ret h.out⟩
theorem w_exit {id : Nat} (h : WX (Wd ds Q) (.exit id) n l w) : RC ro m ds P (.exit id) Q n l w := ⟨wpIn_exit h.out⟩
theorem ev_wd (x : Operand) : (wd (fr n l) ds).eval x = evl n l x := (show (fr n l).eval x = _ from by rw [fr_eval])
theorem w_condT {c : Operand} {x y : Code} (hc : evl n l c = .bool true) (h : RC ro m ds P x Q n l w) : RC ro m ds P (Code.cond c x y) Q n l w := ⟨wpIn_cond_true ((ev_wd c).trans hc) h.out⟩
theorem w_condF {c : Operand} {x y : Code} (hc : evl n l c = .bool false) (h : RC ro m ds P y Q n l w) : RC ro m ds P (Code.cond c x y) Q n l w := ⟨wpIn_cond_false ((ev_wd c).trans hc) h.out⟩
theorem w_reg {id : Nat} {ol : List Oper} (h : WL P ol.toArray (Wd ds Q) ol n l w) (hn : ol.all notDefer = true := by rfl) : RC ro m ds P (Code.region id ol.toArray false) Q n l w := ⟨wpIn_region_lit (list_in ol _ _ hn h.out)⟩
theorem w_regL {id : Nat} {ol : List Oper} (h : RL ro m ds P ol.toArray Q ol n l w) : RC ro m ds P (Code.region id ol.toArray false) Q n l w := ⟨wpIn_region_lit h.out⟩
theorem xn_then {y : Code} {Q' : Exit → Act → World → Prop} (h : RC ro m ds P y Q n l w) : WX (Wd ds (Exit.then (y.wpIn (Fw ro) m P Q) Q')) .normal n l w := ⟨h.out⟩
theorem xn_blk {id : Nat} (h : WX (Wd ds Q) .normal n l w) : WX (Wd ds (Exit.inBlock id Q)) .normal n l w := ⟨h.out⟩
theorem xx_then {next : Act → World → Prop} {id : Nat} (h : WX (Wd ds Q) (.exit id) n l w) : WX (Wd ds (Exit.then next Q)) (.exit id) n l w := ⟨h.out⟩
theorem xx_blk {id : Nat} (h : WX (Wd ds Q) .normal n l w) : WX (Wd ds (Exit.inBlock id Q)) (.exit id) n l w := ⟨by
  show Exit.inBlock id Q (.exit id) _ _
  simp only [Exit.inBlock, if_true]; exact h.out⟩
theorem xr_then {next : Act → World → Prop} (h : WX (Wd ds Q) .ret n l w) : WX (Wd ds (Exit.then next Q)) .ret n l w := ⟨h.out⟩
theorem xr_blk {id : Nat} (h : WX (Wd ds Q) .ret n l w) : WX (Wd ds (Exit.inBlock id Q)) .ret n l w := ⟨h.out⟩
theorem w_loop {c : Code} (I : Nat → List (Nat × Value) → World → Prop) (k : Nat) (h0 : I k l w)
    (round : ∀ k l w, I k l w → RC ro m ds P c (Exit.then (fun a w' => ∃ k' l', k' < k ∧ a = wd (fr n l') ds ∧ I k' l' w') Q) n l w) : RC ro m ds P (Code.loop c) Q n l w := by
  refine ⟨?_⟩
  have key : ∀ k : Nat, ∀ l w, I k l w → (Code.loop c).wpIn (Fw ro) m P Q (wd (fr n l) ds) w := by
    intro m0 l0 w0 hI0
    refine wpIn_loop (fun a w => ∃ k l, a = wd (fr n l) ds ∧ I k l w) (fun a w => Classical.epsilon (least (fun k => ∃ l, a = wd (fr n l) ds ∧ I k l w))) ⟨m0, l0, rfl, hI0⟩ ?_
    rintro a w ⟨k, l, rfl, hI⟩
    obtain ⟨l2, e2, hI2⟩ := (least_ok (p := fun k => ∃ l', wd (fr n l) ds = wd (fr n l') ds ∧ I k l' w) ⟨k, l, rfl, hI⟩).1
    rw [e2]
    refine Go.wpIn_mono (round _ l2 w hI2).out ?_
    intro e a' w' hq
    cases e with
    | normal =>
      obtain ⟨m', l', hlt, rfl, hI'⟩ := hq
      refine ⟨⟨m', l', rfl, hI'⟩, Nat.lt_of_le_of_lt ((least_ok (p := fun k => ∃ l'', wd (fr n l') ds = wd (fr n l'') ds ∧ I k l'' w') ⟨m', l', rfl, hI'⟩).2 m' ⟨l', rfl, hI'⟩) ?_⟩
      rw [← e2]; exact hlt
    | _ => exact hq
  exact key k l w h0
theorem xn_loop {I : Nat → List (Nat × Value) → World → Prop} {k : Nat} (k' : Nat) (hlt : k' < k) (h : I k' l w) : WX (Wd ds (Exit.then (fun a w' => ∃ k' l', k' < k ∧ a = wd (fr n l') ds ∧ I k' l' w') Q)) .normal n l w := ⟨⟨k', l, hlt, rfl, h⟩⟩
/-- An operation of a list that holds a call of yield. -/
theorem rl_o (hg : wnt n l ops o = true) (h : WO P o n l w (fun a w' => ∃ l', a = fr n l' ∧ RL ro m ds P ops Q rest n l' w') (Wd ds Q)) (hn : notDefer o = true := by rfl) : RL ro m ds P ops Q (o :: rest) n l w := by
  refine ⟨?_⟩
  unfold wpListIn
  have hw : Region.wanted o (yielded ops (wd (fr n l) ds).tmps) = true := (fr_wanted n l ops o).trans hg
  rw [if_pos hw]
  exact op_in hn (fun a w' ⟨l', e, h'⟩ => e ▸ h'.out) h.out
theorem rl_nil (h : WX (Wd ds Q) .normal n l w) : RL ro m ds P ops Q [] n l w := ⟨h.out⟩
theorem rl_yield (x : Operand) (xs : List Operand) (ats : Array TypeId) (args : List Value) (lp : Nat) {X : Ending → World → Prop} (ho : o.op = .call { callee := .value x, args := xs.toArray, argTypes := ats }) (hx : evl n l x = .func (.yield lp) #[] #[]) (hxs : xs.map (evl n l) = args) (hg : wnt n l ops o = true)
    (hY : YieldAt (Fw none) (m - 1) P lp args.toArray w X) (hk : ∀ e w', X e w' → ∃ v, e = .returned v ∧ RL none m ds P ops Q rest n (ext l o.dst v) w') : RL none m ds P ops Q (o :: rest) n l w := by
  refine ⟨?_⟩
  unfold wpListIn
  have hw : Region.wanted o (yielded ops (wd (fr n l) ds).tmps) = true := (fr_wanted n l ops o).trans hg
  rw [if_pos hw]
  refine ⟨fun _ _ => trivial, ?_⟩
  obtain ⟨fn, tmps, assign, body, hy, hR⟩ := hY
  have he : (wd (fr n l) ds).eval = evl n l := funext fun x => ev_wd x
  rw [he]
  have hr : ((Oper.semAt (Fw none).round (evl n l) o).run P w) = .ok (.round lp fn tmps assign body) w := by
    show (execOp (evl n l) o).run P w = _
    unfold execOp
    simp only [ho, resolve, invoke, Sem.run_bind, List.map_toArray, hx, hxs]
    simp [go_sem, hy]
  rw [hr]
  refine ⟨(fun e => by cases e), hR.mono fun e w' q => ?_⟩
  obtain ⟨v, rfl, h⟩ := hk e w' q
  have := h.out
  rw [← fr_put, wd_put] at this
  exact this
/-- A function's results. -/
theorem w_ret1 {fn : Func} {X : Ending → World → Prop} (x : ResultVar) (v : Value) (hf : fn.results = #[x]) (h : resv n l P w v x) (hR : X (.returned v) w) : WX (Wd [] (bodyPostM (Fw none) m P fn X)) .ret n l w := ⟨by
  obtain ⟨_, v', h1, h2⟩ := c_ret1 (R := X) x v hf h hR
  exact ⟨v', h1, h2⟩⟩
end
end R
end G
end Go.Proofs.Ythfemlhmnjfjiaa
/-
  A range over a function: the law, where nothing is frozen on the way.
-/
namespace Go.Proofs.Ythfemlhmnjfjiaa
open Go.RowKit
namespace G
namespace R
/-- What the loop says between two rounds abides new blocks, and turns of the loop's own. -/
def OwnF {β : Type} (B : Nat) (I : β → World → Prop) : Prop :=
  ∀ s W W' row, I s W → W.grownBy W' row → (∀ a, W'.frozen? a = W.frozen? a) → (∀ r, row = some r → B ≤ r ∧ ∃ o : Obj, W.heap[r]? = some o ∧ o.isCells = false) → I s W'
/-- It abides new blocks. -/
def AbF {β : Type} (J : β → World → Prop) : Prop := ∀ s W W', J s W → Mo W W' → J s W'
theorem mo_grown {W W' : World} (m : Mo W W') : W.grownBy W' none := ⟨m.1.os, m.1.tape, m.1.output, m.1.size, fun k hk _ => m.1.block k hk⟩
theorem OwnF.mo {β : Type} {B : Nat} {I : β → World → Prop} (h : OwnF B I) {s : β} {W W' : World} (hs : I s W) (m : Mo W W') : I s W' := h s W W' none hs (mo_grown m) m.2 (fun _ e => by cases e)
theorem frozen_not {w : World} {o : Obj} {a : Addr} (h : w.heap[a.block]? = some o) (ho : o.isCells = false) : w.frozen? a = false := by
  unfold World.frozen?
  rw [h]
  cases o <;> first | rfl | cases ho
theorem frozen_put {W : World} {l : Nat} {o o' : Obj} (hl : W.heap[l]? = some o) (ho : o.isCells = false) (ho' : o'.isCells = false) (a : Addr) : (W.putObj l o').frozen? a = W.frozen? a := by
  by_cases e : a.block = l
  · have h1 : (W.putObj l o').heap[a.block]? = some o' := by rw [e]; exact World.putObj_heap_same (Array.getElem?_eq_some_iff.1 hl).1
    have h2 : W.heap[a.block]? = some o := by rw [e]; exact hl
    rw [frozen_not h1 ho', frozen_not h2 ho]
  · exact World.frozen?_of_block (World.putObj_heap_other (fun q => e q))
theorem OwnF.putObj {β : Type} {B : Nat} {I : β → World → Prop} (h : OwnF B I) {s : β} {W : World} {l : Nat} {o : Obj} (o' : Obj) (hs : I s W) (hB : B ≤ l) (hl : W.heap[l]? = some o) (ho : o.isCells = false) (ho' : o'.isCells = false) : I s (W.putObj l o') :=
  h s W _ (some l) hs (grownBy_putObj' W l o') (frozen_put hl ho ho') (fun r e => by cases e; exact ⟨hB, o, hl, ho⟩)
theorem frozen_alloc {W : World} {o : Obj} (ho : o.isCells = false) (a : Addr) : (W.alloc o).frozen? a = W.frozen? a := by
  by_cases e : a.block = W.heap.size
  · have h1 : (W.alloc o).heap[a.block]? = some o := by rw [e]; exact World.alloc_heap_new W o
    rw [frozen_not h1 ho]
    unfold World.frozen?
    rw [Array.getElem?_eq_none (by omega)]
  · refine World.frozen?_of_block ?_
    rcases Nat.lt_or_ge a.block W.heap.size with h | h
    · exact Below.heap_alloc W o _ h
    · rw [Array.getElem?_eq_none (by simp; omega), Array.getElem?_eq_none (by omega)]
theorem Mo.allocO {W : World} {o : Obj} (ho : o.isCells = false) : Mo W (W.alloc o) := ⟨(Below.refl _ W).alloc (Nat.le_refl _) _, frozen_alloc ho⟩
/-- An iterator: what it hands to the rounds, where each round keeps Kp. -/
def SeqF {α : Type} (m : Nat) (P : Program) (g : Nat) (ra lb : Array Value) (encs : α → Array Value) (Kp : World → World → Prop) (S Sp : List α → Prop) (N : Nat) (w : World) : Prop :=
  ∀ (l : Nat) (J Jx : List α → World → Prop) (W : World), Mo w W → AbF J → AbF Jx →
    (∀ pre x W1, J pre W1 → pre.length < N → YieldAt (Fw none) (m - 1) P l (encs x) W1 fun e W' =>
      (e = .returned (.bool true) ∧ J (pre ++ [x]) W' ∧ Kp W1 W') ∨ (e = .returned (.bool false) ∧ Jx (pre ++ [x]) W')) →
    J [] W →
    CallsIn (Fw none) m P g (ra ++ #[.func (.yield l) #[] #[]] ++ lb) W fun e W' => (∃ v, e = .returned v) ∧ ((∃ xs, S xs ∧ J xs W') ∨ (∃ pre, Sp pre ∧ Jx pre W'))
section
variable {m : Nat} {ds : List Deferred} {P : Program} {n : Nat} {l : List (Nat × Value)} {w : World} {Q : Exit → Act → World → Prop}
theorem w_rf {α : Type} {g : Operand} {ps : Array Tmp} {assign body : Code} (gf : Nat) (ra lb : Array Value) (hg : evl n l g = .func (.func gf) ra lb) (eg : ∀ args w, (callFunc gf args).run P w = .ok (.enter gf args) w)
    (encs : α → Array Value) (Kp : World → World → Prop) (S Sp : List α → Prop) (N : Nat) (hseq : SeqF (m - 1) P gf ra lb encs Kp S Sp N w)
    (hKt : ∀ {A B C : World}, Kp A B → Kp B C → Kp A C) (hKb : ∀ (W : World) (l : Nat) (o o' : Obj), w.heap.size ≤ l → W.heap[l]? = some o → o.isCells = false → o'.isCells = false → Kp W (W.putObj l o')) (hps : ∀ x, (encs x).size = ps.size)
    (I : List α → World → Prop) (Ix : Code → List α → World → Prop) (hI : OwnF w.heap.size I) (hIx : ∀ c, OwnF w.heap.size (Ix c)) (h0 : I [] w) (la lx : α → List (Nat × Value))
    (hfr : ∀ x, ({ tmps := (ps.zip (encs x)).foldl (fun t (p, v) => t.setIfInBounds p v) (fr n l).tmps, defers := [] } : Act) = fr n (la x))
    (hassign : ∀ (lp : Nat) (x : α) (W : World) (K : Act → World → Prop), WX (Wd [] (Exit.then K (fun _ _ _ => False))) .normal n (lx x) W → RC (some lp) (m - 1 - 1) [] P assign (Exit.then K (fun _ _ _ => False)) n (la x) W)
    (hbody : ∀ (lp : Nat) (pre : List α) (x : α) (W : World), I pre W → pre.length < N → RC (some lp) (m - 1 - 1) [] P body (ownPostG w.heap.size Kp I Ix (pre ++ [x]) W) n (lx x) W)
    (hdone : ∀ (D : Nat) (xs : List α) (W : World), w.heap.size ≤ D → S xs → I xs W → W.heap[D]? = some (.deferred (some [])) → WX (Wd ({ target := .collected D, args := #[] } :: ds) Q) .normal n l W)
    (hstop : ∀ (D : Nat) (c : Code) (pre : List α) (W : World), w.heap.size ≤ D → Sp pre → Ix c pre W → W.heap[D]? = some (.deferred (some [])) → RC none m ({ target := .collected D, args := #[] } :: ds) P c Q n l W) :
    RC none m ds P (Code.rangeFunc g ps assign body) Q n l w := by
  refine ⟨wpIn_rangeFunc ?_⟩
  intro fn hfn
  have hro : (Fw none).round = none := rfl
  rw [hro]
  have hg' : (wd (fr n l) ds).eval g = .func (.func gf) ra lb := (ev_wd g).trans hg
  have htm : (wd (fr n l) ds).tmps = (fr n l).tmps := rfl
  obtain ⟨rec, hrec⟩ : ∃ rec : LoopState → Option Code → Loop, rec = fun st pe => { state := st, pending := pe, fn, tmps := (fr n l).tmps, params := ps, assign, body, defers := w.heap.size } := ⟨_, rfl⟩
  obtain ⟨W1, hW1⟩ : ∃ W1, (w.alloc (.deferred (some []))).alloc (.loop (rec .ready none)) = W1 := ⟨_, rfl⟩
  have hm1 : Mo w W1 := by rw [← hW1]; exact (Mo.allocO rfl).trans (Mo.allocO rfl)
  have hL1 : W1.heap[w.heap.size + 1]? = some (.loop (rec .ready none)) := by
    rw [← hW1]; have := World.alloc_heap_new (w.alloc (.deferred (some []))) (.loop (rec .ready none)); rwa [World.size_alloc] at this
  have hK1 : W1.heap[w.heap.size]? = some (.deferred (some [])) := by
    rw [← hW1]; exact (Below.heap_alloc _ _ _ (by simp)).trans (World.alloc_heap_new w _)
  have hI1 : I [] W1 := hI.mo h0 hm1
  refine ⟨w.heap.size + 1, [{ target := .collected w.heap.size, args := #[] }], W1, { target := .fn (.func gf) lb, args := ra ++ #[.func (.yield (w.heap.size + 1)) #[] #[]] }, W1, gf,
    ra ++ #[.func (.yield (w.heap.size + 1)) #[] #[]] ++ lb, W1, ?_, ?_, ?_, ?_, (fun e => by cases e), ?_⟩
  · rw [← hW1, hrec]; exact run_enterLoop_outer _ _ _ _ _
  · simp only [resolve, hg']
    simp [go_sem]
  · intro f' hf'; trivial
  · simp [invoke, go_sem, eg]
  · refine (hseq (w.heap.size + 1)
      (fun pre W => I pre W ∧ W.heap[w.heap.size + 1]? = some (.loop (rec .ready none)) ∧ W.heap[w.heap.size]? = some (.deferred (some [])))
      (fun pre W => ∃ c, Ix c pre W ∧ W.heap[w.heap.size + 1]? = some (.loop (rec .done (some c))) ∧ W.heap[w.heap.size]? = some (.deferred (some [])))
      W1 hm1
      (fun s A B hs mo => ⟨hI.mo hs.1 mo, (mo.1.block _ (Array.getElem?_eq_some_iff.1 hs.2.1).1).trans hs.2.1, (mo.1.block _ (Array.getElem?_eq_some_iff.1 hs.2.2).1).trans hs.2.2⟩)
      (fun s A B hs mo => by
        obtain ⟨c, hc, hl, hk⟩ := hs
        exact ⟨c, (hIx c).mo hc mo, (mo.1.block _ (Array.getElem?_eq_some_iff.1 hl).1).trans hl, (mo.1.block _ (Array.getElem?_eq_some_iff.1 hk).1).trans hk⟩)
      ?_ ⟨hI1, hL1, hK1⟩).mono ?_
    · rintro pre x W ⟨hi, hl, hk⟩ hlen
      have hlt : w.heap.size + 1 < W.heap.size := (Array.getElem?_eq_some_iff.1 hl).1
      have hy := run_yield (P := P) (args := encs x) hl (by rw [hrec]; exact hps x)
      rw [hrec] at hy
      have ha : ∀ K : Act → World → Prop, K (fr n (lx x)) W → assign.wpIn ((Fw none).inRound (w.heap.size + 1)) (m - 1 - 1) P (Exit.then K (fun _ _ _ => False)) { tmps := (ps.zip (encs x)).foldl (fun t (p, v) => t.setIfInBounds p v) (fr n l).tmps, defers := [] } W := fun K hK => by
        rw [hfr x]
        exact (hassign (w.heap.size + 1) x W K ⟨hK⟩).out
      refine ⟨fn, _, assign, body, hy, roundIn_of_wpIn hfn (ha _ ⟨_, run_beginRound hl (by rw [hrec]), ?_⟩)⟩
      have hl2 : (W.putObj (w.heap.size + 1) (.loop { rec .ready none with state := .busy })).heap[w.heap.size + 1]? = some (.loop { rec .ready none with state := .busy }) := World.putObj_heap_same hlt
      have hk2 : (W.putObj (w.heap.size + 1) (.loop { rec .ready none with state := .busy })).heap[w.heap.size]? = some (.deferred (some [])) := (World.putObj_heap_other (by omega)).trans hk
      have hw2 : Kp W (W.putObj (w.heap.size + 1) (.loop { rec .ready none with state := .busy })) := hKb _ _ _ _ (by omega) hl rfl rfl
      refine Go.wpIn_mono (hbody _ pre x _ (hI.putObj _ hi (by omega) hl rfl rfl) hlen).out ?_
      have fin : ∀ (jump : Option Code) (W3 : World), KeepsFrom w.heap.size (W.putObj (w.heap.size + 1) (.loop { rec .ready none with state := .busy })) W3 →
          (Instr.endRound (w.heap.size + 1) jump).run P W3 = .ok (.bool jump.isNone) (W3.putObj (w.heap.size + 1) (.loop (rec (if jump.isNone then .ready else .done) jump))) ∧
          W3.heap[w.heap.size + 1]? = some (.loop { rec .ready none with state := .busy }) ∧
          (W3.putObj (w.heap.size + 1) (.loop (rec (if jump.isNone then .ready else .done) jump))).heap[w.heap.size + 1]? = some (.loop (rec (if jump.isNone then .ready else .done) jump)) ∧
          (W3.putObj (w.heap.size + 1) (.loop (rec (if jump.isNone then .ready else .done) jump))).heap[w.heap.size]? = some (.deferred (some [])) := fun jump W3 hk3 => by
        have hl3 := hk3.same _ _ (by omega) hl2 rfl
        have := run_endRound (P := P) jump hl3
        rw [hrec] at this ⊢
        exact ⟨this, by rw [hrec] at hl3; exact hl3, World.putObj_heap_same (Array.getElem?_eq_some_iff.1 hl3).1, (World.putObj_heap_other (by omega)).trans (hk3.same _ _ (Nat.le_refl _) hk2 rfl)⟩
      rintro e a3 W3 hp
      cases e with
      | normal =>
        obtain ⟨hk3, hkp3, hi3⟩ := hp
        obtain ⟨hr, hl3, hl4, hk4⟩ := fin none W3 hk3
        exact ⟨_, _, hr, .inl ⟨rfl, ⟨hI.putObj _ hi3 (by omega) hl3 rfl rfl, hl4, hk4⟩, hKt (hKt hw2 hkp3) (hKb _ _ _ _ (by omega) hl3 rfl rfl)⟩⟩
      | ret =>
        obtain ⟨hk3, hi3⟩ := hp
        obtain ⟨hr, hl3, hl4, hk4⟩ := fin (some .ret) W3 hk3
        exact ⟨_, _, hr, .inr ⟨rfl, .ret, (hIx _).putObj _ hi3 (by omega) hl3 rfl rfl, hl4, hk4⟩⟩
      | exit id =>
        obtain ⟨hk3, hi3⟩ := hp
        obtain ⟨hr, hl3, hl4, hk4⟩ := fin (some (.exit id)) W3 hk3
        exact ⟨_, _, hr, .inr ⟨rfl, .exit id, (hIx _).putObj _ hi3 (by omega) hl3 rfl rfl, hl4, hk4⟩⟩
      | goto t =>
        obtain ⟨hk3, hi3⟩ := hp
        obtain ⟨hr, hl3, hl4, hk4⟩ := fin (some (.goto t)) W3 hk3
        exact ⟨_, _, hr, .inr ⟨rfl, .goto t, (hIx _).putObj _ hi3 (by omega) hl3 rfl rfl, hl4, hk4⟩⟩
      | panic ch => exact hp.elim
      | outgrown => exact hp.elim
    · rintro e W2 ⟨⟨v, rfl⟩, (⟨xs, hS, hi, hl, hk⟩ | ⟨pre, hSp, c, hi, hl, hk⟩)⟩
      · exact ⟨none, _, by have := run_endLoop (P := P) hl (by rw [hrec]; simp); rw [hrec] at this; exact this, (hdone _ xs _ (Nat.le_refl _) hS (hI.putObj _ hi (by omega) hl rfl rfl) ((World.putObj_heap_other (by omega)).trans hk)).out⟩
      · exact ⟨some c, _, by have := run_endLoop (P := P) hl (by rw [hrec]; simp); rw [hrec] at this; exact this, (hstop _ c pre _ (Nat.le_refl _) hSp ((hIx c).putObj _ hi (by omega) hl rfl rfl) ((World.putObj_heap_other (by omega)).trans hk)).out⟩
end
end R
end G
end Go.Proofs.Ythfemlhmnjfjiaa
/-
  inOrder: the records in order.
-/
namespace Go.Proofs.Ythfemlhmnjfjiaa
open Go.RowKit
namespace G
theorem At.grown {W W' : World} {row : Option Nat} {k : Nat} {v : Value} {vs : List Value} (h : At W k (v :: vs)) (hg : W.grownBy W' row) (hr : ∀ r, row = some r → ∃ o : Obj, W.heap[r]? = some o ∧ o.isCells = false) : At W' k (v :: vs) := by
  have h0 := h.cell (j := 0) (v := v) rfl
  obtain ⟨o, ho, hc⟩ := cells_of_cell h0
  have hb : W'.heap[k]? = W.heap[k]? := grownBy_keeps_cells hg hr ho hc
  refine ⟨fun j u hu => (World.cell?_of_block (a := ⟨k, 0 + j, none⟩) hb).trans (h.1 j u hu), fun o => (World.frozen?_of_block (a := ⟨k, o, none⟩) hb).trans (h.2.1 o), Nat.lt_of_lt_of_le h.2.2 hg.size⟩
namespace R
theorem frps1 {n : Nat} {l : List (Nat × Value)} (p : Tmp) (u : Value) : ({ tmps := ((#[p] : Array Tmp).zip #[u]).foldl (fun t (p, v) => t.setIfInBounds p v) (fr n l).tmps, defers := [] } : Act) = fr n (ext l (some p) u) := by
  rw [← fr_put]; simp [Act.put]; rfl
theorem frps2 {n : Nat} {l : List (Nat × Value)} (p q : Tmp) (u v : Value) : ({ tmps := ((#[p, q] : Array Tmp).zip #[u, v]).foldl (fun t (p, v) => t.setIfInBounds p v) (fr n l).tmps, defers := [] } : Act) = fr n (ext (ext l (some p) u) (some q) v) := by
  rw [← fr_put, ← fr_put]; simp [Act.put]; rfl
theorem Mo.putO {a W : World} (h : Mo a W) {D : Nat} {o o' : Obj} (hD : a.heap.size ≤ D) (hl : W.heap[D]? = some o) (ho : o.isCells = false) (ho' : o'.isCells = false) : Mo a (W.putObj D o') :=
  ⟨⟨h.1.os, h.1.tape, h.1.output, by have := h.1.size; simpa using this, fun k hk => (World.putObj_heap_other (by omega)).trans (h.1.block k hk)⟩, fun x => (frozen_put hl ho ho' x).trans (h.2 x)⟩
theorem own_moF {β : Type} {B : Nat} {a : World} (ha : a.heap.size ≤ B) : OwnF B (fun (_ : β) W => Mo a W) := fun _ W W' row hs hg hf hr =>
  ⟨⟨hg.os.trans hs.1.os, hg.tape.trans hs.1.tape, hg.output.trans hs.1.output, Nat.le_trans hs.1.size hg.size, fun k hk => (hg.block k (Nat.lt_of_lt_of_le hk hs.1.size) (fun e => by have := (hr k e.symm).1; omega)).trans (hs.1.block k hk)⟩, fun x => (hf x).trans (hs.2 x)⟩
theorem OwnF.and {β : Type} {B : Nat} {I J : β → World → Prop} (h : OwnF B I) (k : OwnF B J) : OwnF B (fun s W => I s W ∧ J s W) := fun s W W' row hs hg hf hr => ⟨h s W W' row hs.1 hg hf hr, k s W W' row hs.2 hg hf hr⟩
theorem OwnF.pure {β : Type} {B : Nat} {p : β → Prop} : OwnF B (fun s _ => p s) := fun _ _ _ _ hs _ _ _ => hs
theorem OwnF.at {β : Type} {B k : Nat} {f : β → Value} {g : β → List Value} : OwnF B (fun s W => At W k (f s :: g s)) := fun _ _ _ _ hs hg _ hr => At.grown hs hg (fun r e => (hr r e).2)
section
variable {m : Nat} {ds : List Deferred} {P : Program} {n : Nat} {l : List (Nat × Value)} {w : World}
theorem w_ret0 {fn : Func} {X : Ending → World → Prop} (hf : fn.results = #[]) (hR : X (.returned (.tuple #[])) w) : WX (Wd [] (bodyPostM (Fw none) m P fn X)) .ret n l w := ⟨⟨.tuple #[], by simp [results, hf], hR⟩⟩
theorem w_end0 {fn : Func} {X : Ending → World → Prop} (hf : fn.results = #[]) (hR : X (.returned (.tuple #[])) w) : WX (Wd [] (bodyPostM (Fw none) m P fn X)) .normal n l w := ⟨⟨.tuple #[], by simp [results, hf], hR⟩⟩
theorem w_ret1m {fn : Func} {X : Ending → World → Prop} (D : Nat) (x : ResultVar) (v : Value) (hf : fn.results = #[x]) (hK : w.heap[D]? = some (.deferred (some []))) (h : resv n l P (w.putObj D (.deferred none)) v x) (hR : X (.returned v) (w.putObj D (.deferred none))) : WX (Wd [{ target := .collected D, args := #[] }] (bodyPostM (Fw none) m P fn X)) .ret n l w := ⟨by
  obtain ⟨_, v', h1, h2⟩ := c_ret1 (R := X) x v hf h hR
  exact ⟨by simp, .inl ⟨D, _, rfl, run_takeDeferred hK, v', h1, h2⟩⟩⟩
end
end R
namespace R
theorem dk_st {w w' : World} {D k : Nat} {o : Obj} (h : w.heap[D]? = some o) (s : St2 k w w') (hk : D ≠ k) : w'.heap[D]? = some o := (s.block D hk).trans h
theorem dk_mo {w w' : World} {D : Nat} {o : Obj} (h : w.heap[D]? = some o) (m : Mo w w') : w'.heap[D]? = some o := (m.1.block D (Array.getElem?_eq_some_iff.1 h).1).trans h
theorem dk_ne {w : World} {D k : Nat} {o : Obj} {v : Value} {vs : List Value} (h : w.heap[D]? = some o) (ho : o.isCells = false) (hA : At w k (v :: vs)) : D ≠ k := fun e => by
  subst e
  obtain ⟨o', ho', hc⟩ := cells_of_cell (hA.cell (j := 0) (v := v) rfl)
  have : o = o' := by have := h.symm.trans ho'; cases this; rfl
  subst this; rw [ho] at hc; cases hc
end R
/-- These blocks lie as they lay. -/
def Kd (D : Nat → Prop) (W W' : World) : Prop := ∀ k, D k → W'.heap[k]? = W.heap[k]?
theorem Kd.tr {D : Nat → Prop} {A B C : World} (h : Kd D A B) (k : Kd D B C) : Kd D A C := fun j hj => (k j hj).trans (h j hj)
/-- The tree's blocks, and the scales'. -/
def Dh (D : Nat → Prop) (mb : Hd) (j : Nat) : Prop := D j ∨ ob mb.h = some j
theorem at_kd {W W' : World} {k : Nat} {vs : List Value} (h : At W k vs) (hb : W'.heap[k]? = W.heap[k]?) : At W' k vs :=
  ⟨fun j u hu => (World.cell?_of_block (a := ⟨k, 0 + j, none⟩) hb).trans (h.1 j u hu), fun o => (World.frozen?_of_block (a := ⟨k, o, none⟩) hb).trans (h.2.1 o), by
    rcases Nat.lt_or_ge k W'.heap.size with q | q
    · exact q
    · rw [Array.getElem?_eq_none q, Array.getElem?_eq_getElem h.2.2] at hb; cases hb⟩
theorem lt_kd {W W' : World} {k : Nat} (h : k < W.heap.size) (hb : W'.heap[k]? = W.heap[k]?) : k < W'.heap.size := by
  rcases Nat.lt_or_ge k W'.heap.size with q | q
  · exact q
  · rw [Array.getElem?_eq_none q, Array.getElem?_eq_getElem h] at hb; cases hb
theorem Rw.kd {W W' : World} {m : Nat} {h : Value} {L : List (List Value)} (r : Rw W m h L) (hk : ∀ b, ob h = some b → W'.heap[b]? = W.heap[b]?) : Rw W' m h L := by
  obtain ⟨p, cap, rfl, f⟩ := r
  refine ⟨p, cap, rfl, fun hL => ?_⟩
  obtain ⟨b, off, rfl, h2, h3, h4⟩ := f hL
  have hb := hk b (ob_slice (fun e => hL (List.length_eq_zero_iff.1 e)))
  exact ⟨b, off, rfl, lt_kd h2 hb, fun o => (World.frozen?_of_block (a := ⟨b, o, none⟩) hb).trans (h3 o), fun i cs hi j v hv => (World.cell?_of_block (a := ⟨b, off + i * m + j, none⟩) hb).trans (h4 i cs hi j v hv)⟩
theorem Rw.has {W : World} {m : Nat} {h : Value} {L : List (List Value)} (r : Rw W m h L) (hL : ∀ cs ∈ L, cs ≠ []) {b : Nat} (e : ob h = some b) : ∃ o v, W.cell? ⟨b, o, none⟩ = some v := by
  obtain ⟨p, cap, rfl, f⟩ := r
  obtain ⟨a, n, cap2, e1, e2⟩ := ob_some e
  rw [Value.slice.injEq] at e1
  have e3 : p = some a ∧ L.length = n + 1 := ⟨e1.1, e1.2.1⟩
  have hne : L ≠ [] := fun q => by rw [q] at e3; cases e3.2
  obtain ⟨b2, off, h1, h2, _, h4⟩ := f hne
  rw [h1] at e3
  cases e3.1
  obtain ⟨cs, hcs⟩ : ∃ cs, L[0]? = some cs := ⟨L[0]'(by omega), List.getElem?_eq_getElem _⟩
  have hc := hL cs (List.mem_of_getElem? hcs)
  obtain ⟨v, hv⟩ : ∃ v, cs[0]? = some v := by
    cases cs with
    | nil => exact absurd rfl hc
    | cons v vs => exact ⟨v, rfl⟩
  have e4 : b2 = b := e2
  subst e4
  exact ⟨_, v, h4 0 cs hcs 0 v hv⟩
theorem HS.kd2 {D : Nat → Prop} {W W' : World} {t : Nat} {mb : Hd} {R : Mp} {root : Option Nat} {lk : Int} (h : HS D W t mb R root lk) (hlt : ∀ k, D k → k < W'.heap.size) (hk : ∀ b, (∃ o v, W.cell? ⟨b, o, none⟩ = some v) → Dh D mb b → W'.heap[b]? = W.heap[b]?) : HS D W' t mb R root lk := by
  have hA : ∀ {k : Nat} {v : Value} {vs : List Value}, At W k (v :: vs) → ∃ o u, W.cell? ⟨k, o, none⟩ = some u := fun {k v vs} a => ⟨_, v, a.1 0 v rfl⟩
  have sms : ∀ L : List Sm, ∀ cs ∈ L.map sml, cs ≠ [] := fun L cs hc => by obtain ⟨z, _, rfl⟩ := List.mem_map.1 hc; intro q; cases q
  have vss : ∀ L : List V10, ∀ cs ∈ L.map V10.cells, cs ≠ [] := fun L cs hc => by obtain ⟨z, _, rfl⟩ := List.mem_map.1 hc; intro q; cases q
  refine ⟨at_kd h.tr (hk t (hA h.tr) (Or.inl h.dt)), h.sc.kd (fun b hb => hk b (h.sc.has (fun cs hc => by obtain ⟨z, _, rfl⟩ := List.mem_map.1 hc; intro q; cases q) hb) (Or.inr hb)), h.sd, fun j r e => at_kd (h.rc j r e) (hk j (hA (h.rc j r e)) (Or.inl (h.dk e))), fun j r e => ?_, fun j r e => ⟨(h.sv j r e).1.kd (fun b hb => hk b ((h.sv j r e).1.has (vss _) hb) (Or.inl (h.ds e (Or.inl hb)).1)), (h.sv j r e).2⟩, fun j r e => ⟨(h.ss j r e).1.kd (fun b hb => hk b ((h.ss j r e).1.has (sms _) hb) (Or.inl (h.ds e (Or.inr hb)).1)), (h.ss j r e).2⟩, h.mt, h.dt, h.dk, h.ds, fun e => hlt _ e, h.nb, h.nc⟩
  obtain ⟨cs, ty, hc⟩ := h.cb j r e
  exact ⟨cs, ty, (hk j (hA (h.rc j r e)) (Or.inl (h.dk e))).trans hc⟩
theorem HS.kd {D : Nat → Prop} {W W' : World} {t : Nat} {mb : Hd} {R : Mp} {root : Option Nat} {lk : Int} (h : HS D W t mb R root lk) (k : Kd (Dh D mb) W W') : HS D W' t mb R root lk :=
  h.kd2 (fun j hj => lt_kd (h.lt hj) (k j (Or.inl hj))) (fun b _ hb => k b hb)
theorem HS.grown {D : Nat → Prop} {W W' : World} {row : Option Nat} {t : Nat} {mb : Hd} {R : Mp} {root : Option Nat} {lk : Int} (h : HS D W t mb R root lk) (hg : W.grownBy W' row) (hr : ∀ r, row = some r → ∃ o : Obj, W.heap[r]? = some o ∧ o.isCells = false) : HS D W' t mb R root lk :=
  h.kd2 (fun j hj => Nat.lt_of_lt_of_le (h.lt hj) hg.size) (fun b ⟨o, v, hc⟩ _ => by
    obtain ⟨o', ho, hcc⟩ := cells_of_cell hc
    exact grownBy_keeps_cells hg hr ho hcc)
/-- The rows with their blocks, in order. -/
def T.ky : T → List (Py × Nat)
  | .e => []
  | .n k i _ l r => l.ky ++ (i, k) :: r.ky
theorem T.ky_kv : ∀ tr : T, tr.kv = tr.ky.map (fun x => (x.1.i, x.2))
  | .e => rfl
  | .n k i s l r => by unfold T.kv T.ky; rw [T.ky_kv l, T.ky_kv r]; simp
theorem T.ky_ids : ∀ tr : T, tr.ids = tr.ky.map (·.1)
  | .e => rfl
  | .n k i s l r => by unfold T.ids T.ky; rw [T.ky_ids l, T.ky_ids r]; simp
/-- A row with its record. -/
abbrev Rx (R : Mp) := { x : Py × Nat // ∃ r : Rc, R x.2 = some r ∧ r.i = x.1 }
theorem rep_rx {sc : List Int} {R : Mp} : ∀ {tr : T} {u : Option Nat}, Rep sc R u tr → ∀ x ∈ tr.ky, ∃ r : Rc, R x.2 = some r ∧ r.i = x.1
  | .e, _, _, _, h => by cases h
  | .n k i s l r, u, h, x, hx => by
    simp only [T.ky, List.mem_append, List.mem_cons] at hx
    rcases hx with hx | rfl | hx
    · exact rep_rx h.2.1 x hx
    · obtain ⟨h9, e9⟩ := h.1; exact ⟨_, e9, rfl⟩
    · exact rep_rx h.2.2 x hx
theorem lift_list {β : Type} {p : β → Prop} : ∀ (l : List β), (∀ x ∈ l, p x) → ∃ L : List { x // p x }, L.map (·.1) = l
  | [], _ => ⟨[], rfl⟩
  | a :: l, h => by
    obtain ⟨L, hL⟩ := lift_list l (fun x hx => h x (List.mem_cons_of_mem _ hx))
    exact ⟨⟨a, h a List.mem_cons_self⟩ :: L, by simp [hL]⟩
theorem map_at {β : Type} {p : β → Prop} {L : List { x // p x }} {l : List β} (h : L.map (·.1) = l) {i : Nat} {a : β} {x : { x // p x }} (ha : l[i]? = some a) (hx : L[i]? = some x) : x.1 = a := by
  have h9 : (L.map (·.1))[i]? = some x.1 := by simp [hx]
  rw [h, ha] at h9
  cases h9; rfl
namespace R
/-- inOrder: each record once, in their order, where a round keeps the tree's cells. -/
theorem io_seq {m t : Nat} {mb : Hd} {D : Nat → Prop} {w : World} {R : Mp} {lk : Int} {tr : T} (hS0 : HS D w t mb R tr.p lk) (hA : Ap R) (hC : RepC mb.sc R tr.p [] tr.p) (hR : Rep mb.sc R (top []) tr) (hn : (adC [] ++ tr.ad).Nodup) (hnd : (tr.ids.map (·.i)).Nodup) {KV : List (Rx R)} (hKV : KV.map (·.1) = tr.ky) :
    SeqF m Try.prog 56 #[pt t 0] #[] (fun x : Rx R => #[pt x.1.2 0]) (Kd (Dh D mb)) (fun xs => xs = KV) (fun pre => ∃ i : Nat, 0 < i ∧ i ≤ KV.length ∧ pre = KV.take i) KV.length w := by
  intro lp J Jx W hW hJ hJx hY h0
  have hS := hS0.mo hW
  refine w_enter 18 Try.func56 Try.ntmps56 rfl rfl ?_
  have M : Mo W W := Mo.refl _
  refine w_seq ?_
  refine w_reg ?_
  refine wl_mv (.tmp 0) (pt t 0) (fun _ => rfl) rfl rfl ?_
  refine wl_nc (.tmp 5) t 0 rfl rfl rfl ?_
  refine wl_un (fun v => Instr.fieldAt 68 v 1) (.tmp 6) (pt t 0) (pt t 1) (fun _ => rfl) rfl (by kernel_rfl) rfl ?_
  refine wl_load 65 (.tmp 7) (pt t 1) (pp tr.p) rfl rfl (run_one hS.tr 65 1 rfl Try.underlying65 rfl) rfl ?_
  refine wl_call 70 [(.tmp 8), (.const (.int .i64 (0)))] _ [pp tr.p, .int .i64 (0)] (pp (lm tr)) rfl rfl (fun _ _ => by kernel_rfl) (outer_n hS hR) rfl ?_
  intro w1 hq
  replace hS := hS.mo hq
  replace h0 := hJ _ _ _ h0 hq
  replace M := M.trans hq
  clear hq
  refine wl_mv (.tmp 9) (pp (lm tr)) (fun _ => rfl) rfl rfl ?_
  refine w_nil ?_
  refine xn_then ?_
  refine w_block ?_
  refine w_loop (fun k l wc => ∃ i : Nat, k + i = KV.length ∧ look l 0 = pt t 0 ∧ look l 1 = .func (.yield lp) #[] #[] ∧ look l 4 = pp ((tr.kv[i]?).map (·.2)) ∧ J (KV.take i) wc ∧ HS D wc t mb R tr.p lk) KV.length ⟨0, by omega, rfl, rfl, by rw [lm_kv, List.head?_eq_getElem?]; rfl, h0, hS⟩ ?_
  clear h0 hS M
  rintro k l wc ⟨i, hm, g0, g1, g4, hJi, hS⟩
  have M : Mo wc wc := Mo.refl _
  have hkl : KV.length = tr.ky.length := by rw [← hKV]; simp
  rw [T.ky_kv, List.getElem?_map] at g4
  cases hxi : tr.ky[i]? with
  | none =>
    rw [hxi] at g4
    have hi9 : i = KV.length := by have := List.getElem?_eq_none_iff.1 hxi; omega
    refine w_seq ?_
    refine w_seq ?_
    refine w_reg ?_
    refine wl_mv (.tmp 4) (pp none) (fun _ => rfl) g4 rfl ?_
    refine wl_bin (fun x y => do eqGuard .neq 65 (.tmp 10) (.const (.pointer none)) x y; binOp .neq 65 x y) (.tmp 10) (.const (.pointer none)) (pp none) (pp none) (.bool false) (fun _ => rfl) rfl rfl (neP none _ _ _) rfl ?_
    refine w_nil ?_
    refine xn_then ?_
    refine w_condF rfl ?_
    refine w_exit ?_
    refine xx_then ?_
    refine xx_then ?_
    refine xx_blk ?_
    exact w_end0 rfl ⟨⟨_, rfl⟩, .inl ⟨_, by rw [hi9, List.take_length], hJi⟩⟩
  | some xk =>
    have hlt := (List.getElem?_eq_some_iff.1 hxi).1
    obtain ⟨x, hx⟩ : ∃ x, KV[i]? = some x := ⟨KV[i]'(by omega), List.getElem?_eq_getElem _⟩
    have hxe : x.1 = xk := map_at hKV hxi hx
    subst hxe
    rw [hxi] at g4
    replace g4 : look l 4 = pt x.1.2 0 := g4
    have htk : KV.take (i + 1) = KV.take i ++ [x] := by rw [List.take_add_one, hx]; rfl
    refine w_seq ?_
    refine w_seq ?_
    refine w_reg ?_
    refine wl_mv (.tmp 4) (pt x.1.2 0) (fun _ => rfl) g4 rfl ?_
    refine wl_bin (fun x y => do eqGuard .neq 65 (.tmp 10) (.const (.pointer none)) x y; binOp .neq 65 x y) (.tmp 10) (.const (.pointer none)) (pt x.1.2 0) (pp none) (.bool true) (fun _ => rfl) rfl rfl (neP (some x.1.2) _ _ _) rfl ?_
    refine w_nil ?_
    refine xn_then ?_
    refine w_condT rfl ?_
    refine w_skip ?_
    refine xn_then ?_
    refine w_seq ?_
    refine w_block ?_
    refine w_seq ?_
    refine w_regL ?_
    refine rl_o rfl (wo_mv (.tmp 1) (.func (.yield lp) #[] #[]) (fun _ => rfl) g1 ⟨_, rfl, ?_⟩)
    refine rl_o rfl (wo_mv (.tmp 4) (pt x.1.2 0) (fun _ => rfl) g4 ⟨_, rfl, ?_⟩)
    refine rl_yield (.tmp 14) [(.tmp 15)] _ [pt x.1.2 0] lp rfl rfl rfl rfl (hY (KV.take i) x _ hJi (by rw [List.length_take]; omega)) ?_
    rintro e w11 (⟨rfl, hJ2, hk2⟩ | ⟨rfl, hJx2⟩)
    · refine ⟨_, rfl, ?_⟩
      rw [← htk] at hJ2
      replace hS := hS.kd hk2
      clear M
      have M : Mo w11 w11 := Mo.refl _
      refine rl_o rfl (wo_un (fun v => Op.unary .not v) (.tmp 16) (.bool true) (.bool false) (fun _ => rfl) rfl (by kernel_rfl) ⟨_, rfl, ?_⟩)
      refine rl_nil ?_
      refine xn_then ?_
      refine w_condF rfl ?_
      refine w_skip ?_
      refine xn_blk ?_
      refine xn_then ?_
      refine w_reg ?_
      refine wl_mv (.tmp 4) (pt x.1.2 0) (fun _ => rfl) g4 rfl ?_
      refine wl_call 71 [(.tmp 12)] _ [pt x.1.2 0] (pp ((tr.kv[i + 1]?).map (·.2))) rfl rfl (fun _ _ => by kernel_rfl) (next_n (x := (x.1.1.i, x.1.2)) ⟨hS, hA, hC, hR, hn⟩ hnd (by rw [T.ky_kv, List.getElem?_map, hxi]; rfl)) rfl ?_
      intro w12 hq
      replace hS := hS.mo hq
      replace hJ2 := hJ _ _ _ hJ2 hq
      replace M := M.trans hq
      clear hq
      refine wl_mv (.tmp 13) (pp ((tr.kv[i + 1]?).map (·.2))) (fun _ => rfl) rfl rfl ?_
      refine w_nil ?_
      exact xn_loop (k - 1) (by omega) ⟨i + 1, by omega, g0, g1, rfl, hJ2, hS⟩
    · refine ⟨_, rfl, ?_⟩
      rw [← htk] at hJx2
      refine rl_o rfl (wo_un (fun v => Op.unary .not v) (.tmp 16) (.bool false) (.bool true) (fun _ => rfl) rfl (by kernel_rfl) ⟨_, rfl, ?_⟩)
      refine rl_nil ?_
      refine xn_then ?_
      refine w_condT rfl ?_
      refine w_ret ?_
      refine xr_blk ?_
      refine xr_then ?_
      refine xr_then ?_
      refine xr_blk ?_
      exact w_ret0 rfl ⟨⟨_, rfl⟩, .inr ⟨_, ⟨i + 1, by omega, by omega, rfl⟩, hJx2⟩⟩
end R
end G
end Go.Proofs.Ythfemlhmnjfjiaa
/-
  Rows put behind a slice of one's own.
-/
namespace Go.Proofs.Ythfemlhmnjfjiaa
open Go.RowKit
namespace G
/-- What an append leaves as it was. -/
structure AppW (v : Value) (w w' : World) : Prop where
  os : w'.os = w.os
  tape : w'.tape = w.tape
  output : w'.output = w.output
  size : w.heap.size ≤ w'.heap.size
  block : ∀ k, k < w.heap.size → v.ownBlock ≠ some k → w'.heap[k]? = w.heap[k]?
  fz : ∀ a, w'.frozen? a = w.frozen? a
theorem AppW.at {v : Value} {w w' : World} (h : AppW v w w') {j : Nat} {vs : List Value} (hA : At w j vs) (hn : v.ownBlock ≠ some j) : At w' j vs :=
  ⟨fun i u hu => (World.cell?_of_block (a := ⟨j, 0 + i, none⟩) (h.block j hA.2.2 hn)).trans (hA.1 i u hu), fun o => (h.fz _).trans (hA.2.1 o), Nat.lt_of_lt_of_le hA.2.2 h.size⟩
theorem AppW.mo {v : Value} {w w' a : World} (h : AppW v w w') (hM : Mo a w) (hn : ∀ k, v.ownBlock = some k → a.heap.size ≤ k) : Mo a w' :=
  ⟨⟨h.os.trans hM.1.os, h.tape.trans hM.1.tape, h.output.trans hM.1.output, Nat.le_trans hM.1.size h.size, fun k hk => (h.block k (Nat.lt_of_lt_of_le hk hM.1.size) (fun e => by have := hn k e; omega)).trans (hM.1.block k hk)⟩, fun x => (h.fz x).trans (hM.2 x)⟩
theorem AppW.refl (v : Value) (w : World) : AppW v w w.drew := ⟨rfl, rfl, rfl, Nat.le_refl _, fun _ _ _ => rfl, fun _ => rfl⟩
theorem AppW.trans {v : Value} {a b c : World} (h : AppW v a b) (k : AppW v b c) : AppW v a c :=
  ⟨k.os.trans h.os, k.tape.trans h.tape, k.output.trans h.output, Nat.le_trans h.size k.size, fun j hj hn => (k.block j (Nat.lt_of_lt_of_le hj h.size) hn).trans (h.block j hj hn), fun a => (k.fz a).trans (h.fz a)⟩
theorem AppW.grow {v : Value} {a b c : World} (h : AppW v a b) (k : Mo b c) : AppW v a c :=
  ⟨k.1.os.trans h.os, k.1.tape.trans h.tape, k.1.output.trans h.output, Nat.le_trans h.size k.size, fun j hj hn => (k.1.block j (Nat.lt_of_lt_of_le hj h.size)).trans (h.block j hj hn), fun a => (k.2 a).trans (h.fz a)⟩
theorem inf295 : ∃ i, Try.prog.info? 83 = some i ∧ i.zero = some (.agg #[.int .i64 0, .slice none 0 0]) ∧ i.size = 2 ∧ i.bytes = 32 := by
  have h : (Try.prog.info? 83).map (fun i => (i.zero, i.size, i.bytes)) = some (some (.agg #[.int .i64 0, .slice none 0 0]), 2, 32) := by kernel_rfl
  cases hi : Try.prog.info? 83 with
  | none => rw [hi] at h; cases h
  | some i =>
    rw [hi] at h
    simp at h
    exact ⟨i, rfl, h.1, h.2.1, h.2.2⟩
theorem own_mo95 {w w' : World} {N : Nat} {v : Value} {n : Nat} {xs : List Value} (h : w.ownsRow N 83 2 v n xs) (m : Mo w w') : w'.ownsRow N 83 2 v n xs :=
  h.kept (row := none) ⟨m.1.os, m.1.tape, m.1.output, m.1.size, fun k hk _ => m.1.block k hk⟩ (by cases e : v.ownBlock <;> simp)
theorem app95 (w : World) (ty : TypeId) (N : Nat) (v : Value) (n : Nat) (xs : List Value) (hown : w.ownsRow N 83 2 v n xs) (k m c : Nat) (news : List Value) (hl : news.length = m * 2) (hA : At w k news) (h1 : ∀ u ∈ news, u.oneCell' = true) (hm : 0 < m) (hn : n + m ≤ 700000000000) (hN : N ≤ w.heap.size) :
    ∃ v' w', (Builtin.append_ #[95, 95] ty #[v, .slice (some ⟨k, 0, none⟩) m c]).run Try.prog w = .ok v' w' ∧ w'.ownsRow N 83 2 v' (n + m) (xs ++ news) ∧ AppW v w w' ∧ (v'.ownBlock = v.ownBlock ∨ v'.ownBlock = some w.heap.size) := by
  obtain ⟨i, hi, hz, hs, hby⟩ := inf295
  have hnews : ∀ j u, news[j]? = some u → w.cell? ((⟨k, 0, none⟩ : Addr).add j) = some u := fun j u hu => by
    rw [Addr.add_mid]; have := hA.1 j u hu; simpa using this
  obtain ⟨v', w', hr, h2, h3, _, h5⟩ := run_append_own_at (P := Try.prog) w N 95 ty 83 i _ 2 32 Try.underlying95 hi hz hs hby rfl (by decide) v n xs hown ⟨k, 0, none⟩ m c news hl hnews h1 (by unfold maxLen; omega) (by omega) hN
  refine ⟨v', w', hr, h2, ⟨h3.os, h3.tape, h3.output, h3.size, fun j hj hne => h3.block j hj (fun e => hne e.symm), ?_⟩, h5⟩
  rcases hown.2 with ⟨rfl, rfl⟩ | ⟨g, cap, cur, rfl, hbg, hg, hnc, hcm, hcs, htake⟩
  · have hr2 := run_append_nil (P := Try.prog) w 95 ty 83 i _ Try.underlying95 hi hz ⟨k, 0, none⟩ m c news (by rw [hs]; exact hl) hnews hm (by omega) (by first | omega | (rw [hby]; omega) | (rw [hby]; exact growslice_fits (n := 0) (by omega) (by omega)))
    rw [hr2] at hr
    cases hr
    exact ((Mo.refl w).drew.alloc _ _).2
  · by_cases hroom : n + m ≤ cap
    · have hr2 := run_append_room (P := Try.prog) w 95 ty 83 i Try.underlying95 hi g n cap cur hg ⟨k, 0, none⟩ m c news (by rw [hs]; exact hl) hnews h1 hroom (by rw [hs]; first | omega | (rw [hl]; omega) | (simp [hl]; omega))
      rw [hr2] at hr
      cases hr
      intro a
      by_cases e : a.block = g
      · have h9 := setRow_heap w g cur (cur.toList.take (n * i.size) ++ news ++ cur.toList.drop (n * i.size + news.length)).toArray 83 (0, 0) hg
        simp only [World.frozen?, e, h9, hg]
      · exact World.frozen?_of_block (setRow_other w g a.block _ e)
    · have hr2 := run_append_grow (P := Try.prog) w 95 ty 83 i _ Try.underlying95 hi hz ⟨g, 0, none⟩ n cap xs (by rw [hs]; exact hown.1) (hown.cells (g := g) rfl) ⟨k, 0, none⟩ m c news (by rw [hs]; exact hl) hnews (by omega) (by omega) (by rw [hby]; exact growslice_fits (by omega) (by omega))
      rw [hr2] at hr
      cases hr
      exact ((Mo.refl w).drew.alloc _ _).2
theorem appk95 (w : World) (ty : TypeId) (N : Nat) (v : Value) (n : Nat) (xs : List Value) (hown : w.ownsRow N 83 2 v n xs) (k m c : Nat) (news : List Value) (hl : news.length = m * 2) (hA : At w k news) (h1 : ∀ u ∈ news, u.oneCell' = true) (hm : 0 < m) (hn : n + m ≤ 700000000000) (hN : N ≤ w.heap.size) :
    ∃ v' w', (Builtin.append_ #[95, 95] ty #[v, .slice (some ⟨k, 0, none⟩) m c]).run Try.prog w = .ok v' w' ∧ w'.ownsRow N 83 2 v' (n + m) (xs ++ news) ∧ AppW v w w' ∧ (v'.ownBlock = v.ownBlock ∨ v'.ownBlock = some w.heap.size) ∧ w'.ownsRow N 83 2 v n xs := by
  obtain ⟨v', w', hr, h2, h3, h5⟩ := app95 w ty N v n xs hown k m c news hl hA h1 hm hn hN
  refine ⟨v', w', hr, h2, h3, h5, ?_⟩
  obtain ⟨i, hi, hz, hs, hby⟩ := inf295
  have hnews : ∀ j u, news[j]? = some u → w.cell? ((⟨k, 0, none⟩ : Addr).add j) = some u := fun j u hu => by
    rw [Addr.add_mid]; have := hA.1 j u hu; simpa using this
  rcases hown.2 with ⟨rfl, rfl⟩ | ⟨g, cap, cur, rfl, hbg, hg, hnc, hcm, hcs, htake⟩
  · exact ⟨hown.1, .inl ⟨rfl, rfl⟩⟩
  · by_cases hroom : n + m ≤ cap
    · have hr2 := run_append_room (P := Try.prog) w 95 ty 83 i Try.underlying95 hi g n cap cur hg ⟨k, 0, none⟩ m c news (by rw [hs]; exact hl) hnews h1 hroom (by rw [hs]; first | omega | (rw [hl]; omega) | (simp [hl]; omega))
      rw [hr2] at hr
      cases hr
      have h9 := setRow_heap w g cur (cur.toList.take (n * i.size) ++ news ++ cur.toList.drop (n * i.size + news.length)).toArray 83 (0, 0) hg
      rw [hs] at h9 ⊢
      have hsz : n * 2 + m * 2 ≤ cap * 2 := by rw [← Nat.add_mul]; exact Nat.mul_le_mul_right _ hroom
      have hcl : cur.toList.length = cap * 2 := by simpa using hcs
      refine ⟨hown.1, .inr ⟨g, cap, _, rfl, hbg, h9, hnc, hcm, ?_, ?_⟩⟩
      · have : (cur.toList.take (n * 2) ++ news ++ cur.toList.drop (n * 2 + news.length)).length = cap * 2 := by
          rw [List.length_append, List.length_append, List.length_take, List.length_drop, hcl, hl]; omega
        simpa using this
      · show (cur.toList.take (n * 2) ++ news ++ cur.toList.drop (n * 2 + news.length)).take (n * 2) = xs
        rw [List.append_assoc, List.take_append_of_le_length (by rw [List.length_take]; omega), List.take_take, Nat.min_self]; exact htake
    · have hr2 := run_append_grow (P := Try.prog) w 95 ty 83 i _ Try.underlying95 hi hz ⟨g, 0, none⟩ n cap xs (by rw [hs]; exact hown.1) (hown.cells (g := g) rfl) ⟨k, 0, none⟩ m c news (by rw [hs]; exact hl) hnews (by omega) (by omega) (by rw [hby]; exact growslice_fits (by omega) (by omega))
      rw [hr2] at hr
      cases hr
      exact own_mo95 hown ((Mo.refl w).drew.alloc _ _)
section
variable {o : Oper} {n : Nat} {l : List (Nat × Value)} {w : World} {ops : Array Oper} {rest : List Oper} {Q : Exit → Act → World → Prop} {K : Act → World → Prop}
theorem wo_app95 (s x : Operand) (N : Nat) (v : Value) (q : Nat) (xs : List Value) (k m c : Nat) (news : List Value) (ho : o.op = .call { callee := .builtin .append, args := #[s, x], argTypes := #[95, 95] }) (hs : evl n l s = v) (hx : evl n l x = .slice (some ⟨k, 0, none⟩) m c)
    (hown : w.ownsRow N 83 2 v q xs) (hl : news.length = m * 2) (hA : At w k news) (h1 : ∀ u ∈ news, u.oneCell' = true) (hm : 0 < m) (hn : q + m ≤ 700000000000) (hN : N ≤ w.heap.size)
    (hk : ∀ v' w', w'.ownsRow N 83 2 v' (q + m) (xs ++ news) → AppW v w w' → w'.ownsRow N 83 2 v q xs → (v'.ownBlock = v.ownBlock ∨ v'.ownBlock = some w.heap.size) → K (fr n (ext l o.dst v')) w') : WO Try.prog o n l w K Q := by
  obtain ⟨v', w', hr, h2, h3, h6, h5⟩ := appk95 w o.type N v q xs hown k m c news hl hA h1 hm hn hN
  refine ⟨o_val v' (w' := w') ?_ (hk v' w' h2 h3 h5 h6)⟩
  unfold execOp
  simp only [ho, resolve, invoke, builtin, Sem.run_bind, Sem.run_pure, Result.andThen_ok, List.map_toArray, List.map_cons, List.map_nil, hs, hx, hr]
end
theorem own_st295 {w w' : World} {N k : Nat} {v : Value} {n : Nat} {xs : List Value} (h : w.ownsRow N 83 2 v n xs) (m : St2 k w w') (hne : v.ownBlock ≠ some k) : w'.ownsRow N 83 2 v n xs :=
  h.kept (row := some k) ⟨m.os, m.tape, m.output, Nat.le_of_eq m.size.symm, fun j _ hj => m.block j (fun e => hj (by rw [e]))⟩ (Or.inr hne)
theorem own_grown95 {w w' : World} {row : Option Nat} {N : Nat} {v : Value} {n : Nat} {xs : List Value} (h : w.ownsRow N 83 2 v n xs) (hg : w.grownBy w' row) (hr : ∀ r, row = some r → ∃ o : Obj, w.heap[r]? = some o ∧ o.isCells = false) : w'.ownsRow N 83 2 v n xs :=
  h.kept hg (by
    rcases h.2 with ⟨rfl, _⟩ | ⟨g, cap, cur, rfl, _, hg0, _⟩
    · exact Or.inl rfl
    · refine Or.inr (fun e => ?_)
      obtain ⟨o, ho, hc⟩ := hr g e.symm
      rw [hg0] at ho; cases ho; cases hc)
end G
end Go.Proofs.Ythfemlhmnjfjiaa
/-
  rows: copies of all rows.
-/
namespace Go.Proofs.Ythfemlhmnjfjiaa
open Go.RowKit
namespace G
section
variable {P : Program} {n : Nat} {l : List (Nat × Value)} {w : World} {Q : Exit → Act → World → Prop}
theorem R.w_ogc {ro : Option Nat} {m0 : Nat} {ds : List Deferred} {id : Nat} {ops : List Oper} (m : Nat) (G : World → Prop) (sp : List (Value → World → Prop)) (fs : List Nat) (hm : P.follows .mixedOrders = true)
    (hb : edgesBack .any ops.toArray = true) (hd : dstsApart (ops.take m) = true) (hc : chainB ops m fs = true) (hl : Nat.ble m ops.length = true) (hf : floatB ops m fs = true) (hns : Region.noSelect ops.toArray = true) (hnd : ops.toArray.all R.notDefer = true)
    (hlate : ∀ i, i ∈ fs → LateC P ops (R.Wd ds Q) n l m sp i) (hG : G w.drew) (hs : Each (OgC P ops (R.Wd ds Q) n l m G sp) 0 (ops.take m))
    (hend : ∀ f w', G w' → (∀ i, Nat.blt i m = true → spQ sp i (f i) w') → WL P ops.toArray (R.Wd ds Q) (ops.drop m) n (asg f 0 (ops.take m) l) w') : R.RC ro m0 ds P (Code.region id ops.toArray true) Q n l w :=
  ⟨wpIn_region_any hm (R.any_in hnd _ _ _ _ (a_ogc m G sp fs hb hd hc hl hf hns hlate hG hs hend))⟩
end
/-- Rows as cells: an id and a slice of values. -/
def rws (Z : List (Py × Value)) : List Value := Z.flatMap (fun z => [.int .i64 z.1.i, z.2])
theorem rws_len : ∀ Z : List (Py × Value), (rws Z).length = Z.length * 2
  | [] => rfl
  | z :: Z => by
    have := rws_len Z
    unfold rws at this ⊢
    rw [List.flatMap_cons, List.length_append, this]
    simp only [List.length_cons, List.length_nil]; omega
theorem rws_at : ∀ (Z : List (Py × Value)) (i : Nat) (z : Py × Value), Z[i]? = some z → ∀ j v, ([.int .i64 z.1.i, z.2] : List Value)[j]? = some v → (rws Z)[i * 2 + j]? = some v
  | [], _, _, h, _, _, _ => by cases h
  | T :: Z, 0, S, h, j, v, hv => by
    cases h
    have hj : j < 2 := (List.getElem?_eq_some_iff.1 hv).1
    unfold rws
    rw [List.flatMap_cons, List.getElem?_append_left (by show _ < 2; omega), Nat.zero_mul, Nat.zero_add]; exact hv
  | T :: Z, i + 1, S, h, j, v, hv => by
    have := rws_at Z i S h j v hv
    unfold rws at this ⊢
    rw [List.flatMap_cons, List.getElem?_append_right (by show 2 ≤ _; omega), show (i + 1) * 2 + j - ([.int .i64 T.1.i, T.2] : List Value).length = i * 2 + j from by show (i + 1) * 2 + j - 2 = _; omega]; exact this
/-- The block that a slice's cells lie in. -/
def pb (p : Option Addr) (k : Nat) : Prop := ∃ off, p = some ⟨k, off, none⟩
/-- Rows lie there. -/
def RA (w : World) (p : Option Addr) (Z : List (Py × Value)) : Prop := ∀ i z, Z[i]? = some z → ∃ b off, p = some ⟨b, off, none⟩ ∧ b < w.heap.size ∧ w.rangeAt b (off + i * 2) [.int .i64 z.1.i, z.2]
def RV (w : World) (Z : List (Py × Value)) : Prop := ∀ z ∈ Z, Rw w 10 z.2 (z.1.vs.map V10.cells)
theorem own_ra {w : World} {N : Nat} {v : Value} {n : Nat} {Z : List (Py × Value)} (h : w.ownsRow N 83 2 v n (rws Z)) : ∃ pa cap, v = .slice pa Z.length cap ∧ RA w pa Z ∧ (∀ k, pb pa k → N ≤ k ∧ k < w.heap.size) := by
  have h0 := h
  have hn : n = Z.length := by have := h.1; rw [rws_len] at this; omega
  subst hn
  rcases h.2 with ⟨hv, h2⟩ | ⟨g, cap, cur, hv, hbg, hg, hnc, hcm, hcs, htake⟩
  · subst hv
    have : Z = [] := List.length_eq_zero_iff.1 (by omega)
    subst this
    exact ⟨none, 0, rfl, fun _ _ e => (by cases e), fun k ⟨_, e⟩ => by cases e⟩
  · subst hv
    refine ⟨some ⟨g, 0, none⟩, cap, rfl, fun i S e => ⟨g, 0, rfl, (h0.lt g rfl).2, fun j v hv => ?_⟩, fun k ⟨_, e⟩ => by cases e; exact h0.lt g rfl⟩
    have hx := rws_at Z i S e j v hv
    have hlt : i * 2 + j < (rws Z).length := (List.getElem?_eq_some_iff.1 hx).1
    rw [Nat.zero_add, h0.cellAt (i * 2 + j) (by rw [rws_len] at hlt; exact hlt)]; exact hx
theorem vss_ne (L : List V10) : ∀ cs ∈ L.map V10.cells, cs ≠ [] := fun cs hc => by obtain ⟨z, _, rfl⟩ := List.mem_map.1 hc; intro q; cases q
theorem Rw.grown {W W' : World} {row : Option Nat} {h : Value} {L : List V10} (r : Rw W 10 h (L.map V10.cells)) (hg : W.grownBy W' row) (hr : ∀ r, row = some r → ∃ o : Obj, W.heap[r]? = some o ∧ o.isCells = false) : Rw W' 10 h (L.map V10.cells) :=
  r.kd (fun b hb => by
    obtain ⟨o, v, hc⟩ := r.has (vss_ne L) hb
    obtain ⟨o', ho, hcc⟩ := cells_of_cell hc
    exact grownBy_keeps_cells hg hr ho hcc)
theorem AppW.rw {v : Value} {w w' : World} (h : AppW v w w') {u : Value} {L : List (List Value)} (r : Rw w 10 u L) (hu : ∀ b, ob u = some b → v.ownBlock ≠ some b) : Rw w' 10 u L :=
  r.kd (fun b hb => h.block b (r.lt hb) (hu b hb))
theorem Rw.rows {w : World} {m : Nat} {p : Option Addr} {c : Nat} {L : List (List Value)} (r : Rw w m (.slice p L.length c) L) : ∀ k cs, L[k]? = some cs → ∃ b off, p = some ⟨b, off, none⟩ ∧ b < w.heap.size ∧ w.rangeAt b (off + k * m) cs := fun k cs hk => by
  obtain ⟨b, off, cap, e, h2, _, h4, _⟩ := r.ix hk
  rw [Value.slice.injEq] at e
  exact ⟨b, off, e.1, h2, h4⟩
theorem mf1 (g : FuncId) (ρ : Operand → Value) (x : Operand) (v : Value) (hx : ρ x = v) (dst : Option Tmp) (type : TypeId) (pos : String) (after : Array Edge) (guard : Option (Nat × Bool)) (w : World) : (execOp ρ { dst, op := .makeFunc (.func g) #[x] #[], type, pos, after, guard }).run Try.prog w = .ok (.value (.func (.func g) #[v] #[])) w := by
  subst hx; simp [execOp, Instr.makeFunc]
theorem mf2 (g : FuncId) (ρ : Operand → Value) (x : Operand) (v : Value) (hx : ρ x = v) (dst : Option Tmp) (type : TypeId) (pos : String) (after : Array Edge) (guard : Option (Nat × Bool)) (w : World) : (execOp ρ { dst, op := .makeFunc (.func g) #[] #[x], type, pos, after, guard }).run Try.prog w = .ok (.value (.func (.func g) #[] #[v])) w := by
  subst hx; simp [execOp, Instr.makeFunc]
theorem keeps_app {B : Nat} {W w1 w2 : World} {v : Value} {N n k : Nat} {xs : List Value} {u : Value} {us : List Value} (hown : W.ownsRow N 83 2 v n xs) (h : AppW v W w1) (s : St2 k w1 w2) (Q : At W k (u :: us)) : KeepsFrom B W w2 :=
  ⟨by rw [s.size]; exact h.size, fun j o _ hj ho => by
    have hlt := (Array.getElem?_eq_some_iff.1 hj).1
    have hjk : j ≠ k := R.dk_ne hj ho Q
    have hjv : v.ownBlock ≠ some j := fun e => by
      rcases hown.2 with ⟨rfl, _⟩ | ⟨g, cap, cur, rfl, _, hg0, _⟩
      · cases e
      · cases e; rw [hg0] at hj; cases hj; cases ho
    exact (s.block j hjk).trans ((h.block j hlt hjv).trans hj)⟩
theorem zs95 : (Try.prog.info? 95).map (·.size) = some 1 := by kernel_rfl
section
variable {o : Oper} {n : Nat} {l : List (Nat × Value)} {w : World} {ops : Array Oper} {rest : List Oper} {Q : Exit → Act → World → Prop} {K : Act → World → Prop}
theorem wl_make95 (x y : Operand) (N c : Nat) (ho : o.op = .makeSlice 95 x y) (hx : evl n l x = .int .i64 0) (hy : evl n l y = .int .i64 (c : Int)) (hc : c ≤ 1000000000) (hN : N ≤ w.heap.size) (hg : wnt n l ops o = true)
    (hk : ∀ k w', w.heap.size = k → w'.heap.size = k + 1 → Mo w w' → w'.ownsRow N 83 2 (.slice (some ⟨k, 0, none⟩) 0 c) 0 [] → WL Try.prog ops Q rest n (ext l o.dst (.slice (some ⟨k, 0, none⟩) 0 c)) w') : WL Try.prog ops Q (o :: rest) n l w := by
  obtain ⟨i, hi, hz, hs, hby⟩ := inf295
  have hr := run_make (P := Try.prog) w 95 83 i _ Try.underlying95 hi hz .i64 .i64 0 c (Int.le_refl _) (by omega) (by rw [hby]; omega) (by omega)
  simp only [Int.toNat_zero, Int.toNat_natCast, hs] at hr
  refine ⟨l_step hg (o_val (.slice (some ⟨w.heap.size, 0, none⟩) 0 c) (w' := w.alloc (.cells (madeCells (Value.agg #[.int .i64 0, .slice none 0 0]).cells (c * 2)) 83)) (by simp only [execOp, ho, hx, hy]; simp [hr]) (hk _ _ rfl (by simp) ((Mo.refl _).alloc _ _) (World.ownsRow_made w _ c hN (by unfold maxLen; omega) (size_madeCells _ _))).out)⟩
theorem bs95 (x : Int) (u : Value) (h1 : ∃ p n c, u = Value.slice p n c) (w : World) : (Instr.buildSlice 95 1 #[(0, .agg #[.int .i64 x, u])]).run Try.prog w = .ok (.slice (some ⟨w.heap.size, 0, none⟩) 1 1) (w.alloc (.cells #[.int .i64 x, u] 83)) := by
  obtain ⟨p, n, c, rfl⟩ := h1; kernel_rfl
theorem wo_bs95 (x : Operand) (i : Int) (u : Value) (h1 : ∃ p n c, u = Value.slice p n c) (ho : o.op = .buildSlice 95 1 #[(0, x)]) (hx : evl n l x = .agg #[.int .i64 i, u])
    (hk : ∀ k w', w.heap.size = k → w'.heap.size = k + 1 → Mo w w' → At w' k [.int .i64 i, u] → K (fr n (ext l o.dst (.slice (some ⟨k, 0, none⟩) 1 1))) w') : WO Try.prog o n l w K Q :=
  ⟨o_val (.slice (some ⟨w.heap.size, 0, none⟩) 1 1) (w' := w.alloc (.cells #[.int .i64 i, u] 83)) (by
    have h := bs95 i u h1 w
    simp [execOp, ho, hx, h]) (hk _ _ rfl (by simp) ((Mo.refl _).alloc _ _) (At.new w #[.int .i64 i, u] 83))⟩
end
namespace R
theorem bld83 (i : Int) (u : Value) (h : ∃ p n c, u = Value.slice p n c) (w : World) : (Instr.build 83 #[(0, .int .i64 i), (1, u)]).run Try.prog w = .ok (.agg #[.int .i64 i, u]) w := by
  obtain ⟨p, n, c, rfl⟩ := h; kernel_rfl
theorem rows_n {t : Nat} {mb : Hd} {D : Nat → Prop} {w : World} {lk : Int} {tr : T} (hF : FT D w t mb tr lk) : Calls Try.prog 41 #[pt t 0] w fun e w' => ∃ (p : Option Addr) (cap : Nat) (Z : List (Py × Value)), e = .returned (.slice p Z.length cap) ∧ Z.map (·.1) = tr.ids ∧ RA w' p Z ∧ RV w' Z ∧ (∀ k, pb p k → w.heap.size ≤ k ∧ k < w'.heap.size) ∧ (∀ z ∈ Z, ∀ b, ob z.2 = some b → w.heap.size ≤ b ∧ b < w'.heap.size) ∧ Mo w w' := by
  obtain ⟨R, root, hS, hAp, hC, hR, hn⟩ := hF.ts
  have hC0 : root = tr.p := hC
  subst hC0
  have hM := hF.om
  have hnd := hF.nd
  have hle : tr.kv.length ≤ 1024 := by have := hF.le; have := T.kv_len tr; omega
  obtain ⟨KV, hKV⟩ := lift_list tr.ky (rep_rx hR)
  have hkl : KV.length = tr.kv.length := by rw [T.ky_kv, ← hKV]; simp
  have hDlt : ∀ j, D j → j < w.heap.size := fun j hj => hS.lt hj
  have hslt : ∀ b, ob mb.h = some b → b < w.heap.size := fun b e => hS.sc.lt e
  refine calls_of (m := 9) (w_enter 30 Try.func41 Try.ntmps41 rfl rfl ?_)
  have M : Mo w w := Mo.refl _
  refine w_seq ?_
  refine w_reg ?_
  refine wl_mv (.const (.slice none 0 0)) (.slice none 0 0) (fun _ => rfl) rfl rfl ?_
  refine w_nil ?_
  refine xn_then ?_
  refine w_seq ?_
  refine w_seq ?_
  refine w_reg ?_
  refine wl_mv (.tmp 0) (pt t 0) (fun _ => rfl) rfl rfl ?_
  refine wl_call 30 [(.tmp 5)] _ [pt t 0] (.bool true) rfl rfl (fun _ _ => by kernel_rfl) (made_n hS) rfl ?_
  intro w1 hq
  replace hS := hS.mo hq
  replace hM := hM.mo hq
  replace M := M.trans hq
  clear hq
  refine wl_un (fun v => Op.unary .not v) (.tmp 6) (.bool true) (.bool false) (fun _ => rfl) rfl (by kernel_rfl) rfl ?_
  refine w_nil ?_
  refine xn_then ?_
  refine w_condF rfl ?_
  refine w_skip ?_
  refine xn_then ?_
  refine w_seq ?_
  refine w_reg ?_
  refine wl_mv (.tmp 0) (pt t 0) (fun _ => rfl) rfl rfl ?_
  refine wl_call 10 [(.tmp 8)] _ [pt t 0] (.int .i64 ((tr.kv.length : Int))) rfl rfl (fun _ _ => by kernel_rfl) (len_n hS hM) rfl ?_
  intro w2 hq
  replace hS := hS.mo hq
  replace hM := hM.mo hq
  replace M := M.trans hq
  clear hq
  refine wl_make95 (.const (.int .i64 (0))) (.tmp 9) w.heap.size tr.kv.length rfl rfl rfl (by omega) M.size rfl ?_
  intro g0 w3 hk hz hq hown
  replace hS := hS.mo hq
  replace hM := hM.mo hq
  replace M := M.trans hq
  clear hk hz hq
  clear hM
  refine wl_alloc 95 #[.slice none 0 0] rfl (fun _ => by kernel_rfl) rfl ?_
  intro k1 w4 hk hz hq Q1
  have on_k1 : (Value.slice (some ⟨g0, 0, none⟩) 0 tr.kv.length).ownBlock ≠ some k1 := fun e => by have := (hown.lt _ e).2; omega
  have N_k1 : w.heap.size ≤ k1 := by have := M.size; omega
  replace hS := hS.mo hq
  replace hown := own_mo95 hown hq
  replace M := M.trans hq
  clear hk hz hq
  have nd_k1 : ¬ Dh D mb k1 := fun e => by rcases e with e | e; (have := hDlt _ e; omega); (have := hslt _ e; omega)
  refine wl_st1x 95 (.tmp 3) (.tmp 10) k1 0 (.slice (some ⟨g0, 0, none⟩) 0 tr.kv.length) [.slice none 0 0] [.slice (some ⟨g0, 0, none⟩) 0 tr.kv.length] Q1 rfl rfl rfl rfl rfl zs95 rfl rfl rfl rfl ?_
  intro w5 hT Qn
  replace Q1 := Qn
  clear Qn
  replace hS := hS.kd (fun j hj => hT.block j (fun e => nd_k1 (e ▸ hj)))
  replace M := (Mk.refl (fun j => j = k1) _ |>.st hT rfl).mo M (fun _ e => e ▸ N_k1)
  replace hown := own_st295 hown hT on_k1
  clear hT
  refine w_nil ?_
  refine xn_then ?_
  refine w_seq ?_
  refine w_seq ?_
  refine w_reg ?_
  refine wl_mv (.tmp 0) (pt t 0) (fun _ => rfl) rfl rfl ?_
  refine wl_val (.func (.func 56) #[pt t 0] #[]) (mf1 56 _ _ _ (by exact rfl) _ _ _ _ _ _) rfl ?_
  refine w_nil ?_
  refine xn_then ?_
  refine w_block ?_
  have hNR : w.heap.size ≤ w5.heap.size := M.size
  refine w_rf 56 #[pt t 0] #[] rfl (fun _ _ => by kernel_rfl) (fun x : Rx R => #[pt x.1.2 0]) (Kd (Dh D mb)) (fun xs => xs = KV) (fun pre => ∃ i : Nat, 0 < i ∧ i ≤ KV.length ∧ pre = KV.take i) KV.length (io_seq hS hAp hC hR hn hnd hKV) Kd.tr (fun W l o o' hl _ _ _ k hk => World.putObj_heap_other (by rcases hk with hk | hk; (have := hDlt k hk; omega); (have := hslt k hk; omega))) (fun _ => rfl) (fun pre W => ∃ (v : Value) (Z : List (Py × Value)), Z.map (·.1) = pre.map (fun x : Rx R => x.1.1) ∧ At W k1 [v] ∧ W.ownsRow w.heap.size 83 2 v pre.length (rws Z) ∧ v.ownBlock ≠ some k1 ∧ RV W Z ∧ (∀ z ∈ Z, ∀ b, ob z.2 = some b → w.heap.size ≤ b ∧ b < W.heap.size ∧ b ≠ k1 ∧ v.ownBlock ≠ some b) ∧ HS D W t mb R tr.p lk ∧ Mo w W) (fun _ _ _ => False) ?hI (fun _ _ _ _ _ h _ _ _ => h) ⟨_, [], rfl, Q1, hown, on_k1, (fun _ e => by cases e), (fun _ e => by cases e), hS, M⟩ _ ?lx (fun x => frps1 13 _) ?assign ?body ?done (fun _ _ _ _ _ _ h _ => h.elim)
  case hI => exact fun s9 W W' row ⟨v, Z, h0, h1, h2, h3, h6, h7, h4, h5⟩ hg hf hr => ⟨v, Z, h0, At.grown h1 hg (fun r e => (hr r e).2), own_grown95 h2 hg (fun r e => (hr r e).2), h3, fun z hz => (h6 z hz).grown hg (fun r e => (hr r e).2), fun z hz b hb => ⟨(h7 z hz b hb).1, Nat.lt_of_lt_of_le (h7 z hz b hb).2.1 hg.size, (h7 z hz b hb).2.2⟩, h4.grown hg (fun r e => (hr r e).2), own_moF hNR s9 W W' row h5 hg hf hr⟩
  case assign =>
    intro lp x W K hK
    refine w_reg ?_
    refine wl_mv (.tmp 13) (pt x.1.2 0) (fun _ => rfl) rfl rfl ?_
    refine w_nil ?_
    exact hK
  case body =>
    rintro lp pre x W ⟨v, Z, hZ, Q1, hown, on_k1, hRV, hnew, hS, M⟩ hlen
    obtain ⟨r9, hrx, hri⟩ := x.2
    have hAr := hS.rc _ _ hrx
    have hdx := hS.dk hrx
    have hRw := (hS.sv _ _ hrx).1
    have hvl := (hS.sv _ _ hrx).2.1
    have hnc := hS.nc
    obtain ⟨pv, cv, hrv, _⟩ := hRw
    replace hRw := (hS.sv _ _ hrx).1
    have hvD : ∀ j, Dh D mb j → v.ownBlock ≠ some j := fun j hj e => by have := (hown.lt j e).1; rcases hj with hj | hj; (have := hDlt j hj; omega); (have := hslt j hj; omega)
    have hvb : ∀ k, v.ownBlock = some k → k < W.heap.size := fun k e => (hown.lt k e).2
    have hub : ∀ b, ob r9.i.v = some b → v.ownBlock ≠ some b := fun b hb => hvD b (Or.inl (hS.ds hrx (Or.inl hb)).1)
    have hpl : pre.length < 1025 := by omega
    have hMs := M.size
    refine w_block ?_
    have hsm : Smos [vq v, vq (pt x.1.2 0), vq (pt x.1.2 0), vq (pt x.1.2 0), vq (pt x.1.2 0), vq (.int .i64 r9.i.i), vq (pt x.1.2 0), vq (pt x.1.2 0), vq (pt x.1.2 0), vq (pt x.1.2 1), vq r9.i.v, fun u w9 => Rw w9 10 u (r9.i.vs.map V10.cells) ∧ (∀ b, ob u = some b → W.heap.size ≤ b ∧ b < w9.heap.size) ∧ (∃ p n c, u = Value.slice p n c), fun a w9 => ∃ u, a = .agg #[.int .i64 r9.i.i, u] ∧ Rw w9 10 u (r9.i.vs.map V10.cells) ∧ (∀ b, ob u = some b → W.heap.size ≤ b ∧ b < w9.heap.size) ∧ (∃ p n c, u = Value.slice p n c), fun a w9 => ∃ k u, a = .slice (some ⟨k, 0, none⟩) 1 1 ∧ W.heap.size ≤ k ∧ At w9 k [.int .i64 r9.i.i, u] ∧ Rw w9 10 u (r9.i.vs.map V10.cells) ∧ (∀ b, ob u = some b → W.heap.size ≤ b ∧ b < w9.heap.size) ∧ (∃ p n c, u = Value.slice p n c), fun a w9 => ∃ u, w9.ownsRow w.heap.size 83 2 a (pre.length + 1) (rws Z ++ [.int .i64 r9.i.i, u]) ∧ a.ownBlock ≠ some k1 ∧ (∀ b, ob u = some b → a.ownBlock ≠ some b) ∧ (∀ b, b < W.heap.size → v.ownBlock ≠ some b → a.ownBlock ≠ some b) ∧ Rw w9 10 u (r9.i.vs.map V10.cells) ∧ (∀ b, ob u = some b → W.heap.size ≤ b ∧ b < w9.heap.size) ∧ (∃ p n c, u = Value.slice p n c)] := smos_cons (smo_vq _) (smos_cons (smo_vq _) (smos_cons (smo_vq _) (smos_cons (smo_vq _) (smos_cons (smo_vq _) (smos_cons (smo_vq _) (smos_cons (smo_vq _) (smos_cons (smo_vq _) (smos_cons (smo_vq _) (smos_cons (smo_vq _) (smos_cons (smo_vq _) (smos_cons (fun u a b h m => ⟨h.1.mo m, fun b hb => ⟨(h.2.1 b hb).1, Nat.lt_of_lt_of_le (h.2.1 b hb).2 m.size⟩, h.2.2⟩) (smos_cons (fun z a b ⟨u, e, h⟩ m => ⟨u, e, ⟨h.1.mo m, fun b hb => ⟨(h.2.1 b hb).1, Nat.lt_of_lt_of_le (h.2.1 b hb).2 m.size⟩, h.2.2⟩⟩) (smos_cons (fun z a b ⟨k, u, e, e2, hA, h⟩ m => ⟨k, u, e, e2, hA.mo m, ⟨h.1.mo m, fun b hb => ⟨(h.2.1 b hb).1, Nat.lt_of_lt_of_le (h.2.1 b hb).2 m.size⟩, h.2.2⟩⟩) (smos_cons (fun z a b ⟨u, e, e2, e3, e4, h⟩ m => ⟨u, own_mo95 e m, e2, e3, e4, ⟨h.1.mo m, fun b hb => ⟨(h.2.1 b hb).1, Nat.lt_of_lt_of_le (h.2.1 b hb).2 m.size⟩, h.2.2⟩⟩) (smos_nil)))))))))))))))
    have hgr : ∀ a b : World, (fun w9 => AppW v W w9 ∧ w9.ownsRow w.heap.size 83 2 v pre.length (rws Z)) a → Mo a b → (fun w9 => AppW v W w9 ∧ w9.ownsRow w.heap.size 83 2 v pre.length (rws Z)) b := fun a b h m => ⟨h.1.grow m, own_mo95 h.2 m⟩
    refine w_ogc 15 (fun w9 => AppW v W w9 ∧ w9.ownsRow w.heap.size 83 2 v pre.length (rws Z)) [vq v, vq (pt x.1.2 0), vq (pt x.1.2 0), vq (pt x.1.2 0), vq (pt x.1.2 0), vq (.int .i64 r9.i.i), vq (pt x.1.2 0), vq (pt x.1.2 0), vq (pt x.1.2 0), vq (pt x.1.2 1), vq r9.i.v, fun u w9 => Rw w9 10 u (r9.i.vs.map V10.cells) ∧ (∀ b, ob u = some b → W.heap.size ≤ b ∧ b < w9.heap.size) ∧ (∃ p n c, u = Value.slice p n c), fun a w9 => ∃ u, a = .agg #[.int .i64 r9.i.i, u] ∧ Rw w9 10 u (r9.i.vs.map V10.cells) ∧ (∀ b, ob u = some b → W.heap.size ≤ b ∧ b < w9.heap.size) ∧ (∃ p n c, u = Value.slice p n c), fun a w9 => ∃ k u, a = .slice (some ⟨k, 0, none⟩) 1 1 ∧ W.heap.size ≤ k ∧ At w9 k [.int .i64 r9.i.i, u] ∧ Rw w9 10 u (r9.i.vs.map V10.cells) ∧ (∀ b, ob u = some b → W.heap.size ≤ b ∧ b < w9.heap.size) ∧ (∃ p n c, u = Value.slice p n c), fun a w9 => ∃ u, w9.ownsRow w.heap.size 83 2 a (pre.length + 1) (rws Z ++ [.int .i64 r9.i.i, u]) ∧ a.ownBlock ≠ some k1 ∧ (∀ b, ob u = some b → a.ownBlock ≠ some b) ∧ (∀ b, b < W.heap.size → v.ownBlock ≠ some b → a.ownBlock ≠ some b) ∧ Rw w9 10 u (r9.i.vs.map V10.cells) ∧ (∀ b, ob u = some b → W.heap.size ≤ b ∧ b < w9.heap.size) ∧ (∃ p n c, u = Value.slice p n c)] [] (by kernel_rfl) (by kernel_rfl) (by kernel_rfl) (by kernel_rfl) rfl (by kernel_rfl) (by kernel_rfl) (by kernel_rfl) latec_nil ⟨AppW.refl _ _, own_mo95 hown ((Mo.refl _).drew)⟩ ?_ ?_
    · refine ea_cons ?_ (ea_cons ?_ (ea_cons ?_ (ea_cons ?_ (ea_cons ?_ (ea_cons ?_ (ea_cons ?_ (ea_cons ?_ (ea_cons ?_ (ea_cons ?_ (ea_cons ?_ (ea_cons ?_ (ea_cons ?_ (ea_cons ?_ (ea_cons ?_ (ea_nil)))))))))))))))
      · exact oc_eq (v) rfl hgr hsm (fun f wf hG hd K hK => have Q1 := hG.1.at Q1 on_k1; go_run rfl (wo_load 95 (.tmp 3) (pt k1 0) v rfl rfl (run_one Q1 95 0 rfl Try.underlying95 rfl) (hK _ (Mo.refl _))))
      · exact oc_eq (pt x.1.2 0) rfl hgr hsm (fun f wf hG hd K hK => go_run rfl (wo_mv (.tmp 4) (pt x.1.2 0) (fun _ => rfl) rfl (hK _ (Mo.refl _))))
      · exact oc_eq (pt x.1.2 0) rfl hgr hsm (fun f wf hG hd K hK => go_run rfl (wo_nc (.tmp 15) x.1.2 0 rfl (hd 1 rfl) (hK _ (Mo.refl _))))
      · exact oc_eq (pt x.1.2 0) rfl hgr hsm (fun f wf hG hd K hK => go_run rfl (wo_un (fun v => Instr.fieldAt 93 v 0) (.tmp 16) (pt x.1.2 0) (pt x.1.2 0) (fun _ => rfl) (hd 2 rfl) (by kernel_rfl) (hK _ (Mo.refl _))))
      · exact oc_eq (pt x.1.2 0) rfl hgr hsm (fun f wf hG hd K hK => go_run rfl (wo_un (fun v => Instr.fieldAt 83 v 0) (.tmp 17) (pt x.1.2 0) (pt x.1.2 0) (fun _ => rfl) (hd 3 rfl) (by kernel_rfl) (hK _ (Mo.refl _))))
      · exact oc_eq (.int .i64 r9.i.i) rfl hgr hsm (fun f wf hG hd K hK => have hA9 := hG.1.at hAr (hvD _ (Or.inl hdx)); go_run rfl (wo_load 2 (.tmp 18) (pt x.1.2 0) (.int .i64 r9.i.i) rfl (hd 4 rfl) (run_one hA9 2 0 rfl Try.underlying2 rfl) (hK _ (Mo.refl _))))
      · exact oc_eq (pt x.1.2 0) rfl hgr hsm (fun f wf hG hd K hK => go_run rfl (wo_mv (.tmp 4) (pt x.1.2 0) (fun _ => rfl) rfl (hK _ (Mo.refl _))))
      · exact oc_eq (pt x.1.2 0) rfl hgr hsm (fun f wf hG hd K hK => go_run rfl (wo_nc (.tmp 20) x.1.2 0 rfl (hd 6 rfl) (hK _ (Mo.refl _))))
      · exact oc_eq (pt x.1.2 0) rfl hgr hsm (fun f wf hG hd K hK => go_run rfl (wo_un (fun v => Instr.fieldAt 93 v 0) (.tmp 21) (pt x.1.2 0) (pt x.1.2 0) (fun _ => rfl) (hd 7 rfl) (by kernel_rfl) (hK _ (Mo.refl _))))
      · exact oc_eq (pt x.1.2 1) rfl hgr hsm (fun f wf hG hd K hK => go_run rfl (wo_un (fun v => Instr.fieldAt 83 v 1) (.tmp 22) (pt x.1.2 0) (pt x.1.2 1) (fun _ => rfl) (hd 8 rfl) (by kernel_rfl) (hK _ (Mo.refl _))))
      · exact oc_eq (r9.i.v) rfl hgr hsm (fun f wf hG hd K hK => have hA9 := hG.1.at hAr (hvD _ (Or.inl hdx)); go_run rfl (wo_load 29 (.tmp 23) (pt x.1.2 1) (r9.i.v) rfl (hd 9 rfl) (run_one hA9 29 1 rfl Try.underlying29 rfl) (hK _ (Mo.refl _))))
      · refine ⟨fun f wf hG hd K hK => ?_⟩
        have hRf := hG.1.rw hRw hub
        rw [hrv] at hRf
        refine go_run rfl (wo_callx 22 [(.tmp 24)] _ [.slice pv (r9.i.vs.map V10.cells).length cv] rfl (li1 ((hd 10 rfl).trans hrv)) (fun _ _ => by kernel_rfl) (clv_n (fun z hz => by obtain ⟨y, _, rfl⟩ := List.mem_map.1 hz; rfl) hRf.rows (by rw [List.length_map]; omega)) (fun e9 w9 ⟨p9, c9, he, h1, h2, hq⟩ => ⟨_, he, hK _ w9 (hgr _ _ hG hq) ⟨h1, fun b hb => ⟨Nat.le_trans hG.1.size (h2 b hb), h1.lt hb⟩, ⟨_, _, _, rfl⟩⟩ (fun j u _ hr => hsm j u _ _ hr hq)⟩))
      · refine ⟨fun f wf hG hd K hK => ?_⟩
        have h11 := hd 11 rfl
        refine go_run rfl (wo_build 83 [(0, (.tmp 19)), (1, (.tmp 25))] [(0, .int .i64 r9.i.i), (1, f 11)] (.agg #[.int .i64 r9.i.i, f 11]) rfl (lp2 (hd 5 rfl) rfl) (bld83 _ _ h11.2.2 _) (hK _ _ hG ⟨f 11, rfl, h11⟩ (fun j u _ hr => hr)))
      · refine ⟨fun f wf hG hd K hK => ?_⟩
        obtain ⟨u9, e9, h9⟩ := hd 12 rfl
        exact go_run rfl (wo_bs95 (.tmp 26) r9.i.i u9 h9.2.2 rfl e9 (fun k w9 hk _ hq hA => hK _ w9 (hgr _ _ hG hq) ⟨k, u9, rfl, by have := hG.1.size; omega, hA, h9.1.mo hq, fun b hb => ⟨(h9.2.1 b hb).1, Nat.lt_of_lt_of_le (h9.2.1 b hb).2 hq.size⟩, h9.2.2⟩ (fun j u _ hr => hsm j u _ _ hr hq)))
      · refine ⟨fun f wf hG hd K hK => ?_⟩
        obtain ⟨k9, u9, e9, h9, hA9, hU⟩ := hd 13 rfl
        have hk1l := (hG.1.at Q1 on_k1).lt
        have hGs := hG.1.size
        have hapart : ∀ a : Value, a.ownBlock = v.ownBlock ∨ a.ownBlock = some wf.heap.size → a.ownBlock ≠ some k1 ∧ (∀ b, ob u9 = some b → a.ownBlock ≠ some b) ∧ ∀ b, b < W.heap.size → v.ownBlock ≠ some b → a.ownBlock ≠ some b := fun a h4 => ⟨fun e => by rcases h4 with h | h; (exact on_k1 (h.symm.trans e)); (rw [h] at e; cases e; omega), fun b hb e => by have hb2 := hU.2.1 b hb; rcases h4 with h | h; (have := hvb b (h.symm.trans e); omega); (rw [h] at e; cases e; omega), fun b hb hne e => by rcases h4 with h | h; (exact hne (h.symm.trans e)); (rw [h] at e; cases e; omega)⟩
        refine go_run rfl (wo_app95 (.tmp 14) (.tmp 27) w.heap.size v pre.length (rws Z) k9 1 1 [.int .i64 r9.i.i, u9] rfl (hd 0 rfl) e9 hG.2 rfl hA9 (fun u hu => by rcases List.mem_cons.1 hu with rfl | hu; rfl; rw [List.mem_singleton.1 hu]; obtain ⟨_, _, _, e⟩ := hU.2.2; rw [e]; rfl) (by decide) (by omega) (Nat.le_trans M.size hG.1.size) (fun v9 w9 h1 h2 h3 h4 => hK v9 w9 ⟨hG.1.trans h2, h3⟩ ⟨u9, h1, (hapart v9 h4).1, (hapart v9 h4).2.1, (hapart v9 h4).2.2, h2.rw hU.1 (fun b hb e => by have := hvb b e; have := hU.2.1 b hb; omega), fun b hb => ⟨(hU.2.1 b hb).1, Nat.lt_of_lt_of_le (hU.2.1 b hb).2 h2.size⟩, hU.2.2⟩ (fun j u hj hr => ?_)))
        have hvW : ∀ b, W.heap.size ≤ b → v.ownBlock ≠ some b := fun b hb e => by have := hvb b e; omega
        match j, hj, hr with
        | 0, _, hr => exact hr
        | 1, _, hr => exact hr
        | 2, _, hr => exact hr
        | 3, _, hr => exact hr
        | 4, _, hr => exact hr
        | 5, _, hr => exact hr
        | 6, _, hr => exact hr
        | 7, _, hr => exact hr
        | 8, _, hr => exact hr
        | 9, _, hr => exact hr
        | 10, _, hr => exact hr
        | 11, _, hr => exact (fun h => ⟨h2.rw h.1 (fun b hb => hvW b (h.2.1 b hb).1), fun b hb => ⟨(h.2.1 b hb).1, Nat.lt_of_lt_of_le (h.2.1 b hb).2 h2.size⟩, h.2.2⟩) hr
        | 12, _, hr => obtain ⟨u0, e0, h⟩ := hr; exact ⟨u0, e0, ⟨h2.rw h.1 (fun b hb => hvW b (h.2.1 b hb).1), fun b hb => ⟨(h.2.1 b hb).1, Nat.lt_of_lt_of_le (h.2.1 b hb).2 h2.size⟩, h.2.2⟩⟩
        | 13, _, hr => obtain ⟨k0, u0, e0, q2, q3, h⟩ := hr; exact ⟨k0, u0, e0, q2, h2.at q3 (hvW k0 q2), ⟨h2.rw h.1 (fun b hb => hvW b (h.2.1 b hb).1), fun b hb => ⟨(h.2.1 b hb).1, Nat.lt_of_lt_of_le (h.2.1 b hb).2 h2.size⟩, h.2.2⟩⟩
        | 14, hj, _ => exact absurd rfl hj
        | j + 15, _, _ => trivial
    intro f w5 hG hR
    obtain ⟨u5, hown5, on5, onu, onz, hU5⟩ := hR 14 rfl
    obtain ⟨g5, c5, hv5, _⟩ := hown5.form (by omega)
    have Q15 := hG.1.at Q1 on_k1
    refine wl_st1x 95 (.tmp 3) (.tmp 28) k1 0 (.slice (some ⟨g5, 0, none⟩) (pre.length + 1) c5) [v] [.slice (some ⟨g5, 0, none⟩) (pre.length + 1) c5] Q15 rfl rfl rfl hv5 rfl zs95 rfl rfl rfl rfl ?_
    intro w6 hT Q16
    refine w_nil ?_
    refine xn_blk ?_
    have hkd : Kd (Dh D mb) W w6 := fun j hj => (hT.block j (fun e => nd_k1 (e ▸ hj))).trans (hG.1.block j (by rcases hj with hj | hj; exact hS.lt hj; exact hS.sc.lt hj) (hvD j hj))
    have hl9 : (pre ++ [x]).length = pre.length + 1 := by simp
    rw [hv5] at hown5 on5 onu onz
    have hZ9 : (Z ++ [(x.1.1, u5)]).map (·.1) = (pre ++ [x]).map (fun x : Rx R => x.1.1) := by rw [List.map_append, List.map_append, hZ]; rfl
    have hrz : rws (Z ++ [(x.1.1, u5)]) = rws Z ++ [.int .i64 r9.i.i, u5] := by unfold rws; rw [List.flatMap_append, hri]; rfl
    have hst : ∀ {u : Value} {L : List (List Value)}, Rw w5 10 u L → (∀ b, ob u = some b → b ≠ k1) → Rw w6 10 u L := fun r h => r.kd (fun b hb => hT.block b (h b hb))
    have hk1W := Q1.lt
    have hs6 := hT.size
    have hG5 := hG.1.size
    refine WX.mk ⟨keeps_app hown hG.1 hT Q1, hkd, .slice (some ⟨g5, 0, none⟩) (pre.length + 1) c5, Z ++ [(x.1.1, u5)], hZ9, Q16, by rw [hl9, hrz]; exact own_st295 hown5 hT on5, on5, fun z hz => ?_, fun z hz b hb => ?_, hS.kd hkd, (Mk.refl (fun j => j = k1) _ |>.st hT rfl).mo (hG.1.mo M (fun k e => (hown.lt k e).1)) (fun _ e => e ▸ N_k1)⟩
    · rcases List.mem_append.1 hz with hz | hz
      · exact hst (hG.1.rw (hRV z hz) (fun b hb => (hnew z hz b hb).2.2.2)) (fun b hb => (hnew z hz b hb).2.2.1)
      · rw [List.mem_singleton.1 hz]; show Rw w6 10 u5 (x.1.1.vs.map V10.cells); rw [← hri]; exact hst hU5.1 (fun b hb e => by have := (hU5.2.1 b hb).1; omega)
    · rcases List.mem_append.1 hz with hz | hz
      · obtain ⟨a1, a2, a3, a4⟩ := hnew z hz b hb; exact ⟨a1, by omega, a3, onz b a2 a4⟩
      · rw [List.mem_singleton.1 hz] at hb; have h5 := hU5.2.1 b hb; exact ⟨by omega, by omega, by omega, onu b hb⟩
  case done =>
    rintro D0 xs W hD rfl ⟨v, Z, hZ, Q1, hown, _, hRV, hnew, hS, M⟩ hK
    replace hD := Nat.le_trans hNR hD
    refine xn_blk ?_
    refine xn_then ?_
    refine w_seq ?_
    refine w_reg ?_
    refine wl_load 95 (.tmp 3) (pt k1 0) (v) rfl rfl (run_one Q1 95 0 rfl Try.underlying95 rfl) rfl ?_
    refine wl_mv (.tmp 29) (v) (fun _ => rfl) rfl rfl ?_
    refine w_nil ?_
    refine xn_then ?_
    refine w_ret ?_
    have hids : Z.map (·.1) = tr.ids := by rw [hZ, T.ky_ids, ← hKV]; simp
    have hgb := grownBy_putObj' W D0 (.deferred none)
    have hrr : ∀ r, some D0 = some r → ∃ o : Obj, W.heap[r]? = some o ∧ o.isCells = false := fun r e => by cases e; exact ⟨_, hK, rfl⟩
    have hZ2 := own_grown95 hown hgb hrr
    obtain ⟨p, cap, hv, hRA, hpb⟩ := own_ra hZ2
    exact w_ret1m D0 _ v rfl hK rfl ⟨p, cap, Z, by rw [hv], hids, hRA, fun z hz => (hRV z hz).grown hgb hrr, hpb, fun z hz b hb => ⟨(hnew z hz b hb).1, Nat.lt_of_lt_of_le (hnew z hz b hb).2.1 hgb.size⟩, Mo.putO M hD hK rfl rfl⟩
end R
end G
end Go.Proofs.Ythfemlhmnjfjiaa
/-
  A drawn region that ends with a call of yield.
-/
namespace Go.Proofs.Ythfemlhmnjfjiaa
open Go.RowKit
namespace G
namespace R
section
variable {P : Program} {ops : List Oper} {Q : Exit → Act → World → Prop} {n : Nat} {l : List (Nat × Value)}
theorem wpAnyIn_chain {F : Fence} {m0 : Nat} {m : Nat} {fs : List Nat} (hfs : ∀ j, m ≤ j → fs.contains j = false) (hc : chainB ops m fs = true) (hb : edgesBack .any ops.toArray = true) : ∀ (d q fuel : Nat) (listed : Array Bool) (a : Act) (w : World), q + d = ops.length → m ≤ q → d ≤ fuel → listed.size = ops.length → Shut ops listed →
    (∀ j, j < ops.length → listed.getD j true = decide (j < q)) → wpListIn F m0 P ops.toArray Q (ops.drop q) a w → wpAnyIn F m0 P .any ops.toArray Q fuel listed a w := by
  intro d
  induction d with
  | zero =>
    intro q fuel listed a w hq hm hf hz hsh hl h
    have hr : Region.ready .any ops.toArray listed = [] := by
      rw [List.eq_nil_iff_forall_not_mem]
      intro i hi
      obtain ⟨h0, o, ho, _⟩ := mem_ready.1 hi
      have hlt : i < ops.length := by have := (Array.getElem?_eq_some_iff.1 ho).1; simpa using this
      rw [hl i hlt] at h0
      have := of_decide_eq_false h0
      omega
    rw [List.drop_eq_nil_of_le (by omega)] at h
    exact wpAnyIn_done hr h fuel
  | succ d ih =>
    intro q fuel listed a w hq hm hf hz hsh hl h
    have hqlt : q < ops.length := by omega
    cases fuel with
    | zero => omega
    | succ fuel =>
      have hone : ∀ i, i ∈ Region.ready .any ops.toArray listed ↔ i = q := by
        intro i
        constructor
        · intro hi
          obtain ⟨h0, o, ho, hall⟩ := mem_ready.1 hi
          have hlt : i < ops.length := by have := (Array.getElem?_eq_some_iff.1 ho).1; simpa using this
          rw [hl i hlt] at h0
          have hge := of_decide_eq_false h0
          rcases Nat.lt_or_ge q i with hgt | hle
          · have h1 := chainB_spec hc hsh (i := i) (o := o) (by simpa using ho) (by omega) hall q hgt (hfs q hm)
            have h2 := hl q hqlt
            have : q < listed.size := by omega
            simp [this] at h1 h2
            rw [h1] at h2; cases h2
          · omega
        · rintro rfl
          refine mem_ready.2 ⟨by rw [hl i hqlt]; simp, ops[i], by simp [hqlt], fun e he hbd => ?_⟩
          have hlt := edgesBack_spec hb (i := i) (o := ops[i]) (by simp [hqlt]) e he hbd
          have h2 := hl e.on (by omega)
          have : e.on < listed.size := by omega
          simp [this] at h2 ⊢
          rw [h2]; exact decide_eq_true hlt
      refine ⟨fun h0 => ?_, fun i hi => ?_⟩
      · have := (hone q).2 rfl; rw [h0] at this; cases this
      · have := (hone i).1 hi
        subst this
        have hdi : ∀ e ∈ (ops[i]).after, Region.binds .any e = true → listed.getD e.on false = true := by
          obtain ⟨_, o, ho, hall⟩ := mem_ready.1 hi
          have : ops[i] = o := by have := Array.getElem?_eq_some_iff.1 ho; obtain ⟨_, h⟩ := this; simpa using h
          rw [this]; exact hall
        rw [List.drop_eq_getElem_cons hqlt] at h
        have h1 : wpOpIn F m0 P ops.toArray Q i (wpListIn F m0 P ops.toArray Q (ops.drop (i + 1))) a w := by
          unfold wpOpIn
          have e : ops.toArray[i]? = some ops[i] := by simp [hqlt]
          rw [e]
          unfold wpListIn at h
          exact h
        refine wpOpIn_mono (fun a' w' h' => ih (i + 1) fuel _ a' w' (by omega) (by omega) (by omega) (by simpa using hz) (hsh.step (i := i) (o := ops[i]) (by simp [hqlt]) hdi) (fun j hj => ?_) h') h1
        by_cases e : i = j
        · subst e
          have : i < listed.size := by omega
          simp [this]
        · rw [getD_set_ne true e, hl j hj]
          congr 1
          rw [eq_iff_iff]; omega
end
section
variable {P : Program} {n : Nat} {l : List (Nat × Value)} {w : World} {Q : Exit → Act → World → Prop}
theorem a_ogr {ro : Option Nat} {m0 : Nat} {ds : List Deferred} {ops : List Oper} (m : Nat) (G : World → Prop) (sp : List (Value → World → Prop))
    (hb : edgesBack .any ops.toArray = true) (hd : dstsApart (ops.take m) = true) (hc : chainB ops m [] = true) (hl : Nat.ble m ops.length = true)
    (hno : ∀ o ∈ ops.take m, notDefer o = true) (hG : G w.drew) (hs : Each (OgC P ops (Wd ds Q) n l m G sp) 0 (ops.take m))
    (hend : ∀ f w', G w' → (∀ i, Nat.blt i m = true → spQ sp i (f i) w') → RL ro m0 ds P ops.toArray Q (ops.drop m) n (asg f 0 (ops.take m) l) w') : wpAnyIn (Fw ro) m0 P .any ops.toArray Q ops.toArray.size (Array.replicate ops.toArray.size false) (wd (fr n l) ds) w.drew := by
  have hml : m ≤ ops.length := Nat.le_of_ble_eq_true hl
  have hfs : ∀ j, m ≤ j → ([] : List Nat).contains j = false := fun _ _ => rfl
  have main : ∀ (fuel : Nat) (listed : Array Bool) (f : Nat → Value) (w : World), listed.toList.count false ≤ fuel → listed.size = ops.length → Shut ops listed → (∀ j, m ≤ j → j < ops.length → listed.getD j true = false) →
      G w → (∀ i, i < m → listed.getD i false = true → spQ sp i (f i) w) → wpAnyIn (Fw ro) m0 P .any ops.toArray Q fuel listed (wd (putAll f 0 (ops.take m) (fr n l)) ds) w := by
    intro fuel
    induction fuel with
    | zero =>
      intro listed f w hcnt hz hsh hun hW hR
      have hall : ∀ j, j < m → listed.getD j false = true := fun i hi' => by
        have h2 : i < listed.size := by omega
        cases e : listed.getD i false with
        | true => rfl
        | false =>
          have : false ∈ listed.toList := by simp [h2] at e; rw [← e]; simp
          have := List.count_pos_iff.2 this
          omega
      refine wpAnyIn_chain hfs hc hb (ops.length - m) m 0 listed _ w (by omega) (Nat.le_refl _) ?_ hz hsh ?_ ?_
      · rcases Nat.lt_or_ge m ops.length with h | h
        · exfalso
          have h1 := hun m (Nat.le_refl _) h
          have h2 : m < listed.size := by omega
          have : false ∈ listed.toList := by simp [h2] at h1; rw [← h1]; simp
          have := List.count_pos_iff.2 this
          omega
        · omega
      · intro j hj
        have h2 : j < listed.size := by omega
        rcases Nat.lt_or_ge j m with h | h
        · have := hall j h; simp [h2] at this ⊢; rw [this]; simp [h]
        · rw [hun j h hj]; simp [Nat.not_lt.2 h]
      · rw [putAll_fr]
        exact (hend f w hW (fun i hi => hR i (by rw [Nat.blt_eq] at hi; exact hi) (hall i (by rw [Nat.blt_eq] at hi; exact hi)))).out
    | succ fuel ih =>
      intro listed f w hcnt hz hsh hun hW hR
      by_cases hall : ∀ j, j < m → listed.getD j true = true
      · have hge : ops.length - m ≤ listed.toList.count false := by
          have h1 : (listed.toList.drop m).count false = ops.length - m := by
            have h2 : listed.toList.drop m = List.replicate (ops.length - m) false := by
              apply List.ext_getElem
              · simp [hz]
              · intro j h3 h4
                simp at h3
                have := hun (m + j) (by omega) (by omega)
                have h5 : m + j < listed.size := by omega
                simpa [h5] using this
            rw [h2]; simp
          have h3 := List.take_append_drop m listed.toList
          rw [← h3, List.count_append]
          omega
        refine wpAnyIn_chain hfs hc hb (ops.length - m) m _ listed _ w (by omega) (Nat.le_refl _) (by omega) hz hsh (fun j hj => ?_) ?_
        · rcases Nat.lt_or_ge j m with h | h
          · rw [hall j h]; simp [h]
          · rw [hun j h hj]; simp [Nat.not_lt.2 h]
        · rw [putAll_fr]
          have hall2 : ∀ i, Nat.blt i m = true → listed.getD i false = true := fun i hi => by
            have hi' : i < m := by rw [Nat.blt_eq] at hi; exact hi
            have h1 := hall i hi'
            have h2 : i < listed.size := by omega
            simpa [h2] using h1
          exact (hend f w hW (fun i hi => hR i (by rw [Nat.blt_eq] at hi; exact hi) (hall2 i hi))).out
      · obtain ⟨u, hum, hu⟩ : ∃ u, u < m ∧ listed.getD u true = false := by
          rcases Classical.not_forall.1 hall with ⟨u, h⟩
          rcases Classical.not_imp.1 h with ⟨h1, h4⟩
          exact ⟨u, h1, by cases e : listed.getD u true with | true => exact absurd e h4 | false => rfl⟩
        have hne : Region.ready .any ops.toArray listed ≠ [] := fun hr => by
          have := all_listed hb hr u (by simp; omega)
          rw [hu] at this; cases this
        refine ⟨fun h0 => absurd h0 hne, fun i hi => ?_⟩
        obtain ⟨h0, o, ho, hdep⟩ := mem_ready.1 hi
        have hoi : ops[i]? = some o := by simpa using ho
        have hilt : i < ops.length := (List.getElem?_eq_some_iff.1 hoi).1
        have him : i < m := by
          rcases Nat.lt_or_ge i m with h | h
          · exact h
          · exfalso
            have h1 := chainB_spec hc hsh hoi h hdep u (by omega) rfl
            have h2 : u < listed.size := by omega
            simp [h2] at h1 hu
            rw [h1] at hu; cases hu
        have hot : (ops.take m)[i]? = some o := by rw [List.getElem?_take_of_lt him]; exact hoi
        have hstep := Each.spec (ops.take m) 0 hs i o hot
        rw [Nat.zero_add] at hstep
        have hcount : ((listed.setIfInBounds i true).toList.count false) ≤ fuel := by
          have h1 : listed.toList[i]? = some false := by
            have h' : i < listed.size := by omega
            simp [h'] at h0; simp [h', h0]
          have := count_set _ _ h1
          simp only [Array.toList_setIfInBounds]
          omega
        have hun' : ∀ j, m ≤ j → j < ops.length → (listed.setIfInBounds i true).getD j true = false := fun j h1 h2 => by
          rw [getD_set_ne true (by omega)]; exact hun j h1 h2
        have next : ∀ v w', G w' → spQ sp i v w' → (∀ j u, j ≠ i → spQ sp j u w → spQ sp j u w') → wpAnyIn (Fw ro) m0 P .any ops.toArray Q fuel (listed.setIfInBounds i true) (wd (putAll (upd f i v) 0 (ops.take m) (fr n l)) ds) w' := fun v w' hg hden hot' => by
          refine ih _ _ w' hcount (by simpa using hz) (hsh.step hoi hdep) hun' hg (fun j hj hlj => ?_)
          by_cases e : j = i
          · subst e; simpa [upd] using hden
          · rw [getD_set_ne false (Ne.symm e)] at hlj
            have := hot' j (f j) e (hR j hj hlj)
            simpa [upd, e] using this
        have put : ∀ v, fr n (ext (asg f 0 (ops.take m) l) o.dst v) = putAll (upd f i v) 0 (ops.take m) (fr n l) := fun v => by
          have := putAll_put v (ops.take m) 0 f (fr n l) hd i o hot
          rw [Nat.zero_add] at this
          rw [← this, putAll_fr, fr_put]
        refine wpOpIn_step ho (fun K hK => ?_)
        have hnd : notDefer o = true := hno o (List.mem_of_getElem? hot)
        have hwe : (wd (putAll f 0 (ops.take m) (fr n l)) ds).tmps = (fr n (asg f 0 (ops.take m) l)).tmps := by rw [putAll_fr]; rfl
        rw [hwe, fr_wanted]
        have hh := (hstep.out f w hW (fun j hj => by
          obtain ⟨e, he, hb'⟩ := List.any_eq_true.1 hj
          simp only [Bool.and_eq_true] at hb'
          have heon := Nat.eq_of_beq_eq_true hb'.2
          have hj' := hdep e (by simpa using he) hb'.1
          have hlt := edgesBack_spec hb ho e (by simpa using he) hb'.1
          rw [heon] at hj' hlt
          exact hR j (by omega) hj') (fun a w' => K (wd a ds) w') (fun v w' h1 h2 h3 => by rw [put]; exact hK _ _ (next v w' h1 h2 h3))).out
        rcases hh with ⟨h1, h2⟩ | ⟨h1, h2⟩
        · rw [h1, putAll_fr]; exact op_in hnd (fun a w q => q) h2.out
        · rw [h1]
          refine ⟨fun _ _ => trivial, ?_⟩
          rw [putAll_fr, ← wd_put, fr_put]; exact h2
  have h0 : putAll (slots (fr n l) (ops.take m).toArray) 0 (ops.take m) (fr n l) = fr n l := putAll_self _ _ 0 _ (fun i o ho t ht => by simp only [Nat.zero_add, slots]; rw [show (ops.take m).toArray[i]? = some o by simpa using ho]; simp [ht])
  have := main ops.length (Array.replicate ops.length false) (slots (fr n l) (ops.take m).toArray) w.drew (by simp) (by simp) (Shut.start _ _) (fun j _ hj => by simp [hj]) hG (fun i _ hi => by
    exfalso
    rcases Nat.lt_or_ge i ops.length with h' | h' <;> simp [h'] at hi)
  rw [h0] at this
  simpa using this
theorem w_ogr {ro : Option Nat} {m0 : Nat} {ds : List Deferred} {id : Nat} {ops : List Oper} (m : Nat) (G : World → Prop) (sp : List (Value → World → Prop)) (hm : P.follows .mixedOrders = true)
    (hb : edgesBack .any ops.toArray = true) (hd : dstsApart (ops.take m) = true) (hc : chainB ops m [] = true) (hl : Nat.ble m ops.length = true)
    (hno : (ops.take m).all notDefer = true) (hG : G w.drew) (hs : Each (OgC P ops (Wd ds Q) n l m G sp) 0 (ops.take m))
    (hend : ∀ f w', G w' → (∀ i, Nat.blt i m = true → spQ sp i (f i) w') → RL ro m0 ds P ops.toArray Q (ops.drop m) n (asg f 0 (ops.take m) l) w') : RC ro m0 ds P (Code.region id ops.toArray true) Q n l w :=
  ⟨wpIn_region_any hm (a_ogr m G sp hb hd hc hl (fun o ho => List.all_eq_true.1 hno o ho) hG hs hend)⟩
end
end R
end G
end Go.Proofs.Ythfemlhmnjfjiaa
/-
  A range over a function that tells more of what it hands on.
-/
namespace Go.Proofs.Ythfemlhmnjfjiaa
open Go.RowKit
namespace G
namespace R
/-- An iterator: what it hands to the rounds, where each round keeps Kp. -/
def SeqG {α : Type} (m : Nat) (P : Program) (g : Nat) (ra lb : Array Value) (encs : α → Array Value) (T : List α × α → World → Prop) (Kp : World → World → Prop) (S Sp : List α → Prop) (N : Nat) (w : World) : Prop :=
  ∀ (l : Nat) (J Jx : List α → World → Prop) (W : World), Mo w W → AbF J → AbF Jx →
    (∀ pre x W1, J pre W1 → T (pre, x) W1 → pre.length < N → YieldAt (Fw none) (m - 1) P l (encs x) W1 fun e W' =>
      (e = .returned (.bool true) ∧ J (pre ++ [x]) W' ∧ Kp W1 W') ∨ (e = .returned (.bool false) ∧ Jx (pre ++ [x]) W')) →
    J [] W →
    CallsIn (Fw none) m P g (ra ++ #[.func (.yield l) #[] #[]] ++ lb) W fun e W' => (∃ v, e = .returned v) ∧ ((∃ xs, S xs ∧ J xs W') ∨ (∃ pre, Sp pre ∧ Jx pre W'))
section
variable {m : Nat} {ds : List Deferred} {P : Program} {n : Nat} {l : List (Nat × Value)} {w : World} {Q : Exit → Act → World → Prop}
theorem w_rg {α : Type} {g : Operand} {ps : Array Tmp} {assign body : Code} (gf : Nat) (ra lb : Array Value) (hg : evl n l g = .func (.func gf) ra lb) (eg : ∀ args w, (callFunc gf args).run P w = .ok (.enter gf args) w)
    (encs : α → Array Value) (T : List α × α → World → Prop) (hT : OwnF w.heap.size T) (Kp : World → World → Prop) (S Sp : List α → Prop) (N : Nat) (hseq : SeqG (m - 1) P gf ra lb encs T Kp S Sp N w)
    (hKt : ∀ {A B C : World}, Kp A B → Kp B C → Kp A C) (hKb : ∀ (W : World) (l : Nat) (o o' : Obj), w.heap.size ≤ l → W.heap[l]? = some o → o.isCells = false → o'.isCells = false → Kp W (W.putObj l o')) (hps : ∀ x, (encs x).size = ps.size)
    (I : List α → World → Prop) (Ix : Code → List α → World → Prop) (hI : OwnF w.heap.size I) (hIx : ∀ c, OwnF w.heap.size (Ix c)) (h0 : I [] w) (la lx : α → List (Nat × Value))
    (hfr : ∀ x, ({ tmps := (ps.zip (encs x)).foldl (fun t (p, v) => t.setIfInBounds p v) (fr n l).tmps, defers := [] } : Act) = fr n (la x))
    (hassign : ∀ (lp : Nat) (x : α) (W : World) (K : Act → World → Prop), WX (Wd [] (Exit.then K (fun _ _ _ => False))) .normal n (lx x) W → RC (some lp) (m - 1 - 1) [] P assign (Exit.then K (fun _ _ _ => False)) n (la x) W)
    (hbody : ∀ (lp : Nat) (pre : List α) (x : α) (W : World), I pre W → T (pre, x) W → pre.length < N → RC (some lp) (m - 1 - 1) [] P body (ownPostG w.heap.size Kp I Ix (pre ++ [x]) W) n (lx x) W)
    (hdone : ∀ (D : Nat) (xs : List α) (W : World), w.heap.size ≤ D → S xs → I xs W → W.heap[D]? = some (.deferred (some [])) → WX (Wd ({ target := .collected D, args := #[] } :: ds) Q) .normal n l W)
    (hstop : ∀ (D : Nat) (c : Code) (pre : List α) (W : World), w.heap.size ≤ D → Sp pre → Ix c pre W → W.heap[D]? = some (.deferred (some [])) → RC none m ({ target := .collected D, args := #[] } :: ds) P c Q n l W) :
    RC none m ds P (Code.rangeFunc g ps assign body) Q n l w := by
  refine ⟨wpIn_rangeFunc ?_⟩
  intro fn hfn
  have hro : (Fw none).round = none := rfl
  rw [hro]
  have hg' : (wd (fr n l) ds).eval g = .func (.func gf) ra lb := (ev_wd g).trans hg
  have htm : (wd (fr n l) ds).tmps = (fr n l).tmps := rfl
  obtain ⟨rec, hrec⟩ : ∃ rec : LoopState → Option Code → Loop, rec = fun st pe => { state := st, pending := pe, fn, tmps := (fr n l).tmps, params := ps, assign, body, defers := w.heap.size } := ⟨_, rfl⟩
  obtain ⟨W1, hW1⟩ : ∃ W1, (w.alloc (.deferred (some []))).alloc (.loop (rec .ready none)) = W1 := ⟨_, rfl⟩
  have hm1 : Mo w W1 := by rw [← hW1]; exact (Mo.allocO rfl).trans (Mo.allocO rfl)
  have hL1 : W1.heap[w.heap.size + 1]? = some (.loop (rec .ready none)) := by
    rw [← hW1]; have := World.alloc_heap_new (w.alloc (.deferred (some []))) (.loop (rec .ready none)); rwa [World.size_alloc] at this
  have hK1 : W1.heap[w.heap.size]? = some (.deferred (some [])) := by
    rw [← hW1]; exact (Below.heap_alloc _ _ _ (by simp)).trans (World.alloc_heap_new w _)
  have hI1 : I [] W1 := hI.mo h0 hm1
  refine ⟨w.heap.size + 1, [{ target := .collected w.heap.size, args := #[] }], W1, { target := .fn (.func gf) lb, args := ra ++ #[.func (.yield (w.heap.size + 1)) #[] #[]] }, W1, gf,
    ra ++ #[.func (.yield (w.heap.size + 1)) #[] #[]] ++ lb, W1, ?_, ?_, ?_, ?_, (fun e => by cases e), ?_⟩
  · rw [← hW1, hrec]; exact run_enterLoop_outer _ _ _ _ _
  · simp only [resolve, hg']
    simp [go_sem]
  · intro f' hf'; trivial
  · simp [invoke, go_sem, eg]
  · refine (hseq (w.heap.size + 1)
      (fun pre W => I pre W ∧ W.heap[w.heap.size + 1]? = some (.loop (rec .ready none)) ∧ W.heap[w.heap.size]? = some (.deferred (some [])))
      (fun pre W => ∃ c, Ix c pre W ∧ W.heap[w.heap.size + 1]? = some (.loop (rec .done (some c))) ∧ W.heap[w.heap.size]? = some (.deferred (some [])))
      W1 hm1
      (fun s A B hs mo => ⟨hI.mo hs.1 mo, (mo.1.block _ (Array.getElem?_eq_some_iff.1 hs.2.1).1).trans hs.2.1, (mo.1.block _ (Array.getElem?_eq_some_iff.1 hs.2.2).1).trans hs.2.2⟩)
      (fun s A B hs mo => by
        obtain ⟨c, hc, hl, hk⟩ := hs
        exact ⟨c, (hIx c).mo hc mo, (mo.1.block _ (Array.getElem?_eq_some_iff.1 hl).1).trans hl, (mo.1.block _ (Array.getElem?_eq_some_iff.1 hk).1).trans hk⟩)
      ?_ ⟨hI1, hL1, hK1⟩).mono ?_
    · rintro pre x W ⟨hi, hl, hk⟩ hTx hlen
      have hlt : w.heap.size + 1 < W.heap.size := (Array.getElem?_eq_some_iff.1 hl).1
      have hy := run_yield (P := P) (args := encs x) hl (by rw [hrec]; exact hps x)
      rw [hrec] at hy
      have ha : ∀ K : Act → World → Prop, K (fr n (lx x)) W → assign.wpIn ((Fw none).inRound (w.heap.size + 1)) (m - 1 - 1) P (Exit.then K (fun _ _ _ => False)) { tmps := (ps.zip (encs x)).foldl (fun t (p, v) => t.setIfInBounds p v) (fr n l).tmps, defers := [] } W := fun K hK => by
        rw [hfr x]
        exact (hassign (w.heap.size + 1) x W K ⟨hK⟩).out
      refine ⟨fn, _, assign, body, hy, roundIn_of_wpIn hfn (ha _ ⟨_, run_beginRound hl (by rw [hrec]), ?_⟩)⟩
      have hl2 : (W.putObj (w.heap.size + 1) (.loop { rec .ready none with state := .busy })).heap[w.heap.size + 1]? = some (.loop { rec .ready none with state := .busy }) := World.putObj_heap_same hlt
      have hk2 : (W.putObj (w.heap.size + 1) (.loop { rec .ready none with state := .busy })).heap[w.heap.size]? = some (.deferred (some [])) := (World.putObj_heap_other (by omega)).trans hk
      have hw2 : Kp W (W.putObj (w.heap.size + 1) (.loop { rec .ready none with state := .busy })) := hKb _ _ _ _ (by omega) hl rfl rfl
      refine Go.wpIn_mono (hbody _ pre x _ (hI.putObj _ hi (by omega) hl rfl rfl) (hT.putObj (s := (pre, x)) _ hTx (by omega) hl rfl rfl) hlen).out ?_
      have fin : ∀ (jump : Option Code) (W3 : World), KeepsFrom w.heap.size (W.putObj (w.heap.size + 1) (.loop { rec .ready none with state := .busy })) W3 →
          (Instr.endRound (w.heap.size + 1) jump).run P W3 = .ok (.bool jump.isNone) (W3.putObj (w.heap.size + 1) (.loop (rec (if jump.isNone then .ready else .done) jump))) ∧
          W3.heap[w.heap.size + 1]? = some (.loop { rec .ready none with state := .busy }) ∧
          (W3.putObj (w.heap.size + 1) (.loop (rec (if jump.isNone then .ready else .done) jump))).heap[w.heap.size + 1]? = some (.loop (rec (if jump.isNone then .ready else .done) jump)) ∧
          (W3.putObj (w.heap.size + 1) (.loop (rec (if jump.isNone then .ready else .done) jump))).heap[w.heap.size]? = some (.deferred (some [])) := fun jump W3 hk3 => by
        have hl3 := hk3.same _ _ (by omega) hl2 rfl
        have := run_endRound (P := P) jump hl3
        rw [hrec] at this ⊢
        exact ⟨this, by rw [hrec] at hl3; exact hl3, World.putObj_heap_same (Array.getElem?_eq_some_iff.1 hl3).1, (World.putObj_heap_other (by omega)).trans (hk3.same _ _ (Nat.le_refl _) hk2 rfl)⟩
      rintro e a3 W3 hp
      cases e with
      | normal =>
        obtain ⟨hk3, hkp3, hi3⟩ := hp
        obtain ⟨hr, hl3, hl4, hk4⟩ := fin none W3 hk3
        exact ⟨_, _, hr, .inl ⟨rfl, ⟨hI.putObj _ hi3 (by omega) hl3 rfl rfl, hl4, hk4⟩, hKt (hKt hw2 hkp3) (hKb _ _ _ _ (by omega) hl3 rfl rfl)⟩⟩
      | ret =>
        obtain ⟨hk3, hi3⟩ := hp
        obtain ⟨hr, hl3, hl4, hk4⟩ := fin (some .ret) W3 hk3
        exact ⟨_, _, hr, .inr ⟨rfl, .ret, (hIx _).putObj _ hi3 (by omega) hl3 rfl rfl, hl4, hk4⟩⟩
      | exit id =>
        obtain ⟨hk3, hi3⟩ := hp
        obtain ⟨hr, hl3, hl4, hk4⟩ := fin (some (.exit id)) W3 hk3
        exact ⟨_, _, hr, .inr ⟨rfl, .exit id, (hIx _).putObj _ hi3 (by omega) hl3 rfl rfl, hl4, hk4⟩⟩
      | goto t =>
        obtain ⟨hk3, hi3⟩ := hp
        obtain ⟨hr, hl3, hl4, hk4⟩ := fin (some (.goto t)) W3 hk3
        exact ⟨_, _, hr, .inr ⟨rfl, .goto t, (hIx _).putObj _ hi3 (by omega) hl3 rfl rfl, hl4, hk4⟩⟩
      | panic ch => exact hp.elim
      | outgrown => exact hp.elim
    · rintro e W2 ⟨⟨v, rfl⟩, (⟨xs, hS, hi, hl, hk⟩ | ⟨pre, hSp, c, hi, hl, hk⟩)⟩
      · exact ⟨none, _, by have := run_endLoop (P := P) hl (by rw [hrec]; simp); rw [hrec] at this; exact this, (hdone _ xs _ (Nat.le_refl _) hS (hI.putObj _ hi (by omega) hl rfl rfl) ((World.putObj_heap_other (by omega)).trans hk)).out⟩
      · exact ⟨some c, _, by have := run_endLoop (P := P) hl (by rw [hrec]; simp); rw [hrec] at this; exact this, (hstop _ c pre _ (Nat.le_refl _) hSp ((hIx c).putObj _ hi (by omega) hl rfl rfl) ((World.putObj_heap_other (by omega)).trans hk)).out⟩
end
end R
end G
end Go.Proofs.Ythfemlhmnjfjiaa
