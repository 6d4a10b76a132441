/-
  A part of the proof.
-/
import Derived.Test.YthfemlhmnjfjiaaC9
import Derived.Test.YthfemlhmnjfjiaaC10
/-
  Another value in a row: what is to be reckoned anew.
-/
namespace Go.Proofs.Ythfemlhmnjfjiaa
open Go.RowKit
namespace G
/-- One of a record's values is written. -/
theorem HS.val {D : Nat → Prop} {w : World} {t : Nat} {mb : Hd} {M : Mp} {root : Option Nat} {lk : Int} (h : HS D w t mb M root lk) (A : Ap M) {k : Nat} {r : Rc} (e : M k = some r) {c b off cap : Nat} (hc : c < r.i.vs.length) (x : V10) (hx : x.n.ok) (hh : r.i.v = .slice (some ⟨b, off, none⟩) r.i.vs.length cap) :
    HS D (w.setCells b (off + c * 10) x.cells) t mb (ud M k ⟨r.u, r.l, r.r, r.s, ⟨r.i.i, r.i.v, r.i.vs.set c x⟩, r.h, r.c⟩) root lk := by
  have s := St2.mk2 w b (off + c * 10) x.cells
  have hK := Mk.st1 s
  have hob : ob r.i.v = some b := by rw [hh]; exact ob_slice (by omega)
  obtain ⟨db, bt, Mb⟩ := h.ds e (Or.inl hob)
  have hne : ∀ {j q}, M j = some q → j ≠ b := fun hj q => by rw [q, Mb] at hj; cases hj
  have hMb : ∀ {y}, M y = none → ud M k ⟨r.u, r.l, r.r, r.s, ⟨r.i.i, r.i.v, r.i.vs.set c x⟩, r.h, r.c⟩ y = none := fun {y} hb => by
    rw [ud_ne _ _ (fun q => by rw [q, e] at hb; cases hb)]; exact hb
  refine ⟨s.other t _ (Ne.symm bt) h.tr, h.sc.kept hK (fun b' hb' q => h.sd b' hb' (by rw [q]; exact db)), h.sd, fun j q hj => ?_, fun j q hj => ?_, fun j q hj => ?_, fun j q hj => ?_, hMb h.mt, h.dt, fun {j q} hj => ?_, fun {j q b'} hj hb => ?_, fun e => by rw [s.size]; exact h.lt e, h.nb, h.nc⟩
  · rcases ud_or hj with ⟨rfl, rfl⟩ | ⟨hn, hj⟩
    · exact s.other j _ (hne e) (h.rc j r e)
    · exact s.other j _ (hne hj) (h.rc j q hj)
  · rcases ud_or hj with ⟨rfl, rfl⟩ | ⟨hn, hj⟩
    · exact s.cb _ (h.cb _ r e)
    · exact s.cb _ (h.cb j q hj)
  · rcases ud_or hj with ⟨rfl, rfl⟩ | ⟨hn, hj⟩
    · obtain ⟨a1, a2, a3⟩ := h.sv j r e
      refine ⟨?_, by rw [List.length_set]; exact a2, fun X hX => ?_⟩
      · have := a1.set (i := c) (by rw [List.length_map]; exact hh) (by rw [List.length_map]; exact hc) x.cells rfl (fun z hz => by obtain ⟨y, _, rfl⟩ := List.mem_map.1 hz; rfl)
        rw [← List.map_set] at this
        exact this
      · rcases List.mem_or_eq_of_mem_set hX with hX | rfl
        · exact a3 X hX
        · exact hx
    · exact ⟨(h.sv j q hj).1.kept hK (fun b' hb' z => A.vv e hj (Ne.symm hn) hob (z ▸ hb')), (h.sv j q hj).2⟩
  · rcases ud_or hj with ⟨rfl, rfl⟩ | ⟨hn, hj⟩
    · exact ⟨(h.ss _ r e).1.kept hK (fun b' hb' q => A.hv e e (q ▸ hb') hob), (h.ss _ r e).2⟩
    · exact ⟨(h.ss j q hj).1.kept hK (fun b' hb' z => A.hv hj e (z ▸ hb') hob), (h.ss j q hj).2⟩
  · rcases ud_or hj with ⟨rfl, rfl⟩ | ⟨hn, hj⟩
    · exact h.dk e
    · exact h.dk hj
  · rcases ud_or hj with ⟨rfl, rfl⟩ | ⟨hn, hj⟩
    · obtain ⟨a1, a2, a3⟩ := h.ds e hb; exact ⟨a1, a2, hMb a3⟩
    · obtain ⟨a1, a2, a3⟩ := h.ds hj hb; exact ⟨a1, a2, hMb a3⟩
/-- Trees alike in all but values. -/
def Sim : T → T → Prop
  | .e, .e => True
  | .n k i s l r, .n k' i' s' l' r' => k = k' ∧ i.i = i'.i ∧ s = s' ∧ Sim l l' ∧ Sim r r'
  | .e, .n _ _ _ _ _ => False
  | .n _ _ _ _ _, .e => False
theorem Sim.same : ∀ a : T, Sim a a
  | .e => trivial
  | .n _ _ _ l r => ⟨rfl, rfl, rfl, Sim.same l, Sim.same r⟩
theorem Sim.plug : ∀ (C : Cx) {a b : T}, Sim a b → Sim (plug C a) (plug C b)
  | [], _, _, h => h
  | f :: C, a, b, h => Sim.plug C (a := f.jn a) (b := f.jn b) (by
    unfold Fr.jn
    split
    · exact ⟨rfl, rfl, rfl, Sim.same _, h⟩
    · exact ⟨rfl, rfl, rfl, h, Sim.same _⟩)
theorem Sim.all : ∀ {a b : T}, Sim a b → a.p = b.p ∧ a.ad = b.ad ∧ a.sz = b.sz ∧ a.ht = b.ht ∧ a.kv = b.kv ∧ (a.ok → b.ok) ∧ (a.bw → b.bw)
  | .e, .e, _ => ⟨rfl, rfl, rfl, rfl, rfl, fun h => h, fun h => h⟩
  | .n k i s l r, .n k' i' s' l' r', h => by
    obtain ⟨rfl, hi, rfl, h1, h2⟩ := h
    obtain ⟨a1, a2, a3, a4, a5, a6, a7⟩ := h1.all
    obtain ⟨b1, b2, b3, b4, b5, b6, b7⟩ := h2.all
    refine ⟨rfl, by unfold T.ad; rw [a2, b2], by unfold T.sz; rw [a3, b3], by unfold T.ht; rw [a4, b4], by unfold T.kv; rw [a5, b5, hi], fun h => ?_, fun h => ?_⟩
    · exact ⟨by rw [← a3, ← b3]; exact h.1, a6 h.2.1, b6 h.2.2⟩
    · exact ⟨by rw [← a3, ← b3]; exact h.1, by rw [← a3, ← b3]; exact h.2.1, a7 h.2.2.1, b7 h.2.2.2⟩
/-- Right in all columns but one. -/
def Alm (sc : List Int) (c : Nat) (cs : List Sm) (L : List Py) : Prop := cs.length = sc.length ∧ ∀ d, d < sc.length → d ≠ c → cs[d]? = some (col d (sc.getD d 0) L)
def RepU (sc : List Int) (c : Nat) (R : Mp) (root : Option Nat) : Cx → T → Prop
  | [], tr => root = tr.p
  | f :: C, tr => (∃ h cs, R f.k = some (f.rc (top C) tr.p h cs) ∧ Alm sc c cs (f.jn tr).ids) ∧ Rep sc R (some f.k) f.o ∧ RepU sc c R root C (f.jn tr)
/-- From a place upwards one column is still to be reckoned. -/
def Mu (sc : List Int) (c : Nat) (R : Mp) (root : Option Nat) (T' : T) (m : Nat) (x : Option Nat) : Prop := match x with
  | none => root = T'.p ∧ Rep sc R none T' ∧ m = 0
  | some k => ∃ C i s l r h cs, plug C (.n k i s l r) = T' ∧ m = C.length + 1 ∧ R k = some ⟨top C, l.p, r.p, s, i, h, cs⟩ ∧ Alm sc c cs (l.ids ++ i :: r.ids) ∧ Rep sc R (some k) l ∧ Rep sc R (some k) r ∧ RepU sc c R root C (.n k i s l r) ∧ (adC C ++ (T.n k i s l r).ad).Nodup
theorem RepU.ud {sc : List Int} {c : Nat} {R : Mp} {root : Option Nat} {k : Nat} {q : Rc} : ∀ {C : Cx} {tr : T}, k ∉ adC C → RepU sc c R root C tr → RepU sc c (ud R k q) root C tr
  | [], _, _, h => h
  | f :: C, tr, hk, h => by
    obtain ⟨⟨hh, cs, e, a⟩, h2, h3⟩ := h
    unfold adC at hk
    simp only [List.mem_cons, List.mem_append, not_or] at hk
    exact ⟨⟨hh, cs, (ud_ne _ _ (Ne.symm hk.1)).trans e, a⟩, h2.ud hk.2.1, RepU.ud hk.2.2 h3⟩
theorem Alm.done {sc : List Int} {c : Nat} {cs : List Sm} {L : List Py} (h : Alm sc c cs L) (hc : c < sc.length) : cs.set c (col c (sc.getD c 0) L) = agg sc L := by
  apply List.ext_getElem?
  intro d
  by_cases hd : d < sc.length
  · rw [agg_at hd]
    by_cases e : c = d
    · subst e; exact List.getElem?_set_self (by rw [h.1]; exact hc)
    · rw [List.getElem?_set_ne e]; exact h.2 d hd (Ne.symm e)
  · rw [List.getElem?_eq_none (by rw [List.length_set, h.1]; omega), List.getElem?_eq_none (by unfold agg; simp; omega)]
theorem Mu.step {sc : List Int} {c : Nat} {R : Mp} {root : Option Nat} {C : Cx} {k : Nat} {i : Py} {s : Int} {l r : T} {h : Value} {cs : List Sm} (hc : c < sc.length) (ha : Alm sc c cs (l.ids ++ i :: r.ids)) (hl : Rep sc R (some k) l) (hr : Rep sc R (some k) r) (hU : RepU sc c R root C (.n k i s l r)) (hn : (adC C ++ (T.n k i s l r).ad).Nodup) :
    Mu sc c (ud R k ⟨top C, l.p, r.p, s, i, h, cs.set c (col c (sc.getD c 0) (l.ids ++ i :: r.ids))⟩) root (plug C (.n k i s l r)) C.length (top C) := by
  obtain ⟨n1, n2, n3⟩ := nd_pos hn
  have hkC : k ∉ adC C := fun m => n3 k m (by unfold T.ad; simp)
  have hkl : k ∉ l.ad ∧ k ∉ r.ad := by
    unfold T.ad at n2
    have := (List.nodup_cons.1 n2).1
    simp only [List.mem_append, not_or] at this
    exact this
  rw [ha.done hc]
  have hR' : Rep sc (G.ud R k ⟨top C, l.p, r.p, s, i, h, agg sc (l.ids ++ i :: r.ids)⟩) (top C) (.n k i s l r) := ⟨⟨h, ud_same _ _ _⟩, hl.ud hkl.1, hr.ud hkl.2⟩
  have hU' := hU.ud (q := ⟨top C, l.p, r.p, s, i, h, agg sc (l.ids ++ i :: r.ids)⟩) hkC
  cases C with
  | nil => exact ⟨hU', hR', rfl⟩
  | cons f C =>
    obtain ⟨⟨hh, cs2, e, a⟩, h2, h3⟩ := hU'
    have hp := (ad_up f C (.n k i s l r)).nodup_iff.1 hn
    unfold Fr.rc at e
    unfold Fr.jn at a h3 hp
    cases hd : f.d with
    | true =>
      rw [hd] at e a h3 hp
      exact ⟨C, f.i, f.s, f.o, .n k i s l r, hh, cs2, by show plug C _ = plug C (f.jn _); unfold Fr.jn; rw [hd]; rfl, rfl, e, a, h2, hR', h3, hp⟩
    | false =>
      rw [hd] at e a h3 hp
      exact ⟨C, f.i, f.s, .n k i s l r, f.o, hh, cs2, by show plug C _ = plug C (f.jn _); unfold Fr.jn; rw [hd]; rfl, rfl, e, a, hR', h2, h3, hp⟩
theorem col_ext {d : Nat} {s : Int} {A B : List Py} {y z : Py} (h : y.vs.getD d v0 = z.vs.getD d v0) : col d s (A ++ y :: B) = col d s (A ++ z :: B) := by
  unfold col; rw [List.map_append, List.map_append, List.map_cons, List.map_cons, h]
theorem Alm.of {sc : List Int} {c : Nat} {A B : List Py} {y z : Py} (h : ∀ d, d ≠ c → y.vs.getD d v0 = z.vs.getD d v0) : Alm sc c (agg sc (A ++ y :: B)) (A ++ z :: B) :=
  ⟨by unfold agg; simp, fun d hd hn => by rw [agg_at hd, col_ext (h d hn)]⟩
/-- The rows of a place and of what is above. -/
theorem jn_mid (f : Fr) {tr : T} {A B : List Py} {y : Py} (h : tr.ids = A ++ y :: B) : ∃ A' B', (f.jn tr).ids = A' ++ y :: B' ∧ ∀ (tr' : T) (z : Py), tr'.ids = A ++ z :: B → (f.jn tr').ids = A' ++ z :: B' := by
  unfold Fr.jn
  cases f.d with
  | true => exact ⟨f.o.ids ++ f.i :: A, B, by simp [T.ids, h], fun tr' z h' => by simp [T.ids, h']⟩
  | false => exact ⟨A, B ++ f.i :: f.o.ids, by simp [T.ids, h], fun tr' z h' => by simp [T.ids, h']⟩
theorem Fr.jn_ud {sc : List Int} {R : Mp} {u : Option Nat} {f : Fr} {tr : T} (h : Rep sc R u (f.jn tr)) : ∃ hh, R f.k = some (f.rc u tr.p hh (agg sc (f.jn tr).ids)) := by
  unfold Fr.rc
  unfold Fr.jn at h ⊢
  cases hd : f.d with
  | true => rw [hd] at h; exact h.1
  | false => rw [hd] at h; exact h.1
/-- Another row at a place, that is alike in all columns but one. -/
theorem RepU.of {sc : List Int} {c : Nat} {R : Mp} {root : Option Nat} {k : Nat} {q : Rc} {y z : Py} (hyz : ∀ d, d ≠ c → y.vs.getD d v0 = z.vs.getD d v0) : ∀ (C : Cx) {tr tr' : T} {A B : List Py}, root = (plug C tr).p → Rep sc R none (plug C tr) → tr.p = tr'.p → tr.ids = A ++ y :: B → tr'.ids = A ++ z :: B → k ∉ adC C → RepU sc c (G.ud R k q) root C tr'
  | [], tr, tr', A, B, h0, _, hp, _, _, _ => h0.trans hp
  | f :: C, tr, tr', A, B, h0, hR, hp, h1, h2, hk => by
    obtain ⟨A', B', e1, e2⟩ := jn_mid f h1
    unfold adC at hk
    simp only [List.mem_cons, List.mem_append, not_or] at hk
    have hsub : ∀ (C : Cx) {tr : T}, Rep sc R none (plug C tr) → Rep sc R (top C) tr := fun C => by
      induction C with
      | nil => intro tr h; exact h
      | cons g C ih =>
        intro tr h
        have := ih (tr := g.jn tr) h
        unfold Fr.jn at this
        cases hd : g.d with
        | true => rw [hd] at this; exact this.2.2
        | false => rw [hd] at this; exact this.2.1
    have hj : Rep sc R (top C) (f.jn tr) := hsub C hR
    obtain ⟨hh, e⟩ := Fr.jn_ud hj
    have ho : Rep sc R (some f.k) f.o := by
      unfold Fr.jn at hj
      cases hd : f.d with
      | true => rw [hd] at hj; exact hj.2.1
      | false => rw [hd] at hj; exact hj.2.2
    refine ⟨⟨hh, _, (ud_ne _ _ (Ne.symm hk.1)).trans (by rw [← hp]; exact e), ?_⟩, ho.ud hk.2.1, ?_⟩
    · rw [e1, e2 tr' z h2]; exact Alm.of hyz
    · exact RepU.of hyz C (tr := f.jn tr) (tr' := f.jn tr') h0 hR (by rw [f.jn_p, f.jn_p]) e1 (e2 tr' z h2) hk.2.2
end G
end Go.Proofs.Ythfemlhmnjfjiaa
/-
  mendUp: one column is reckoned anew up to the root.
-/
namespace Go.Proofs.Ythfemlhmnjfjiaa
open Go.RowKit
namespace G
section
variable {D : Nat → Prop} {t : Nat} {mb : Hd} {R : Mp} {root : Option Nat} {c : Nat} {lk : Int} {T' : T}
theorem mendUp_n {w : World} (x : Option Nat) {m0 : Nat} (hS : HS D w t mb R root lk) (hA : Ap R) (hU : Mu mb.sc c R root T' m0 x) (hc : c < mb.sc.length) (h0 : 0 ≤ lk) (hlk : lk + 3 * m0 ≤ 4000000000000000000) : Calls Try.prog 39 #[pt t 0, pp x, .int .i64 (c : Int)] w fun e w' => e = .returned (.tuple #[]) ∧ ∃ R' lk', HS D w' t mb R' root lk' ∧ Ap R' ∧ Mu mb.sc c R' root T' 0 none ∧ lk ≤ lk' ∧ lk' ≤ lk + 3 * m0 ∧ (0 < m0 → lk < lk') ∧ Mk D w w' := by
  have hsc : mb.sc[c]? = some (mb.sc.getD c 0) := by rw [List.getD_eq_getElem?_getD, List.getElem?_eq_getElem hc]; rfl
  refine w_enter 30 Try.func39 Try.ntmps39 rfl rfl ?_
  have M : Mk D w w := Mk.refl _ _
  refine w_block ?_
  refine w_loop (fun m l w1 => ∃ (x : Option Nat) (R : Mp) (lk1 : Int), look l 0 = pt t 0 ∧ look l 1 = pp x ∧ look l 2 = .int .i64 (c : Int) ∧ HS D w1 t mb R root lk1 ∧ Ap R ∧ Mu mb.sc c R root T' m x ∧ lk ≤ lk1 ∧ lk1 + 3 * m ≤ lk + 3 * m0 ∧ (m < m0 → lk < lk1) ∧ m ≤ m0 ∧ Mk D w w1) m0 ⟨x, R, lk, rfl, rfl, rfl, hS, hA, hU, by omega, by omega, fun h => absurd h (Nat.lt_irrefl _), by omega, M⟩ ?_
  clear M hS hA hU
  rintro m l wl ⟨x1, R, lk1, g0, g1, g2, hS, hA, hU, hl1, hl2, hl3, hm, M⟩
  cases x1 with
  | none =>
    refine w_seq ?_
    refine w_seq ?_
    refine w_reg ?_
    refine wl_mv (.tmp 1) (pp none) (fun _ => rfl) g1 rfl ?_
    refine wl_bin (fun x y => do eqGuard .neq 65 (.tmp 6) (.const (.pointer none)) x y; binOp .neq 65 x y) (.tmp 6) (.const (.pointer none)) (pp none) (pp none) (.bool false) (fun _ => rfl) rfl rfl (neP none _ _ _) rfl ?_
    refine w_nil ?_
    refine xn_then ?_
    refine w_condF rfl ?_
    refine w_exit ?_
    refine xx_then ?_
    refine xx_then ?_
    refine xx_blk ?_
    exact w_end0 rfl ⟨rfl, R, lk1, hS, hA, ⟨hU.1, hU.2.1, rfl⟩, hl1, by omega, fun h => hl3 (by have := hU.2.2; omega), M⟩
  | some k =>
    obtain ⟨C, i, s, lT, rT, hd1, cs, hT, hmC, hk, ha, hl, hr, hUc, hn⟩ := hU
    have hoks := Rep.oks hS hl
    have hokr := Rep.oks hS hr
    have hoki : i.ok := (hS.sv k _ hk).2.2
    have hvl : i.vs.length = mb.sc.length := (hS.sv k _ hk).2.1
    have hcv : i.vs[c]? = some (i.vs.getD c v0) := by rw [List.getD_eq_getElem?_getD, List.getElem?_eq_getElem (by omega)]; rfl
    refine w_seq ?_
    refine w_seq ?_
    refine w_reg ?_
    refine wl_mv (.tmp 1) (pt k 0) (fun _ => rfl) g1 rfl ?_
    refine wl_bin (fun x y => do eqGuard .neq 65 (.tmp 6) (.const (.pointer none)) x y; binOp .neq 65 x y) (.tmp 6) (.const (.pointer none)) (pt k 0) (pp none) (.bool true) (fun _ => rfl) rfl rfl (neP (some k) _ _ _) rfl ?_
    refine w_nil ?_
    refine xn_then ?_
    refine w_condT rfl ?_
    refine w_skip ?_
    refine xn_then ?_
    refine w_block ?_
    refine w_seq ?_
    refine w_any 12 [.inl (pt t 0), .inl (pt k 0), .inl (pt k 0), .inl (pt k 0), .inl (pt k 3), .inl (pt k 3), .inl (pp lT.p), .inl (pt k 0), .inl (pt k 0), .inl (pt k 3), .inl (pt k 4), .inl (pp rT.p)] [0] (by kernel_rfl) (by kernel_rfl) (by kernel_rfl) (by kernel_rfl) rfl (by kernel_rfl) (by kernel_rfl) (late_cons ⟨_, _, rfl, rfl, fun _ _ _ _ h => h, fun f hd => ⟨rfl, la_mv (.tmp 0) (pt t 0) (fun _ => rfl) g0⟩⟩ late_nil) ?_ ?_ ?_
    · exact Ds.none rfl
    · refine ea_cons ?_ (ea_cons ?_ (ea_cons ?_ (ea_cons ?_ (ea_cons ?_ (ea_cons ?_ (ea_cons ?_ (ea_cons ?_ (ea_cons ?_ (ea_cons ?_ (ea_cons ?_ (ea_cons ?_ (ea_nil))))))))))))
      · exact og_eq (pt t 0) rfl (fun f wf hq hd K hK => go_run rfl (wo_mv (.tmp 0) (pt t 0) (fun _ => rfl) g0 (hK _ (Mo.refl _))))
      · exact og_eq (pt k 0) rfl (fun f wf hq hd K hK => go_run rfl (wo_mv (.tmp 1) (pt k 0) (fun _ => rfl) g1 (hK _ (Mo.refl _))))
      · exact og_eq (pt k 0) rfl (fun f wf hq hd K hK => go_run rfl (wo_mv (.tmp 1) (pt k 0) (fun _ => rfl) g1 (hK _ (Mo.refl _))))
      · exact og_eq (pt k 0) rfl (fun f wf hq hd K hK => go_run rfl (wo_nc (.tmp 10) k 0 rfl (hd 2 rfl) (hK _ (Mo.refl _))))
      · exact og_eq (pt k 3) rfl (fun f wf hq hd K hK => go_run rfl (wo_un (fun v => Instr.fieldAt 93 v 2) (.tmp 11) (pt k 0) (pt k 3) (fun _ => rfl) (hd 3 rfl) (by kernel_rfl) (hK _ (Mo.refl _))))
      · exact og_eq (pt k 3) rfl (fun f wf hq hd K hK => go_run rfl (wo_bin (fun x y => Instr.indexAt 91 x y) (.tmp 12) (.const (.int .i64 (0))) (pt k 3) (.int .i64 (0)) (pt k 3) (fun _ => rfl) (hd 4 rfl) rfl (by kernel_rfl) (hK _ (Mo.refl _))))
      · exact og_eq (pp lT.p) rfl (fun f wf hq hd K hK => have hS := hS.mo hq; go_run rfl (wo_load 65 (.tmp 13) (pt k 3) (pp lT.p) rfl (hd 5 rfl) (run_one (hS.rc k _ hk) 65 3 rfl Try.underlying65 rfl) (hK _ (Mo.refl _))))
      · exact og_eq (pt k 0) rfl (fun f wf hq hd K hK => go_run rfl (wo_mv (.tmp 1) (pt k 0) (fun _ => rfl) g1 (hK _ (Mo.refl _))))
      · exact og_eq (pt k 0) rfl (fun f wf hq hd K hK => go_run rfl (wo_nc (.tmp 15) k 0 rfl (hd 7 rfl) (hK _ (Mo.refl _))))
      · exact og_eq (pt k 3) rfl (fun f wf hq hd K hK => go_run rfl (wo_un (fun v => Instr.fieldAt 93 v 2) (.tmp 16) (pt k 0) (pt k 3) (fun _ => rfl) (hd 8 rfl) (by kernel_rfl) (hK _ (Mo.refl _))))
      · exact og_eq (pt k 4) rfl (fun f wf hq hd K hK => go_run rfl (wo_bin (fun x y => Instr.indexAt 91 x y) (.tmp 17) (.const (.int .i64 (1))) (pt k 3) (.int .i64 (1)) (pt k 4) (fun _ => rfl) (hd 9 rfl) rfl (by kernel_rfl) (hK _ (Mo.refl _))))
      · exact og_eq (pp rT.p) rfl (fun f wf hq hd K hK => have hS := hS.mo hq; go_run rfl (wo_load 65 (.tmp 18) (pt k 4) (pp rT.p) rfl (hd 10 rfl) (run_one (hS.rc k _ hk) 65 4 rfl Try.underlying65 rfl) (hK _ (Mo.refl _))))
    intro kf21 w21 hq _ _
    replace hS := hS.mo hq
    replace M := M.trans hq
    clear hq
    refine wl_bsl [(0, (.tmp 9)), (1, (.tmp 14)), (2, (.tmp 19))] [pp (some k), pp lT.p, pp rT.p] 3 rfl rfl (bs3 (some k) lT.p rT.p) rfl ?_
    intro g21 w22 hk hz hq Q21
    have nd_g21 : ¬ D g21 := fun e => by have := hS.lt e; omega
    replace hS := hS.mo hq
    replace M := M.trans hq
    clear hk hz hq
    refine wl_callg 34 [(.tmp 8), (.tmp 20)] _ [pt t 0, .slice (some ⟨g21, 0, none⟩) 3 3] (.tuple #[]) rfl rfl (fun _ _ => by kernel_rfl) (look_n [(some k), lT.p, rT.p] g21 hS Q21 nd_g21 (by simp only [List.length_cons, List.length_nil]; omega)) rfl ?_
    intro w23 hF
    obtain ⟨hS2, hM2⟩ := hF
    replace hS := hS2
    replace M := M.same hM2
    clear hS2 hM2 Q21 nd_g21
    refine w_nil ?_
    refine xn_then ?_
    refine w_seq ?_
    refine w_reg ?_
    refine wl_mv (.tmp 0) (pt t 0) (fun _ => rfl) g0 rfl ?_
    refine wl_mv (.tmp 1) (pt k 0) (fun _ => rfl) g1 rfl ?_
    refine wl_mv (.tmp 2) (.int .i64 ((c : Nat) : Int)) (fun _ => rfl) g2 rfl ?_
    refine wl_callg 55 [(.tmp 22), (.tmp 23), (.tmp 24)] _ [pt t 0, pt k 0, .int .i64 ((c : Nat) : Int)] (.tuple #[]) rfl rfl (fun _ _ => by kernel_rfl) (mendc_n hS hA hk (x := i.vs.getD c v0) (s := mb.sc.getD c 0) hcv hsc (smo_of hl hc) (smo_of hr hc)) rfl ?_
    intro w24 hF
    obtain ⟨hS2, hM2⟩ := hF
    rw [col_mid hoks hoki hokr] at hS2
    replace hS := hS2
    replace M := M.same hM2
    clear hS2 hM2
    replace hA := hA.wr hk (r' := ⟨top C, lT.p, rT.p, s, i, hd1, cs.set c (col c (mb.sc.getD c 0) (lT.ids ++ i :: rT.ids))⟩) rfl rfl
    have hU := Mu.step (h := hd1) hc ha hl hr hUc hn
    rw [hT] at hU
    clear ha hl hr hUc
    replace hk := ud_same R k ⟨top C, lT.p, rT.p, s, i, hd1, cs.set c (col c (mb.sc.getD c 0) (lT.ids ++ i :: rT.ids))⟩
    refine w_nil ?_
    refine xn_then ?_
    refine w_reg ?_
    refine wl_mv (.tmp 1) (pt k 0) (fun _ => rfl) g1 rfl ?_
    refine wl_nc (.tmp 26) k 0 rfl rfl rfl ?_
    refine wl_un (fun v => Instr.fieldAt 93 v 1) (.tmp 27) (pt k 0) (pt k 2) (fun _ => rfl) rfl (by kernel_rfl) rfl ?_
    refine wl_load 65 (.tmp 28) (pt k 2) (pp ((top C))) rfl rfl (run_one (hS.rc k _ hk) 65 2 rfl Try.underlying65 rfl) rfl ?_
    refine wl_mv (.tmp 29) (pp ((top C))) (fun _ => rfl) rfl rfl ?_
    refine w_nil ?_
    refine xn_blk ?_
    have hcn := cnt_le [some k, lT.p, rT.p]
    have hc1 : 1 ≤ cnt [some k, lT.p, rT.p] := by unfold cnt; have := (cnt_bd [lT.p, rT.p] 1).1; exact this
    simp only [List.length_cons, List.length_nil] at hcn
    exact xn_loop (m - 1) (by omega) ⟨top C, _, _, g0, rfl, g2, hS, hA, by rw [show m - 1 = C.length by omega]; exact hU, by omega, by omega, fun _ => by omega, by omega, M⟩
end
end G
end Go.Proofs.Ythfemlhmnjfjiaa
/-
  The tree's Query, Get, Set.
-/
namespace Go.Proofs.Ythfemlhmnjfjiaa
open Go.RowKit
namespace G
section
variable {D : Nat → Prop} {w : World} {t : Nat} {mb : Hd} {R : Mp} {root : Option Nat} {lk : Int}
theorem query_x {tr : T} {cn fa ta : Int} (h : FT D w t mb tr lk) (qc : (decide (0 ≤ cn) && decide (cn < (mb.sc.length : Int))) = false) : Calls Try.prog 11 #[pt t 0, .int .i64 cn, .int .i64 fa, .int .i64 ta] w fun e w' => e = .returned (.tuple #[smv sm0, .int .i64 1]) ∧ Mo w w' := by
  obtain ⟨R, root, hS, hAp, hC, hR, hn⟩ := h.ts
  have hM := h.om
  have hDlt : ∀ j, D j → j < w.heap.size := fun j e => hS.lt e
  have hslt : ∀ b, ob mb.h = some b → b < w.heap.size := fun b e => hS.sc.lt e
  have hmlt := hM.lt
  refine w_enter 43 Try.func11 Try.ntmps11 rfl rfl ?_
  have M : Mk (fun _ => False) w w := Mk.refl _ _
  refine w_seq ?_
  refine w_reg ?_
  refine wl_alloc 42 #[.int .i64 0, .int .i64 0, .int .i64 0, .int .i64 0, .int .i64 0, .int .u64 0, .int .u64 0, .int .u64 0, .int .u64 0, .int .u64 0, .bool false, .bool false, .int .u64 0, .int .u64 0, .int .u64 0, .int .u64 0, .int .i64 0, .bool false, .int .u64 0, .int .u64 0, .int .u64 0, .int .u64 0, .int .i64 0] rfl (fun _ => by kernel_rfl) rfl ?_
  intro k1 w1 hk9 hz hq Q1
  have hMs := M.size
  have N_k1 : w.heap.size ≤ k1 := by omega
  have nd_k1 : ¬ D k1 := fun e => by have := hDlt _ e; omega
  have ns_k1 : ∀ b, ob mb.h = some b → b ≠ k1 := fun b hb => by have := hslt b hb; omega
  have nm_k1 : k1 ≠ mb.m := by omega
  replace hS := hS.mo hq
  replace hM := hM.mo hq
  replace M := M.trans hq
  clear hk9 hz hq hMs
  refine wl_mv (.const (.int .i64 (0))) (.int .i64 (0)) (fun _ => rfl) rfl rfl ?_
  refine w_nil ?_
  refine xn_then ?_
  refine w_seq ?_
  refine w_seq ?_
  refine w_reg ?_
  refine wl_mv (.tmp 0) (pt t 0) (fun _ => rfl) rfl rfl ?_
  refine wl_call 30 [(.tmp 10)] _ [pt t 0] (.bool true) rfl rfl (fun _ _ => by kernel_rfl) (made_n hS) rfl ?_
  intro w2 hq
  replace Q1 := Q1.mo hq
  replace hS := hS.mo hq
  replace hM := hM.mo hq
  replace M := M.trans hq
  clear hq
  refine wl_un (fun v => Op.unary .not v) (.tmp 11) (.bool true) (.bool false) (fun _ => rfl) rfl (by kernel_rfl) rfl ?_
  refine w_nil ?_
  refine xn_then ?_
  refine w_condF rfl ?_
  refine w_skip ?_
  refine xn_then ?_
  refine w_seq ?_
  refine w_seq ?_
  refine w_reg ?_
  refine wl_mv (.tmp 0) (pt t 0) (fun _ => rfl) rfl rfl ?_
  refine wl_mv (.tmp 1) (.int .i64 (cn)) (fun _ => rfl) rfl rfl ?_
  refine wl_call 32 [(.tmp 14), (.tmp 15)] _ [pt t 0, .int .i64 (cn)] (.bool false) rfl rfl (fun _ _ => by kernel_rfl) (by have := has_n hS cn; rw [qc] at this; exact this) rfl ?_
  intro w3 hq
  replace Q1 := Q1.mo hq
  replace hS := hS.mo hq
  replace hM := hM.mo hq
  replace M := M.trans hq
  clear hq
  refine wl_un (fun v => Op.unary .not v) (.tmp 16) (.bool false) (.bool true) (fun _ => rfl) rfl (by kernel_rfl) rfl ?_
  refine wl_mv (.tmp 17) (.bool true) (fun _ => rfl) rfl rfl ?_
  refine wl_skip rfl ?_
  refine wl_skip rfl ?_
  refine wl_pick (.tmp 18) (.const (.bool true)) (.tmp 20) true (.bool true) (fun _ => rfl) rfl rfl rfl ?_
  refine wl_mv (.tmp 21) (.bool true) (fun _ => rfl) rfl rfl ?_
  refine wl_skip rfl ?_
  refine wl_skip rfl ?_
  refine wl_skip rfl ?_
  refine wl_pick (.tmp 22) (.const (.bool true)) (.tmp 25) true (.bool true) (fun _ => rfl) rfl rfl rfl ?_
  refine wl_mv (.tmp 26) (.bool true) (fun _ => rfl) rfl rfl ?_
  refine wl_skip rfl ?_
  refine wl_skip rfl ?_
  refine wl_skip rfl ?_
  refine wl_skip rfl ?_
  refine wl_pick (.tmp 27) (.const (.bool true)) (.tmp 31) true (.bool true) (fun _ => rfl) rfl rfl rfl ?_
  refine w_nil ?_
  refine xn_then ?_
  refine w_condT rfl ?_
  refine w_seq ?_
  refine w_reg ?_
  refine wl_build 42 [] [] (.agg #[.int .i64 0, .int .i64 0, .int .i64 0, .int .i64 0, .int .i64 0, .int .u64 0, .int .u64 0, .int .u64 0, .int .u64 0, .int .u64 0, .bool false, .bool false, .int .u64 0, .int .u64 0, .int .u64 0, .int .u64 0, .int .i64 0, .bool false, .int .u64 0, .int .u64 0, .int .u64 0, .int .u64 0, .int .i64 0]) rfl rfl (by kernel_rfl) rfl ?_
  refine wl_stx2 42 (.tmp 8) (.tmp 33) k1 0 #[.int .i64 0, .int .i64 0, .int .i64 0, .int .i64 0, .int .i64 0, .int .u64 0, .int .u64 0, .int .u64 0, .int .u64 0, .int .u64 0, .bool false, .bool false, .int .u64 0, .int .u64 0, .int .u64 0, .int .u64 0, .int .i64 0, .bool false, .int .u64 0, .int .u64 0, .int .u64 0, .int .u64 0, .int .i64 0] [.int .i64 0, .int .i64 0, .int .i64 0, .int .i64 0, .int .i64 0, .int .u64 0, .int .u64 0, .int .u64 0, .int .u64 0, .int .u64 0, .bool false, .bool false, .int .u64 0, .int .u64 0, .int .u64 0, .int .u64 0, .int .i64 0, .bool false, .int .u64 0, .int .u64 0, .int .u64 0, .int .u64 0, .int .i64 0] [.int .i64 0, .int .i64 0, .int .i64 0, .int .i64 0, .int .i64 0, .int .u64 0, .int .u64 0, .int .u64 0, .int .u64 0, .int .u64 0, .bool false, .bool false, .int .u64 0, .int .u64 0, .int .u64 0, .int .u64 0, .int .i64 0, .bool false, .int .u64 0, .int .u64 0, .int .u64 0, .int .u64 0, .int .i64 0] Q1 rfl rfl rfl rfl rfl zs42 rfl rfl rfl ?_
  intro w4 hT Qn
  replace Q1 := Qn
  have hK := Mk.st1 hT
  replace hM := hM.mk hK (Ne.symm nm_k1)
  replace hS := hS.kept hK (fun j e q => nd_k1 (q ▸ e)) (fun b hb q => ns_k1 b hb q)
  replace M := M.tr hK (fun j hj e => absurd e (by omega))
  clear hT hK Qn
  refine wl_mv (.const (.int .i64 (1))) (.int .i64 (1)) (fun _ => rfl) rfl rfl ?_
  refine w_nil ?_
  refine xn_then ?_
  refine w_ret ?_
  refine xr_then ?_
  exact w_ret2 _ _ (.agg #[.int .i64 0, .int .i64 0, .int .i64 0, .int .i64 0, .int .i64 0, .int .u64 0, .int .u64 0, .int .u64 0, .int .u64 0, .int .u64 0, .bool false, .bool false, .int .u64 0, .int .u64 0, .int .u64 0, .int .u64 0, .int .i64 0, .bool false, .int .u64 0, .int .u64 0, .int .u64 0, .int .u64 0, .int .i64 0]) (.int .i64 (1)) rfl ⟨k1, rfl, (run_row Q1 42 0 23 [.int .i64 0, .int .i64 0, .int .i64 0, .int .i64 0, .int .i64 0, .int .u64 0, .int .u64 0, .int .u64 0, .int .u64 0, .int .u64 0, .bool false, .bool false, .int .u64 0, .int .u64 0, .int .u64 0, .int .u64 0, .int .i64 0, .bool false, .int .u64 0, .int .u64 0, .int .u64 0, .int .u64 0, .int .i64 0] rfl Try.underlying42 rfl zs42)⟩ rfl ⟨rfl, M.mo (Mo.refl _) (fun k e => e.elim)⟩
theorem query_c {tr : T} {c : Nat} {fa ta : Int} (h : FT D w t mb tr lk) (hc : c < mb.sc.length) (hlk : lk ≤ 3000000000000000000) : Calls Try.prog 11 #[pt t 0, .int .i64 (c : Int), .int .i64 fa, .int .i64 ta] w fun e w' => ∃ S cd lk', e = .returned (.tuple #[smv S, .int .i64 cd]) ∧ ((0 ≤ fa ∧ fa ≤ ta ∧ ta ≤ tr.sz) ∧ cd = 0 ∧ S = prt c (mb.sc.getD c 0) fa ta tr.ids ∨ ¬ (0 ≤ fa ∧ fa ≤ ta ∧ ta ≤ tr.sz) ∧ cd = 1 ∧ S = sm0) ∧ FT D w' t mb tr lk' ∧ lk ≤ lk' ∧ lk' ≤ lk + 1 + 4 * tr.ht ∧ Mk D w w' := by
  obtain ⟨R, root, hS, hAp, hC, hR, hn⟩ := h.ts
  have hM := h.om
  have hDlt : ∀ j, D j → j < w.heap.size := fun j e => hS.lt e
  have hslt : ∀ b, ob mb.h = some b → b < w.heap.size := fun b e => hS.sc.lt e
  have hmlt := hM.lt
  replace hC : root = tr.p := hC
  subst hC
  have hC : RepC mb.sc R tr.p [] tr.p := rfl
  have hl00 := h.l0
  have hle := h.le
  have hkl := tr.kv_len
  have hzn := T.sz_nn tr
  have qc : (decide (0 ≤ (c : Int)) && decide ((c : Int) < (mb.sc.length : Int))) = true := by simp only [Bool.and_eq_true, decide_eq_true_eq]; omega
  refine w_enter 43 Try.func11 Try.ntmps11 rfl rfl ?_
  have M : Mk D w w := Mk.refl _ _
  refine w_seq ?_
  refine w_reg ?_
  refine wl_alloc 42 #[.int .i64 0, .int .i64 0, .int .i64 0, .int .i64 0, .int .i64 0, .int .u64 0, .int .u64 0, .int .u64 0, .int .u64 0, .int .u64 0, .bool false, .bool false, .int .u64 0, .int .u64 0, .int .u64 0, .int .u64 0, .int .i64 0, .bool false, .int .u64 0, .int .u64 0, .int .u64 0, .int .u64 0, .int .i64 0] rfl (fun _ => by kernel_rfl) rfl ?_
  intro k1 w1 hk9 hz hq Q1
  have hMs := M.size
  have N_k1 : w.heap.size ≤ k1 := by omega
  have nd_k1 : ¬ D k1 := fun e => by have := hDlt _ e; omega
  have ns_k1 : ∀ b, ob mb.h = some b → b ≠ k1 := fun b hb => by have := hslt b hb; omega
  have nm_k1 : k1 ≠ mb.m := by omega
  replace hS := hS.mo hq
  replace hM := hM.mo hq
  replace M := M.trans hq
  clear hk9 hz hq hMs
  refine wl_mv (.const (.int .i64 (0))) (.int .i64 (0)) (fun _ => rfl) rfl rfl ?_
  refine w_nil ?_
  refine xn_then ?_
  refine w_seq ?_
  refine w_seq ?_
  refine w_reg ?_
  refine wl_mv (.tmp 0) (pt t 0) (fun _ => rfl) rfl rfl ?_
  refine wl_call 30 [(.tmp 10)] _ [pt t 0] (.bool true) rfl rfl (fun _ _ => by kernel_rfl) (made_n hS) rfl ?_
  intro w2 hq
  replace Q1 := Q1.mo hq
  replace hS := hS.mo hq
  replace hM := hM.mo hq
  replace M := M.trans hq
  clear hq
  refine wl_un (fun v => Op.unary .not v) (.tmp 11) (.bool true) (.bool false) (fun _ => rfl) rfl (by kernel_rfl) rfl ?_
  refine w_nil ?_
  refine xn_then ?_
  refine w_condF rfl ?_
  refine w_skip ?_
  refine xn_then ?_
  refine w_seq ?_
  refine w_seq ?_
  cases hf0 : decide (fa < 0) with
  | true =>
    have hf0p := of_decide_eq_true hf0
    refine w_reg ?_
    refine wl_mv (.tmp 0) (pt t 0) (fun _ => rfl) rfl rfl ?_
    refine wl_mv (.tmp 1) (.int .i64 ((c : Nat) : Int)) (fun _ => rfl) rfl rfl ?_
    refine wl_call 32 [(.tmp 14), (.tmp 15)] _ [pt t 0, .int .i64 ((c : Nat) : Int)] (.bool true) rfl rfl (fun _ _ => by kernel_rfl) (by have := has_n hS (c : Int); rw [qc] at this; exact this) rfl ?_
    intro w3 hq
    replace Q1 := Q1.mo hq
    replace hS := hS.mo hq
    replace hM := hM.mo hq
    replace M := M.trans hq
    clear hq
    refine wl_un (fun v => Op.unary .not v) (.tmp 16) (.bool true) (.bool false) (fun _ => rfl) rfl (by kernel_rfl) rfl ?_
    refine wl_mv (.tmp 17) (.bool false) (fun _ => rfl) rfl rfl ?_
    refine wl_mv (.tmp 2) (.int .i64 (fa)) (fun _ => rfl) rfl rfl ?_
    refine wl_bin (fun x y => do eqGuard .lss 3 (.tmp 19) (.const (.int .i64 (0))) x y; binOp .lss 3 x y) (.tmp 19) (.const (.int .i64 (0))) (.int .i64 (fa)) (.int .i64 (0)) (.bool true) (fun _ => rfl) rfl rfl (ltI hf0 _ _ _) rfl ?_
    refine wl_pick (.tmp 18) (.const (.bool true)) (.tmp 20) false (.bool true) (fun _ => rfl) rfl rfl rfl ?_
    refine wl_mv (.tmp 21) (.bool true) (fun _ => rfl) rfl rfl ?_
    refine wl_skip rfl ?_
    refine wl_skip rfl ?_
    refine wl_skip rfl ?_
    refine wl_pick (.tmp 22) (.const (.bool true)) (.tmp 25) true (.bool true) (fun _ => rfl) rfl rfl rfl ?_
    refine wl_mv (.tmp 26) (.bool true) (fun _ => rfl) rfl rfl ?_
    refine wl_skip rfl ?_
    refine wl_skip rfl ?_
    refine wl_skip rfl ?_
    refine wl_skip rfl ?_
    refine wl_pick (.tmp 27) (.const (.bool true)) (.tmp 31) true (.bool true) (fun _ => rfl) rfl rfl rfl ?_
    refine w_nil ?_
    refine xn_then ?_
    refine w_condT rfl ?_
    refine w_seq ?_
    refine w_reg ?_
    refine wl_build 42 [] [] (.agg #[.int .i64 0, .int .i64 0, .int .i64 0, .int .i64 0, .int .i64 0, .int .u64 0, .int .u64 0, .int .u64 0, .int .u64 0, .int .u64 0, .bool false, .bool false, .int .u64 0, .int .u64 0, .int .u64 0, .int .u64 0, .int .i64 0, .bool false, .int .u64 0, .int .u64 0, .int .u64 0, .int .u64 0, .int .i64 0]) rfl rfl (by kernel_rfl) rfl ?_
    refine wl_stx2 42 (.tmp 8) (.tmp 33) k1 0 #[.int .i64 0, .int .i64 0, .int .i64 0, .int .i64 0, .int .i64 0, .int .u64 0, .int .u64 0, .int .u64 0, .int .u64 0, .int .u64 0, .bool false, .bool false, .int .u64 0, .int .u64 0, .int .u64 0, .int .u64 0, .int .i64 0, .bool false, .int .u64 0, .int .u64 0, .int .u64 0, .int .u64 0, .int .i64 0] [.int .i64 0, .int .i64 0, .int .i64 0, .int .i64 0, .int .i64 0, .int .u64 0, .int .u64 0, .int .u64 0, .int .u64 0, .int .u64 0, .bool false, .bool false, .int .u64 0, .int .u64 0, .int .u64 0, .int .u64 0, .int .i64 0, .bool false, .int .u64 0, .int .u64 0, .int .u64 0, .int .u64 0, .int .i64 0] [.int .i64 0, .int .i64 0, .int .i64 0, .int .i64 0, .int .i64 0, .int .u64 0, .int .u64 0, .int .u64 0, .int .u64 0, .int .u64 0, .bool false, .bool false, .int .u64 0, .int .u64 0, .int .u64 0, .int .u64 0, .int .i64 0, .bool false, .int .u64 0, .int .u64 0, .int .u64 0, .int .u64 0, .int .i64 0] Q1 rfl rfl rfl rfl rfl zs42 rfl rfl rfl ?_
    intro w4 hT Qn
    replace Q1 := Qn
    have hK := Mk.st1 hT
    replace hM := hM.mk hK (Ne.symm nm_k1)
    replace hS := hS.kept hK (fun j e q => nd_k1 (q ▸ e)) (fun b hb q => ns_k1 b hb q)
    replace M := M.tr hK (fun j hj e => absurd e (by omega))
    clear hT hK Qn
    refine wl_mv (.const (.int .i64 (1))) (.int .i64 (1)) (fun _ => rfl) rfl rfl ?_
    refine w_nil ?_
    refine xn_then ?_
    refine w_ret ?_
    refine xr_then ?_
    exact w_ret2 _ _ (.agg #[.int .i64 0, .int .i64 0, .int .i64 0, .int .i64 0, .int .i64 0, .int .u64 0, .int .u64 0, .int .u64 0, .int .u64 0, .int .u64 0, .bool false, .bool false, .int .u64 0, .int .u64 0, .int .u64 0, .int .u64 0, .int .i64 0, .bool false, .int .u64 0, .int .u64 0, .int .u64 0, .int .u64 0, .int .i64 0]) (.int .i64 (1)) rfl ⟨k1, rfl, (run_row Q1 42 0 23 [.int .i64 0, .int .i64 0, .int .i64 0, .int .i64 0, .int .i64 0, .int .u64 0, .int .u64 0, .int .u64 0, .int .u64 0, .int .u64 0, .bool false, .bool false, .int .u64 0, .int .u64 0, .int .u64 0, .int .u64 0, .int .i64 0, .bool false, .int .u64 0, .int .u64 0, .int .u64 0, .int .u64 0, .int .i64 0] rfl Try.underlying42 rfl zs42)⟩ rfl ⟨sm0, 1, lk, rfl, Or.inr ⟨by have := of_decide_eq_true hf0; omega, rfl, rfl⟩, ⟨⟨R, tr.p, ⟨hS, hAp, hC, hR, hn⟩⟩, hM, h.ok, h.nd, h.rg, h.le, h.l0, h.hm⟩, by omega, by omega, M⟩
  | false =>
    have hf0p := of_decide_eq_false hf0
    cases hf1 : decide (ta < fa) with
    | true =>
      have hf1p := of_decide_eq_true hf1
      refine w_reg ?_
      refine wl_mv (.tmp 0) (pt t 0) (fun _ => rfl) rfl rfl ?_
      refine wl_mv (.tmp 1) (.int .i64 ((c : Nat) : Int)) (fun _ => rfl) rfl rfl ?_
      refine wl_call 32 [(.tmp 14), (.tmp 15)] _ [pt t 0, .int .i64 ((c : Nat) : Int)] (.bool true) rfl rfl (fun _ _ => by kernel_rfl) (by have := has_n hS (c : Int); rw [qc] at this; exact this) rfl ?_
      intro w3 hq
      replace Q1 := Q1.mo hq
      replace hS := hS.mo hq
      replace hM := hM.mo hq
      replace M := M.trans hq
      clear hq
      refine wl_un (fun v => Op.unary .not v) (.tmp 16) (.bool true) (.bool false) (fun _ => rfl) rfl (by kernel_rfl) rfl ?_
      refine wl_mv (.tmp 17) (.bool false) (fun _ => rfl) rfl rfl ?_
      refine wl_mv (.tmp 2) (.int .i64 (fa)) (fun _ => rfl) rfl rfl ?_
      refine wl_bin (fun x y => do eqGuard .lss 3 (.tmp 19) (.const (.int .i64 (0))) x y; binOp .lss 3 x y) (.tmp 19) (.const (.int .i64 (0))) (.int .i64 (fa)) (.int .i64 (0)) (.bool false) (fun _ => rfl) rfl rfl (ltI hf0 _ _ _) rfl ?_
      refine wl_pick (.tmp 18) (.const (.bool true)) (.tmp 20) false (.bool false) (fun _ => rfl) rfl rfl rfl ?_
      refine wl_mv (.tmp 21) (.bool false) (fun _ => rfl) rfl rfl ?_
      refine wl_mv (.tmp 2) (.int .i64 (fa)) (fun _ => rfl) rfl rfl ?_
      refine wl_mv (.tmp 3) (.int .i64 (ta)) (fun _ => rfl) rfl rfl ?_
      refine wl_bin (fun x y => do eqGuard .gtr 3 (.tmp 23) (.tmp 24) x y; binOp .gtr 3 x y) (.tmp 23) (.tmp 24) (.int .i64 (fa)) (.int .i64 (ta)) (.bool true) (fun _ => rfl) rfl rfl (gtI hf1 _ _ _) rfl ?_
      refine wl_pick (.tmp 22) (.const (.bool true)) (.tmp 25) false (.bool true) (fun _ => rfl) rfl rfl rfl ?_
      refine wl_mv (.tmp 26) (.bool true) (fun _ => rfl) rfl rfl ?_
      refine wl_skip rfl ?_
      refine wl_skip rfl ?_
      refine wl_skip rfl ?_
      refine wl_skip rfl ?_
      refine wl_pick (.tmp 27) (.const (.bool true)) (.tmp 31) true (.bool true) (fun _ => rfl) rfl rfl rfl ?_
      refine w_nil ?_
      refine xn_then ?_
      refine w_condT rfl ?_
      refine w_seq ?_
      refine w_reg ?_
      refine wl_build 42 [] [] (.agg #[.int .i64 0, .int .i64 0, .int .i64 0, .int .i64 0, .int .i64 0, .int .u64 0, .int .u64 0, .int .u64 0, .int .u64 0, .int .u64 0, .bool false, .bool false, .int .u64 0, .int .u64 0, .int .u64 0, .int .u64 0, .int .i64 0, .bool false, .int .u64 0, .int .u64 0, .int .u64 0, .int .u64 0, .int .i64 0]) rfl rfl (by kernel_rfl) rfl ?_
      refine wl_stx2 42 (.tmp 8) (.tmp 33) k1 0 #[.int .i64 0, .int .i64 0, .int .i64 0, .int .i64 0, .int .i64 0, .int .u64 0, .int .u64 0, .int .u64 0, .int .u64 0, .int .u64 0, .bool false, .bool false, .int .u64 0, .int .u64 0, .int .u64 0, .int .u64 0, .int .i64 0, .bool false, .int .u64 0, .int .u64 0, .int .u64 0, .int .u64 0, .int .i64 0] [.int .i64 0, .int .i64 0, .int .i64 0, .int .i64 0, .int .i64 0, .int .u64 0, .int .u64 0, .int .u64 0, .int .u64 0, .int .u64 0, .bool false, .bool false, .int .u64 0, .int .u64 0, .int .u64 0, .int .u64 0, .int .i64 0, .bool false, .int .u64 0, .int .u64 0, .int .u64 0, .int .u64 0, .int .i64 0] [.int .i64 0, .int .i64 0, .int .i64 0, .int .i64 0, .int .i64 0, .int .u64 0, .int .u64 0, .int .u64 0, .int .u64 0, .int .u64 0, .bool false, .bool false, .int .u64 0, .int .u64 0, .int .u64 0, .int .u64 0, .int .i64 0, .bool false, .int .u64 0, .int .u64 0, .int .u64 0, .int .u64 0, .int .i64 0] Q1 rfl rfl rfl rfl rfl zs42 rfl rfl rfl ?_
      intro w4 hT Qn
      replace Q1 := Qn
      have hK := Mk.st1 hT
      replace hM := hM.mk hK (Ne.symm nm_k1)
      replace hS := hS.kept hK (fun j e q => nd_k1 (q ▸ e)) (fun b hb q => ns_k1 b hb q)
      replace M := M.tr hK (fun j hj e => absurd e (by omega))
      clear hT hK Qn
      refine wl_mv (.const (.int .i64 (1))) (.int .i64 (1)) (fun _ => rfl) rfl rfl ?_
      refine w_nil ?_
      refine xn_then ?_
      refine w_ret ?_
      refine xr_then ?_
      exact w_ret2 _ _ (.agg #[.int .i64 0, .int .i64 0, .int .i64 0, .int .i64 0, .int .i64 0, .int .u64 0, .int .u64 0, .int .u64 0, .int .u64 0, .int .u64 0, .bool false, .bool false, .int .u64 0, .int .u64 0, .int .u64 0, .int .u64 0, .int .i64 0, .bool false, .int .u64 0, .int .u64 0, .int .u64 0, .int .u64 0, .int .i64 0]) (.int .i64 (1)) rfl ⟨k1, rfl, (run_row Q1 42 0 23 [.int .i64 0, .int .i64 0, .int .i64 0, .int .i64 0, .int .i64 0, .int .u64 0, .int .u64 0, .int .u64 0, .int .u64 0, .int .u64 0, .bool false, .bool false, .int .u64 0, .int .u64 0, .int .u64 0, .int .u64 0, .int .i64 0, .bool false, .int .u64 0, .int .u64 0, .int .u64 0, .int .u64 0, .int .i64 0] rfl Try.underlying42 rfl zs42)⟩ rfl ⟨sm0, 1, lk, rfl, Or.inr ⟨by have := of_decide_eq_false hf0; have := of_decide_eq_true hf1; omega, rfl, rfl⟩, ⟨⟨R, tr.p, ⟨hS, hAp, hC, hR, hn⟩⟩, hM, h.ok, h.nd, h.rg, h.le, h.l0, h.hm⟩, by omega, by omega, M⟩
    | false =>
      have hf1p := of_decide_eq_false hf1
      cases hf2 : decide ((tr.kv.length : Int) < ta) with
      | true =>
        have hf2p := of_decide_eq_true hf2
        refine w_reg ?_
        refine wl_mv (.tmp 0) (pt t 0) (fun _ => rfl) rfl rfl ?_
        refine wl_mv (.tmp 1) (.int .i64 ((c : Nat) : Int)) (fun _ => rfl) rfl rfl ?_
        refine wl_call 32 [(.tmp 14), (.tmp 15)] _ [pt t 0, .int .i64 ((c : Nat) : Int)] (.bool true) rfl rfl (fun _ _ => by kernel_rfl) (by have := has_n hS (c : Int); rw [qc] at this; exact this) rfl ?_
        intro w3 hq
        replace Q1 := Q1.mo hq
        replace hS := hS.mo hq
        replace hM := hM.mo hq
        replace M := M.trans hq
        clear hq
        refine wl_un (fun v => Op.unary .not v) (.tmp 16) (.bool true) (.bool false) (fun _ => rfl) rfl (by kernel_rfl) rfl ?_
        refine wl_mv (.tmp 17) (.bool false) (fun _ => rfl) rfl rfl ?_
        refine wl_mv (.tmp 2) (.int .i64 (fa)) (fun _ => rfl) rfl rfl ?_
        refine wl_bin (fun x y => do eqGuard .lss 3 (.tmp 19) (.const (.int .i64 (0))) x y; binOp .lss 3 x y) (.tmp 19) (.const (.int .i64 (0))) (.int .i64 (fa)) (.int .i64 (0)) (.bool false) (fun _ => rfl) rfl rfl (ltI hf0 _ _ _) rfl ?_
        refine wl_pick (.tmp 18) (.const (.bool true)) (.tmp 20) false (.bool false) (fun _ => rfl) rfl rfl rfl ?_
        refine wl_mv (.tmp 21) (.bool false) (fun _ => rfl) rfl rfl ?_
        refine wl_mv (.tmp 2) (.int .i64 (fa)) (fun _ => rfl) rfl rfl ?_
        refine wl_mv (.tmp 3) (.int .i64 (ta)) (fun _ => rfl) rfl rfl ?_
        refine wl_bin (fun x y => do eqGuard .gtr 3 (.tmp 23) (.tmp 24) x y; binOp .gtr 3 x y) (.tmp 23) (.tmp 24) (.int .i64 (fa)) (.int .i64 (ta)) (.bool false) (fun _ => rfl) rfl rfl (gtI hf1 _ _ _) rfl ?_
        refine wl_pick (.tmp 22) (.const (.bool true)) (.tmp 25) false (.bool false) (fun _ => rfl) rfl rfl rfl ?_
        refine wl_mv (.tmp 26) (.bool false) (fun _ => rfl) rfl rfl ?_
        refine wl_mv (.tmp 3) (.int .i64 (ta)) (fun _ => rfl) rfl rfl ?_
        refine wl_mv (.tmp 0) (pt t 0) (fun _ => rfl) rfl rfl ?_
        refine wl_call 10 [(.tmp 29)] _ [pt t 0] (.int .i64 ((tr.kv.length : Int))) rfl rfl (fun _ _ => by kernel_rfl) (len_n hS hM) rfl ?_
        intro w4 hq
        replace Q1 := Q1.mo hq
        replace hS := hS.mo hq
        replace hM := hM.mo hq
        replace M := M.trans hq
        clear hq
        refine wl_bin (fun x y => do eqGuard .gtr 3 (.tmp 28) (.tmp 30) x y; binOp .gtr 3 x y) (.tmp 28) (.tmp 30) (.int .i64 (ta)) (.int .i64 ((tr.kv.length : Int))) (.bool true) (fun _ => rfl) rfl rfl (gtI hf2 _ _ _) rfl ?_
        refine wl_pick (.tmp 27) (.const (.bool true)) (.tmp 31) false (.bool true) (fun _ => rfl) rfl rfl rfl ?_
        refine w_nil ?_
        refine xn_then ?_
        refine w_condT rfl ?_
        refine w_seq ?_
        refine w_reg ?_
        refine wl_build 42 [] [] (.agg #[.int .i64 0, .int .i64 0, .int .i64 0, .int .i64 0, .int .i64 0, .int .u64 0, .int .u64 0, .int .u64 0, .int .u64 0, .int .u64 0, .bool false, .bool false, .int .u64 0, .int .u64 0, .int .u64 0, .int .u64 0, .int .i64 0, .bool false, .int .u64 0, .int .u64 0, .int .u64 0, .int .u64 0, .int .i64 0]) rfl rfl (by kernel_rfl) rfl ?_
        refine wl_stx2 42 (.tmp 8) (.tmp 33) k1 0 #[.int .i64 0, .int .i64 0, .int .i64 0, .int .i64 0, .int .i64 0, .int .u64 0, .int .u64 0, .int .u64 0, .int .u64 0, .int .u64 0, .bool false, .bool false, .int .u64 0, .int .u64 0, .int .u64 0, .int .u64 0, .int .i64 0, .bool false, .int .u64 0, .int .u64 0, .int .u64 0, .int .u64 0, .int .i64 0] [.int .i64 0, .int .i64 0, .int .i64 0, .int .i64 0, .int .i64 0, .int .u64 0, .int .u64 0, .int .u64 0, .int .u64 0, .int .u64 0, .bool false, .bool false, .int .u64 0, .int .u64 0, .int .u64 0, .int .u64 0, .int .i64 0, .bool false, .int .u64 0, .int .u64 0, .int .u64 0, .int .u64 0, .int .i64 0] [.int .i64 0, .int .i64 0, .int .i64 0, .int .i64 0, .int .i64 0, .int .u64 0, .int .u64 0, .int .u64 0, .int .u64 0, .int .u64 0, .bool false, .bool false, .int .u64 0, .int .u64 0, .int .u64 0, .int .u64 0, .int .i64 0, .bool false, .int .u64 0, .int .u64 0, .int .u64 0, .int .u64 0, .int .i64 0] Q1 rfl rfl rfl rfl rfl zs42 rfl rfl rfl ?_
        intro w5 hT Qn
        replace Q1 := Qn
        have hK := Mk.st1 hT
        replace hM := hM.mk hK (Ne.symm nm_k1)
        replace hS := hS.kept hK (fun j e q => nd_k1 (q ▸ e)) (fun b hb q => ns_k1 b hb q)
        replace M := M.tr hK (fun j hj e => absurd e (by omega))
        clear hT hK Qn
        refine wl_mv (.const (.int .i64 (1))) (.int .i64 (1)) (fun _ => rfl) rfl rfl ?_
        refine w_nil ?_
        refine xn_then ?_
        refine w_ret ?_
        refine xr_then ?_
        exact w_ret2 _ _ (.agg #[.int .i64 0, .int .i64 0, .int .i64 0, .int .i64 0, .int .i64 0, .int .u64 0, .int .u64 0, .int .u64 0, .int .u64 0, .int .u64 0, .bool false, .bool false, .int .u64 0, .int .u64 0, .int .u64 0, .int .u64 0, .int .i64 0, .bool false, .int .u64 0, .int .u64 0, .int .u64 0, .int .u64 0, .int .i64 0]) (.int .i64 (1)) rfl ⟨k1, rfl, (run_row Q1 42 0 23 [.int .i64 0, .int .i64 0, .int .i64 0, .int .i64 0, .int .i64 0, .int .u64 0, .int .u64 0, .int .u64 0, .int .u64 0, .int .u64 0, .bool false, .bool false, .int .u64 0, .int .u64 0, .int .u64 0, .int .u64 0, .int .i64 0, .bool false, .int .u64 0, .int .u64 0, .int .u64 0, .int .u64 0, .int .i64 0] rfl Try.underlying42 rfl zs42)⟩ rfl ⟨sm0, 1, lk, rfl, Or.inr ⟨by have := of_decide_eq_false hf0; have := of_decide_eq_false hf1; have := of_decide_eq_true hf2; omega, rfl, rfl⟩, ⟨⟨R, tr.p, ⟨hS, hAp, hC, hR, hn⟩⟩, hM, h.ok, h.nd, h.rg, h.le, h.l0, h.hm⟩, by omega, by omega, M⟩
      | false =>
        have hf2p := of_decide_eq_false hf2
        refine w_reg ?_
        refine wl_mv (.tmp 0) (pt t 0) (fun _ => rfl) rfl rfl ?_
        refine wl_mv (.tmp 1) (.int .i64 ((c : Nat) : Int)) (fun _ => rfl) rfl rfl ?_
        refine wl_call 32 [(.tmp 14), (.tmp 15)] _ [pt t 0, .int .i64 ((c : Nat) : Int)] (.bool true) rfl rfl (fun _ _ => by kernel_rfl) (by have := has_n hS (c : Int); rw [qc] at this; exact this) rfl ?_
        intro w3 hq
        replace Q1 := Q1.mo hq
        replace hS := hS.mo hq
        replace hM := hM.mo hq
        replace M := M.trans hq
        clear hq
        refine wl_un (fun v => Op.unary .not v) (.tmp 16) (.bool true) (.bool false) (fun _ => rfl) rfl (by kernel_rfl) rfl ?_
        refine wl_mv (.tmp 17) (.bool false) (fun _ => rfl) rfl rfl ?_
        refine wl_mv (.tmp 2) (.int .i64 (fa)) (fun _ => rfl) rfl rfl ?_
        refine wl_bin (fun x y => do eqGuard .lss 3 (.tmp 19) (.const (.int .i64 (0))) x y; binOp .lss 3 x y) (.tmp 19) (.const (.int .i64 (0))) (.int .i64 (fa)) (.int .i64 (0)) (.bool false) (fun _ => rfl) rfl rfl (ltI hf0 _ _ _) rfl ?_
        refine wl_pick (.tmp 18) (.const (.bool true)) (.tmp 20) false (.bool false) (fun _ => rfl) rfl rfl rfl ?_
        refine wl_mv (.tmp 21) (.bool false) (fun _ => rfl) rfl rfl ?_
        refine wl_mv (.tmp 2) (.int .i64 (fa)) (fun _ => rfl) rfl rfl ?_
        refine wl_mv (.tmp 3) (.int .i64 (ta)) (fun _ => rfl) rfl rfl ?_
        refine wl_bin (fun x y => do eqGuard .gtr 3 (.tmp 23) (.tmp 24) x y; binOp .gtr 3 x y) (.tmp 23) (.tmp 24) (.int .i64 (fa)) (.int .i64 (ta)) (.bool false) (fun _ => rfl) rfl rfl (gtI hf1 _ _ _) rfl ?_
        refine wl_pick (.tmp 22) (.const (.bool true)) (.tmp 25) false (.bool false) (fun _ => rfl) rfl rfl rfl ?_
        refine wl_mv (.tmp 26) (.bool false) (fun _ => rfl) rfl rfl ?_
        refine wl_mv (.tmp 3) (.int .i64 (ta)) (fun _ => rfl) rfl rfl ?_
        refine wl_mv (.tmp 0) (pt t 0) (fun _ => rfl) rfl rfl ?_
        refine wl_call 10 [(.tmp 29)] _ [pt t 0] (.int .i64 ((tr.kv.length : Int))) rfl rfl (fun _ _ => by kernel_rfl) (len_n hS hM) rfl ?_
        intro w4 hq
        replace Q1 := Q1.mo hq
        replace hS := hS.mo hq
        replace hM := hM.mo hq
        replace M := M.trans hq
        clear hq
        refine wl_bin (fun x y => do eqGuard .gtr 3 (.tmp 28) (.tmp 30) x y; binOp .gtr 3 x y) (.tmp 28) (.tmp 30) (.int .i64 (ta)) (.int .i64 ((tr.kv.length : Int))) (.bool false) (fun _ => rfl) rfl rfl (gtI hf2 _ _ _) rfl ?_
        refine wl_pick (.tmp 27) (.const (.bool true)) (.tmp 31) false (.bool false) (fun _ => rfl) rfl rfl rfl ?_
        refine w_nil ?_
        refine xn_then ?_
        refine w_condF rfl ?_
        refine w_skip ?_
        refine xn_then ?_
        refine w_seq ?_
        refine w_reg ?_
        refine wl_mv (.tmp 0) (pt t 0) (fun _ => rfl) rfl rfl ?_
        refine wl_mv (.tmp 0) (pt t 0) (fun _ => rfl) rfl rfl ?_
        refine wl_nc (.tmp 35) t 0 rfl rfl rfl ?_
        refine wl_un (fun v => Instr.fieldAt 68 v 1) (.tmp 36) (pt t 0) (pt t 1) (fun _ => rfl) rfl (by kernel_rfl) rfl ?_
        refine wl_load 65 (.tmp 37) (pt t 1) (pp tr.p) rfl rfl (run_one hS.tr 65 1 rfl Try.underlying65 rfl) rfl ?_
        refine wl_mv (.tmp 1) (.int .i64 ((c : Nat) : Int)) (fun _ => rfl) rfl rfl ?_
        refine wl_mv (.tmp 2) (.int .i64 (fa)) (fun _ => rfl) rfl rfl ?_
        refine wl_mv (.tmp 3) (.int .i64 (ta)) (fun _ => rfl) rfl rfl ?_
        obtain ⟨Sp, hSp⟩ : ∃ X, X = prt c (mb.sc.getD c 0) fa ta tr.ids := ⟨_, rfl⟩
        refine wl_callg 33 [(.tmp 34), (.tmp 38), (.tmp 39), (.tmp 40), (.tmp 41)] _ [pt t 0, pp tr.p, .int .i64 ((c : Nat) : Int), .int .i64 (fa), .int .i64 (ta)] (.agg #[.int .i64 (Sp).r, .int .i64 (Sp).f, .int .i64 (Sp).k, .int .i64 (Sp).d, .int .i64 (Sp).e, .int .u64 (l0 (Sp).tt), .int .u64 (l1 (Sp).tt), .int .u64 (l2 (Sp).tt), .int .u64 (l3 (Sp).tt), .int .u64 (l4 (Sp).tt), .bool (Sp).so, .bool (Sp).mn.b, .int .u64 (l0 (Sp).mn.n), .int .u64 (l1 (Sp).mn.n), .int .u64 (l2 (Sp).mn.n), .int .u64 (l3 (Sp).mn.n), .int .i64 (Sp).mn.s, .bool (Sp).mx.b, .int .u64 (l0 (Sp).mx.n), .int .u64 (l1 (Sp).mx.n), .int .u64 (l2 (Sp).mx.n), .int .u64 (l3 (Sp).mx.n), .int .i64 (Sp).mx.s]) rfl rfl (fun _ _ => by kernel_rfl) (by have h9 := part_n tr (fa := fa) (ta := ta) hc hS hR h.ok h.le (by have := of_decide_eq_false hf0; have := of_decide_eq_false hf1; have := of_decide_eq_false hf2; omega) (by have := of_decide_eq_false hf0; have := of_decide_eq_false hf1; have := of_decide_eq_false hf2; omega) (by omega) (by omega); rw [← hSp] at h9; exact h9) rfl ?_
        intro w5 hF
        obtain ⟨lk2, hS2, hl1, hl2, hM2⟩ := hF
        have hl2b := hl2.1
        replace Q1 := hM2.at Q1 nd_k1
        replace hM := hM.mk hM2 hS.nb
        replace hS := hS2
        replace M := M.same hM2
        clear hS2 hM2
        refine wl_stx2 42 (.tmp 8) (.tmp 42) k1 0 #[.int .i64 (Sp).r, .int .i64 (Sp).f, .int .i64 (Sp).k, .int .i64 (Sp).d, .int .i64 (Sp).e, .int .u64 (l0 (Sp).tt), .int .u64 (l1 (Sp).tt), .int .u64 (l2 (Sp).tt), .int .u64 (l3 (Sp).tt), .int .u64 (l4 (Sp).tt), .bool (Sp).so, .bool (Sp).mn.b, .int .u64 (l0 (Sp).mn.n), .int .u64 (l1 (Sp).mn.n), .int .u64 (l2 (Sp).mn.n), .int .u64 (l3 (Sp).mn.n), .int .i64 (Sp).mn.s, .bool (Sp).mx.b, .int .u64 (l0 (Sp).mx.n), .int .u64 (l1 (Sp).mx.n), .int .u64 (l2 (Sp).mx.n), .int .u64 (l3 (Sp).mx.n), .int .i64 (Sp).mx.s] [.int .i64 0, .int .i64 0, .int .i64 0, .int .i64 0, .int .i64 0, .int .u64 0, .int .u64 0, .int .u64 0, .int .u64 0, .int .u64 0, .bool false, .bool false, .int .u64 0, .int .u64 0, .int .u64 0, .int .u64 0, .int .i64 0, .bool false, .int .u64 0, .int .u64 0, .int .u64 0, .int .u64 0, .int .i64 0] [.int .i64 (Sp).r, .int .i64 (Sp).f, .int .i64 (Sp).k, .int .i64 (Sp).d, .int .i64 (Sp).e, .int .u64 (l0 (Sp).tt), .int .u64 (l1 (Sp).tt), .int .u64 (l2 (Sp).tt), .int .u64 (l3 (Sp).tt), .int .u64 (l4 (Sp).tt), .bool (Sp).so, .bool (Sp).mn.b, .int .u64 (l0 (Sp).mn.n), .int .u64 (l1 (Sp).mn.n), .int .u64 (l2 (Sp).mn.n), .int .u64 (l3 (Sp).mn.n), .int .i64 (Sp).mn.s, .bool (Sp).mx.b, .int .u64 (l0 (Sp).mx.n), .int .u64 (l1 (Sp).mx.n), .int .u64 (l2 (Sp).mx.n), .int .u64 (l3 (Sp).mx.n), .int .i64 (Sp).mx.s] Q1 rfl rfl rfl rfl rfl zs42 rfl rfl rfl ?_
        intro w6 hT Qn
        replace Q1 := Qn
        have hK := Mk.st1 hT
        replace hM := hM.mk hK (Ne.symm nm_k1)
        replace hS := hS.kept hK (fun j e q => nd_k1 (q ▸ e)) (fun b hb q => ns_k1 b hb q)
        replace M := M.tr hK (fun j hj e => absurd e (by omega))
        clear hT hK Qn
        refine wl_mv (.const (.int .i64 (0))) (.int .i64 (0)) (fun _ => rfl) rfl rfl ?_
        refine w_nil ?_
        refine xn_then ?_
        refine w_ret ?_
        exact w_ret2 _ _ (.agg #[.int .i64 (Sp).r, .int .i64 (Sp).f, .int .i64 (Sp).k, .int .i64 (Sp).d, .int .i64 (Sp).e, .int .u64 (l0 (Sp).tt), .int .u64 (l1 (Sp).tt), .int .u64 (l2 (Sp).tt), .int .u64 (l3 (Sp).tt), .int .u64 (l4 (Sp).tt), .bool (Sp).so, .bool (Sp).mn.b, .int .u64 (l0 (Sp).mn.n), .int .u64 (l1 (Sp).mn.n), .int .u64 (l2 (Sp).mn.n), .int .u64 (l3 (Sp).mn.n), .int .i64 (Sp).mn.s, .bool (Sp).mx.b, .int .u64 (l0 (Sp).mx.n), .int .u64 (l1 (Sp).mx.n), .int .u64 (l2 (Sp).mx.n), .int .u64 (l3 (Sp).mx.n), .int .i64 (Sp).mx.s]) (.int .i64 (0)) rfl ⟨k1, rfl, (run_row Q1 42 0 23 [.int .i64 (Sp).r, .int .i64 (Sp).f, .int .i64 (Sp).k, .int .i64 (Sp).d, .int .i64 (Sp).e, .int .u64 (l0 (Sp).tt), .int .u64 (l1 (Sp).tt), .int .u64 (l2 (Sp).tt), .int .u64 (l3 (Sp).tt), .int .u64 (l4 (Sp).tt), .bool (Sp).so, .bool (Sp).mn.b, .int .u64 (l0 (Sp).mn.n), .int .u64 (l1 (Sp).mn.n), .int .u64 (l2 (Sp).mn.n), .int .u64 (l3 (Sp).mn.n), .int .i64 (Sp).mn.s, .bool (Sp).mx.b, .int .u64 (l0 (Sp).mx.n), .int .u64 (l1 (Sp).mx.n), .int .u64 (l2 (Sp).mx.n), .int .u64 (l3 (Sp).mx.n), .int .i64 (Sp).mx.s] rfl Try.underlying42 rfl zs42)⟩ rfl ⟨Sp, 0, lk2, rfl, Or.inl ⟨by have := of_decide_eq_false hf0; have := of_decide_eq_false hf1; have := of_decide_eq_false hf2; omega, rfl, hSp⟩, h.lkd ⟨R, tr.p, ⟨hS, hAp, hC, hR, hn⟩⟩ hM (by omega), by omega, by omega, M⟩
theorem set_x {tr : T} {cn id : Int} {x : V10} (h : FT D w t mb tr lk) (qc : (decide (0 ≤ cn) && decide (cn < (mb.sc.length : Int))) = false) : Calls Try.prog 17 #[pt t 0, .int .i64 id, .int .i64 cn, V10.v x] w fun e w' => e = .returned (.int .i64 1) ∧ Mo w w' := by
  obtain ⟨R, root, hS, hAp, hC, hR, hn⟩ := h.ts
  have hM := h.om
  have hDlt : ∀ j, D j → j < w.heap.size := fun j e => hS.lt e
  have hslt : ∀ b, ob mb.h = some b → b < w.heap.size := fun b e => hS.sc.lt e
  have hmlt := hM.lt
  refine w_enter 37 Try.func17 Try.ntmps17 rfl rfl ?_
  have M : Mk (fun _ => False) w w := Mk.refl _ _
  refine w_seq ?_
  refine w_reg ?_
  refine wl_box 55 (.tmp 3) (.agg #[.int .i64 (x.K), .bool x.n.b, .int .u64 (l0 x.n.n), .int .u64 (l1 x.n.n), .int .u64 (l2 x.n.n), .int .u64 (l3 x.n.n), .int .i64 (x.n.s), .bool x.fl, .string x.tx, .int .i64 (x.er)]) (#[.int .i64 (x.K), .bool x.n.b, .int .u64 (l0 x.n.n), .int .u64 (l1 x.n.n), .int .u64 (l2 x.n.n), .int .u64 (l3 x.n.n), .int .i64 (x.n.s), .bool x.fl, .string x.tx, .int .i64 (x.er)]) rfl rfl (fun _ => by kernel_rfl) rfl ?_
  intro k1 w1 hk9 hz hq Q1
  have hMs := M.size
  have N_k1 : w.heap.size ≤ k1 := by omega
  have nd_k1 : ¬ D k1 := fun e => by have := hDlt _ e; omega
  have ns_k1 : ∀ b, ob mb.h = some b → b ≠ k1 := fun b hb => by have := hslt b hb; omega
  have nm_k1 : k1 ≠ mb.m := by omega
  replace hS := hS.mo hq
  replace hM := hM.mo hq
  replace M := M.trans hq
  clear hk9 hz hq hMs
  refine wl_mv (.const (.int .i64 (0))) (.int .i64 (0)) (fun _ => rfl) rfl rfl ?_
  refine w_nil ?_
  refine xn_then ?_
  refine w_seq ?_
  refine w_seq ?_
  refine w_reg ?_
  refine wl_mv (.tmp 0) (pt t 0) (fun _ => rfl) rfl rfl ?_
  refine wl_call 30 [(.tmp 10)] _ [pt t 0] (.bool true) rfl rfl (fun _ _ => by kernel_rfl) (made_n hS) rfl ?_
  intro w2 hq
  replace Q1 := Q1.mo hq
  replace hS := hS.mo hq
  replace hM := hM.mo hq
  replace M := M.trans hq
  clear hq
  refine wl_un (fun v => Op.unary .not v) (.tmp 11) (.bool true) (.bool false) (fun _ => rfl) rfl (by kernel_rfl) rfl ?_
  refine w_nil ?_
  refine xn_then ?_
  refine w_condF rfl ?_
  refine w_skip ?_
  refine xn_then ?_
  refine w_seq ?_
  refine w_seq ?_
  refine w_reg ?_
  refine wl_mv (.tmp 0) (pt t 0) (fun _ => rfl) rfl rfl ?_
  refine wl_mv (.tmp 2) (.int .i64 (cn)) (fun _ => rfl) rfl rfl ?_
  refine wl_call 32 [(.tmp 13), (.tmp 14)] _ [pt t 0, .int .i64 (cn)] (.bool false) rfl rfl (fun _ _ => by kernel_rfl) (by have := has_n hS cn; rw [qc] at this; exact this) rfl ?_
  intro w3 hq
  replace Q1 := Q1.mo hq
  replace hS := hS.mo hq
  replace hM := hM.mo hq
  replace M := M.trans hq
  clear hq
  refine wl_un (fun v => Op.unary .not v) (.tmp 15) (.bool false) (.bool true) (fun _ => rfl) rfl (by kernel_rfl) rfl ?_
  refine w_nil ?_
  refine xn_then ?_
  refine w_condT rfl ?_
  refine w_seq ?_
  refine w_reg ?_
  refine wl_mv (.const (.int .i64 (1))) (.int .i64 (1)) (fun _ => rfl) rfl rfl ?_
  refine w_nil ?_
  refine xn_then ?_
  refine w_ret ?_
  refine xr_then ?_
  exact w_ret1 _ (.int .i64 (1)) rfl rfl ⟨rfl, M.mo (Mo.refl _) (fun k e => e.elim)⟩
theorem set_n {tr : T} {id : Int} {c : Nat} {x : V10} (h : FT D w t mb tr lk) (hi : -9223372036854775808 ≤ id ∧ id ≤ 9223372036854775807) (hc : c < mb.sc.length) (hq : adr tr.kv id = none) : Calls Try.prog 17 #[pt t 0, .int .i64 id, .int .i64 (c : Int), V10.v x] w fun e w' => e = .returned (.int .i64 4) ∧ Mo w w' := by
  have hw : (Lit.int .i64 id).wf = true := WalkArith.wf_i64 ⟨hi.1, hi.2⟩
  obtain ⟨R, root, hS, hAp, hC, hR, hn⟩ := h.ts
  have hM := h.om
  have hDlt : ∀ j, D j → j < w.heap.size := fun j e => hS.lt e
  have hslt : ∀ b, ob mb.h = some b → b < w.heap.size := fun b e => hS.sc.lt e
  have hmlt := hM.lt
  have qc : (decide (0 ≤ (c : Int)) && decide ((c : Int) < (mb.sc.length : Int))) = true := by simp only [Bool.and_eq_true, decide_eq_true_eq]; omega
  refine w_enter 37 Try.func17 Try.ntmps17 rfl rfl ?_
  have M : Mk (fun _ => False) w w := Mk.refl _ _
  refine w_seq ?_
  refine w_reg ?_
  refine wl_box 55 (.tmp 3) (.agg #[.int .i64 (x.K), .bool x.n.b, .int .u64 (l0 x.n.n), .int .u64 (l1 x.n.n), .int .u64 (l2 x.n.n), .int .u64 (l3 x.n.n), .int .i64 (x.n.s), .bool x.fl, .string x.tx, .int .i64 (x.er)]) (#[.int .i64 (x.K), .bool x.n.b, .int .u64 (l0 x.n.n), .int .u64 (l1 x.n.n), .int .u64 (l2 x.n.n), .int .u64 (l3 x.n.n), .int .i64 (x.n.s), .bool x.fl, .string x.tx, .int .i64 (x.er)]) rfl rfl (fun _ => by kernel_rfl) rfl ?_
  intro k1 w1 hk9 hz hq Q1
  have hMs := M.size
  have N_k1 : w.heap.size ≤ k1 := by omega
  have nd_k1 : ¬ D k1 := fun e => by have := hDlt _ e; omega
  have ns_k1 : ∀ b, ob mb.h = some b → b ≠ k1 := fun b hb => by have := hslt b hb; omega
  have nm_k1 : k1 ≠ mb.m := by omega
  replace hS := hS.mo hq
  replace hM := hM.mo hq
  replace M := M.trans hq
  clear hk9 hz hq hMs
  refine wl_mv (.const (.int .i64 (0))) (.int .i64 (0)) (fun _ => rfl) rfl rfl ?_
  refine w_nil ?_
  refine xn_then ?_
  refine w_seq ?_
  refine w_seq ?_
  refine w_reg ?_
  refine wl_mv (.tmp 0) (pt t 0) (fun _ => rfl) rfl rfl ?_
  refine wl_call 30 [(.tmp 10)] _ [pt t 0] (.bool true) rfl rfl (fun _ _ => by kernel_rfl) (made_n hS) rfl ?_
  intro w2 hq
  replace Q1 := Q1.mo hq
  replace hS := hS.mo hq
  replace hM := hM.mo hq
  replace M := M.trans hq
  clear hq
  refine wl_un (fun v => Op.unary .not v) (.tmp 11) (.bool true) (.bool false) (fun _ => rfl) rfl (by kernel_rfl) rfl ?_
  refine w_nil ?_
  refine xn_then ?_
  refine w_condF rfl ?_
  refine w_skip ?_
  refine xn_then ?_
  refine w_seq ?_
  refine w_seq ?_
  refine w_reg ?_
  refine wl_mv (.tmp 0) (pt t 0) (fun _ => rfl) rfl rfl ?_
  refine wl_mv (.tmp 2) (.int .i64 ((c : Nat) : Int)) (fun _ => rfl) rfl rfl ?_
  refine wl_call 32 [(.tmp 13), (.tmp 14)] _ [pt t 0, .int .i64 ((c : Nat) : Int)] (.bool true) rfl rfl (fun _ _ => by kernel_rfl) (by have := has_n hS (c : Int); rw [qc] at this; exact this) rfl ?_
  intro w3 hq
  replace Q1 := Q1.mo hq
  replace hS := hS.mo hq
  replace hM := hM.mo hq
  replace M := M.trans hq
  clear hq
  refine wl_un (fun v => Op.unary .not v) (.tmp 15) (.bool true) (.bool false) (fun _ => rfl) rfl (by kernel_rfl) rfl ?_
  refine w_nil ?_
  refine xn_then ?_
  refine w_condF rfl ?_
  refine w_skip ?_
  refine xn_then ?_
  refine w_seq ?_
  refine w_reg ?_
  refine wl_mv (.tmp 0) (pt t 0) (fun _ => rfl) rfl rfl ?_
  refine wl_nc (.tmp 17) t 0 rfl rfl rfl ?_
  refine wl_un (fun v => Instr.fieldAt 68 v 2) (.tmp 18) (pt t 0) (pt t 2) (fun _ => rfl) rfl (by kernel_rfl) rfl ?_
  refine wl_load 66 (.tmp 19) (pt t 2) (.map (some mb.m)) rfl rfl (run_one hS.tr 66 2 rfl Try.underlying66 rfl) rfl ?_
  refine wl_mv (.tmp 1) (.int .i64 (id)) (fun _ => rfl) rfl rfl ?_
  refine wl_bin (fun x y => Instr.lookup 66 x y false) (.tmp 20) (.tmp 21) (.map (some mb.m)) (.int .i64 (id)) (pp none) (fun _ => rfl) rfl rfl (by have := hM.look hw; rw [hq] at this; exact this) rfl ?_
  refine wl_mv (.tmp 22) (pp none) (fun _ => rfl) rfl rfl ?_
  refine w_nil ?_
  refine xn_then ?_
  refine w_seq ?_
  refine w_seq ?_
  refine w_reg ?_
  refine wl_mv (.tmp 9) (pp none) (fun _ => rfl) rfl rfl ?_
  refine wl_bin (fun x y => do eqGuard .eql 65 (.tmp 23) (.const (.pointer none)) x y; binOp .eql 65 x y) (.tmp 23) (.const (.pointer none)) (pp none) (pp none) (.bool true) (fun _ => rfl) rfl rfl (eqP none _ _ _) rfl ?_
  refine w_nil ?_
  refine xn_then ?_
  refine w_condT rfl ?_
  refine w_seq ?_
  refine w_reg ?_
  refine wl_mv (.const (.int .i64 (4))) (.int .i64 (4)) (fun _ => rfl) rfl rfl ?_
  refine w_nil ?_
  refine xn_then ?_
  refine w_ret ?_
  refine xr_then ?_
  exact w_ret1 _ (.int .i64 (4)) rfl rfl ⟨rfl, M.mo (Mo.refl _) (fun k e => e.elim)⟩
theorem set_ok {tr : T} {id : Int} {c : Nat} {x : V10} (h : FT D w t mb tr lk) (hi : -9223372036854775808 ≤ id ∧ id ≤ 9223372036854775807) (hc : c < mb.sc.length) (hx : x.n.ok) {k : Nat} (hq : adr tr.kv id = some k) (hlk : lk ≤ 3000000000000000000) : Calls Try.prog 17 #[pt t 0, .int .i64 id, .int .i64 (c : Int), V10.v x] w fun e w' => ∃ (A B : List Py) (y : Py) (tr' : T) (lk' : Int), e = .returned (.int .i64 0) ∧ tr.ids = A ++ y :: B ∧ y.i = id ∧ tr'.ids = A ++ ⟨y.i, y.v, y.vs.set c x⟩ :: B ∧ Sim tr tr' ∧ FT D w' t mb tr' lk' ∧ lk < lk' ∧ lk' ≤ lk + 3 * tr.ht ∧ Mk D w w' := by
  have hw : (Lit.int .i64 id).wf = true := WalkArith.wf_i64 ⟨hi.1, hi.2⟩
  obtain ⟨C0, y0, s0, lT, r0, hpl, hy0⟩ := kv_focus tr (adr_some hq)
  have ok0 := plug_okC C0 (tr := .n k y0 s0 lT r0) (by rw [hpl]; exact h.ok)
  have hsz := plug_sz C0 (.n k y0 s0 lT r0)
  have hph := plug_ht C0 (.n k y0 s0 lT r0)
  rw [hpl] at hsz hph
  simp only [T.sz] at hsz
  have hph1 : 1 ≤ (T.n k y0 s0 lT r0).ht := by unfold T.ht; omega
  have hle := h.le
  have hl00 := h.l0
  have hhl := tr.ht_le
  have hcn := csz_nn C0; have hl0n := T.sz_nn lT; have hr0n := T.sz_nn r0
  obtain ⟨R, root, hS, hAp, hC, hR, hn⟩ := h.ts
  have hM := h.om
  have hix := pre_len C0
  have hDlt : ∀ j, D j → j < w.heap.size := fun j e => hS.lt e
  have hslt : ∀ b, ob mb.h = some b → b < w.heap.size := fun b e => hS.sc.lt e
  have hmlt := hM.lt
  obtain ⟨⟨hd1, hk⟩, hRl, hRr⟩ := (RS.at C0 (tr1 := .n k y0 s0 lT r0) (R := R) (root := root) (by rw [hpl]; exact ⟨hS, hAp, hC, hR, hn⟩)).rp
  have hvl : y0.vs.length = mb.sc.length := (hS.sv k _ hk).2.1
  have hcl : c < y0.vs.length := by omega
  have qc : (decide (0 ≤ (c : Int)) && decide ((c : Int) < (mb.sc.length : Int))) = true := by simp only [Bool.and_eq_true, decide_eq_true_eq]; omega
  have hsim : Sim tr (plug C0 (.n k ⟨y0.i, y0.v, y0.vs.set c x⟩ s0 lT r0)) := by
    rw [← hpl]; exact Sim.plug C0 ⟨rfl, rfl, rfl, Sim.same _, Sim.same _⟩
  obtain ⟨sa1, sa2, sa3, sa4, sa5, sa6, sa7⟩ := hsim.all
  have hyz : ∀ d, d ≠ c → y0.vs.getD d v0 = (y0.vs.set c x).getD d v0 := fun d hd => by
    rw [List.getD_eq_getElem?_getD, List.getD_eq_getElem?_getD, List.getElem?_set_ne (Ne.symm hd)]
  have hnd : (adC C0 ++ (T.n k y0 s0 lT r0).ad).Nodup := (RS.at C0 (tr1 := .n k y0 s0 lT r0) (R := R) (root := root) (by rw [hpl]; exact ⟨hS, hAp, hC, hR, hn⟩)).nd
  have hkC : k ∉ adC C0 := fun m => (nd_pos hnd).2.2 k m (by unfold T.ad; simp)
  have hkl : k ∉ lT.ad ∧ k ∉ r0.ad := by
    have := (nd_pos hnd).2.1
    unfold T.ad at this
    have := (List.nodup_cons.1 this).1
    simp only [List.mem_append, not_or] at this
    exact this
  have hU : Mu mb.sc c (ud R k ⟨top C0, lT.p, r0.p, s0, ⟨y0.i, y0.v, y0.vs.set c x⟩, hd1, agg mb.sc (lT.ids ++ y0 :: r0.ids)⟩) root (plug C0 (.n k ⟨y0.i, y0.v, y0.vs.set c x⟩ s0 lT r0)) (C0.length + 1) (some k) :=
    ⟨C0, ⟨y0.i, y0.v, y0.vs.set c x⟩, s0, lT, r0, hd1, _, rfl, rfl, ud_same _ _ _, Alm.of hyz, hRl.ud hkl.1, hRr.ud hkl.2, RepU.of hyz C0 (tr := .n k y0 s0 lT r0) (A := lT.ids) (B := r0.ids) (by rw [hpl]; exact hC) (by rw [hpl]; exact hR) rfl rfl rfl hkC, hnd⟩
  obtain ⟨b, off, cap, hh, hb9, hf9, hr9, hob⟩ := (hS.sv k _ hk).1.ix (i := c) (cs := V10.cells y0.vs[c]) (by rw [List.getElem?_map, List.getElem?_eq_getElem hcl]; rfl)
  rw [List.length_map] at hh
  refine w_enter 37 Try.func17 Try.ntmps17 rfl rfl ?_
  have M : Mk D w w := Mk.refl _ _
  refine w_seq ?_
  refine w_reg ?_
  refine wl_box 55 (.tmp 3) (.agg #[.int .i64 (x.K), .bool x.n.b, .int .u64 (l0 x.n.n), .int .u64 (l1 x.n.n), .int .u64 (l2 x.n.n), .int .u64 (l3 x.n.n), .int .i64 (x.n.s), .bool x.fl, .string x.tx, .int .i64 (x.er)]) (#[.int .i64 (x.K), .bool x.n.b, .int .u64 (l0 x.n.n), .int .u64 (l1 x.n.n), .int .u64 (l2 x.n.n), .int .u64 (l3 x.n.n), .int .i64 (x.n.s), .bool x.fl, .string x.tx, .int .i64 (x.er)]) rfl rfl (fun _ => by kernel_rfl) rfl ?_
  intro k1 w1 hk9 hz hq Q1
  have hMs := M.size
  have N_k1 : w.heap.size ≤ k1 := by omega
  have nd_k1 : ¬ D k1 := fun e => by have := hDlt _ e; omega
  have ns_k1 : ∀ b, ob mb.h = some b → b ≠ k1 := fun b hb => by have := hslt b hb; omega
  have nm_k1 : k1 ≠ mb.m := by omega
  replace hS := hS.mo hq
  replace hM := hM.mo hq
  replace M := M.trans hq
  clear hk9 hz hq hMs
  refine wl_mv (.const (.int .i64 (0))) (.int .i64 (0)) (fun _ => rfl) rfl rfl ?_
  refine w_nil ?_
  refine xn_then ?_
  refine w_seq ?_
  refine w_seq ?_
  refine w_reg ?_
  refine wl_mv (.tmp 0) (pt t 0) (fun _ => rfl) rfl rfl ?_
  refine wl_call 30 [(.tmp 10)] _ [pt t 0] (.bool true) rfl rfl (fun _ _ => by kernel_rfl) (made_n hS) rfl ?_
  intro w2 hq
  replace Q1 := Q1.mo hq
  replace hS := hS.mo hq
  replace hM := hM.mo hq
  replace M := M.trans hq
  clear hq
  refine wl_un (fun v => Op.unary .not v) (.tmp 11) (.bool true) (.bool false) (fun _ => rfl) rfl (by kernel_rfl) rfl ?_
  refine w_nil ?_
  refine xn_then ?_
  refine w_condF rfl ?_
  refine w_skip ?_
  refine xn_then ?_
  refine w_seq ?_
  refine w_seq ?_
  refine w_reg ?_
  refine wl_mv (.tmp 0) (pt t 0) (fun _ => rfl) rfl rfl ?_
  refine wl_mv (.tmp 2) (.int .i64 ((c : Nat) : Int)) (fun _ => rfl) rfl rfl ?_
  refine wl_call 32 [(.tmp 13), (.tmp 14)] _ [pt t 0, .int .i64 ((c : Nat) : Int)] (.bool true) rfl rfl (fun _ _ => by kernel_rfl) (by have := has_n hS (c : Int); rw [qc] at this; exact this) rfl ?_
  intro w3 hq
  replace Q1 := Q1.mo hq
  replace hS := hS.mo hq
  replace hM := hM.mo hq
  replace M := M.trans hq
  clear hq
  refine wl_un (fun v => Op.unary .not v) (.tmp 15) (.bool true) (.bool false) (fun _ => rfl) rfl (by kernel_rfl) rfl ?_
  refine w_nil ?_
  refine xn_then ?_
  refine w_condF rfl ?_
  refine w_skip ?_
  refine xn_then ?_
  refine w_seq ?_
  refine w_reg ?_
  refine wl_mv (.tmp 0) (pt t 0) (fun _ => rfl) rfl rfl ?_
  refine wl_nc (.tmp 17) t 0 rfl rfl rfl ?_
  refine wl_un (fun v => Instr.fieldAt 68 v 2) (.tmp 18) (pt t 0) (pt t 2) (fun _ => rfl) rfl (by kernel_rfl) rfl ?_
  refine wl_load 66 (.tmp 19) (pt t 2) (.map (some mb.m)) rfl rfl (run_one hS.tr 66 2 rfl Try.underlying66 rfl) rfl ?_
  refine wl_mv (.tmp 1) (.int .i64 (id)) (fun _ => rfl) rfl rfl ?_
  refine wl_bin (fun x y => Instr.lookup 66 x y false) (.tmp 20) (.tmp 21) (.map (some mb.m)) (.int .i64 (id)) (pt k 0) (fun _ => rfl) rfl rfl (by have := hM.look hw; rw [hq] at this; exact this) rfl ?_
  refine wl_mv (.tmp 22) (pt k 0) (fun _ => rfl) rfl rfl ?_
  refine w_nil ?_
  refine xn_then ?_
  refine w_seq ?_
  refine w_seq ?_
  refine w_reg ?_
  refine wl_mv (.tmp 9) (pt k 0) (fun _ => rfl) rfl rfl ?_
  refine wl_bin (fun x y => do eqGuard .eql 65 (.tmp 23) (.const (.pointer none)) x y; binOp .eql 65 x y) (.tmp 23) (.const (.pointer none)) (pt k 0) (pp none) (.bool false) (fun _ => rfl) rfl rfl (eqP (some k) _ _ _) rfl ?_
  refine w_nil ?_
  refine xn_then ?_
  refine w_condF rfl ?_
  refine w_skip ?_
  refine xn_then ?_
  refine w_seq ?_
  refine w_any 8 [.inl (pt k 0), .inl (pt k 0), .inl (pt k 0), .inl (pt k 1), .inl (y0.v), .inl (.int .i64 ((c : Nat) : Int)), .inl (.agg #[.int .i64 (x.K), .bool x.n.b, .int .u64 (l0 x.n.n), .int .u64 (l1 x.n.n), .int .u64 (l2 x.n.n), .int .u64 (l3 x.n.n), .int .i64 (x.n.s), .bool x.fl, .string x.tx, .int .i64 (x.er)]), .inl (pt b (off + c * 10))] [] (by kernel_rfl) (by kernel_rfl) (by kernel_rfl) (by kernel_rfl) rfl (by kernel_rfl) (by kernel_rfl) late_nil ?_ ?_ ?_
  · exact Ds.none rfl
  · refine ea_cons ?_ (ea_cons ?_ (ea_cons ?_ (ea_cons ?_ (ea_cons ?_ (ea_cons ?_ (ea_cons ?_ (ea_cons ?_ (ea_nil))))))))
    · exact og_eq (pt k 0) rfl (fun f wf hq hd K hK => go_run rfl (wo_mv (.tmp 9) (pt k 0) (fun _ => rfl) rfl (hK _ (Mo.refl _))))
    · exact og_eq (pt k 0) rfl (fun f wf hq hd K hK => go_run rfl (wo_nc (.tmp 25) k 0 rfl (hd 0 rfl) (hK _ (Mo.refl _))))
    · exact og_eq (pt k 0) rfl (fun f wf hq hd K hK => go_run rfl (wo_un (fun v => Instr.fieldAt 93 v 0) (.tmp 26) (pt k 0) (pt k 0) (fun _ => rfl) (hd 1 rfl) (by kernel_rfl) (hK _ (Mo.refl _))))
    · exact og_eq (pt k 1) rfl (fun f wf hq hd K hK => go_run rfl (wo_un (fun v => Instr.fieldAt 83 v 1) (.tmp 27) (pt k 0) (pt k 1) (fun _ => rfl) (hd 2 rfl) (by kernel_rfl) (hK _ (Mo.refl _))))
    · exact og_eq (y0.v) rfl (fun f wf hq hd K hK => have hS := hS.mo hq; go_run rfl (wo_load 29 (.tmp 28) (pt k 1) (y0.v) rfl (hd 3 rfl) (run_one (hS.rc k _ hk) 29 1 rfl Try.underlying29 rfl) (hK _ (Mo.refl _))))
    · exact og_eq (.int .i64 ((c : Nat) : Int)) rfl (fun f wf hq hd K hK => go_run rfl (wo_mv (.tmp 2) (.int .i64 ((c : Nat) : Int)) (fun _ => rfl) rfl (hK _ (Mo.refl _))))
    · exact og_eq (.agg #[.int .i64 (x.K), .bool x.n.b, .int .u64 (l0 x.n.n), .int .u64 (l1 x.n.n), .int .u64 (l2 x.n.n), .int .u64 (l3 x.n.n), .int .i64 (x.n.s), .bool x.fl, .string x.tx, .int .i64 (x.er)]) rfl (fun f wf hq hd K hK => have Q1 := Q1.mo hq; go_run rfl (wo_load 55 (.tmp 7) (pt k1 0) (.agg #[.int .i64 (x.K), .bool x.n.b, .int .u64 (l0 x.n.n), .int .u64 (l1 x.n.n), .int .u64 (l2 x.n.n), .int .u64 (l3 x.n.n), .int .i64 (x.n.s), .bool x.fl, .string x.tx, .int .i64 (x.er)]) rfl rfl (run_row Q1 55 0 10 [.int .i64 (x.K), .bool x.n.b, .int .u64 (l0 x.n.n), .int .u64 (l1 x.n.n), .int .u64 (l2 x.n.n), .int .u64 (l3 x.n.n), .int .i64 (x.n.s), .bool x.fl, .string x.tx, .int .i64 (x.er)] rfl Try.underlying55 rfl zs55) (hK _ (Mo.refl _))))
    · exact og_eq (pt b (off + c * 10)) rfl (fun f wf hq hd K hK => go_run rfl (wo_bin (fun x y => Instr.indexAt 29 x y) (.tmp 29) (.tmp 30) (y0.v) (.int .i64 ((c : Nat) : Int)) (pt b (off + c * 10)) (fun _ => rfl) (hd 4 rfl) (hd 5 rfl) (by show (Instr.indexAt 29 y0.v _).run _ _ = _; rw [show y0.v = _ from hh]; exact ix29 b off c _ _ hcl _) (hK _ (Mo.refl _))))
  intro kf4 w4 hq _ _
  replace Q1 := Q1.mo hq
  replace hS := hS.mo hq
  replace hM := hM.mo hq
  replace M := M.trans hq
  clear hq
  have hth := (hS.sv k _ hk).1.there (i := c) (by rw [List.length_map]; exact hh) (by rw [List.length_map]; exact hcl) (fun y hy => by obtain ⟨z, _, rfl⟩ := List.mem_map.1 hy; rfl)
  refine wl_stm 55 (.tmp 32) (.tmp 31) b (off + c * 10) x.cells.toArray hth rfl rfl rfl rfl zs55 (by rw [← Array.all_toList]; rfl) rfl ?_
  have hMk := (Mk.refl D _).st (St2.mk2 w4 b (off + c * 10) x.cells) (hS.ds hk (Or.inl hob)).1
  have hS2 := hS.val hAp hk hcl x hx hh
  obtain ⟨w5, hw9⟩ : ∃ W, W = w4.setCells b (off + c * 10) x.cells := ⟨_, rfl⟩
  rw [← hw9] at hMk hS2
  show WL _ _ _ _ _ _ (w4.setCells b (off + c * 10) x.cells)
  rw [← hw9]
  replace Q1 := hMk.at Q1 nd_k1
  replace hM := hM.mk hMk hS.nb
  replace M := M.same hMk
  replace hS := hS2
  replace hAp := hAp.wr hk (r' := ⟨top C0, lT.p, r0.p, s0, ⟨y0.i, y0.v, y0.vs.set c x⟩, hd1, agg mb.sc (lT.ids ++ y0 :: r0.ids)⟩) rfl rfl
  clear hMk hS2 hw9 hth
  refine w_nil ?_
  refine xn_then ?_
  refine w_seq ?_
  refine w_reg ?_
  refine wl_mv (.tmp 0) (pt t 0) (fun _ => rfl) rfl rfl ?_
  refine wl_mv (.tmp 9) (pt k 0) (fun _ => rfl) rfl rfl ?_
  refine wl_mv (.tmp 2) (.int .i64 ((c : Nat) : Int)) (fun _ => rfl) rfl rfl ?_
  refine wl_callg 39 [(.tmp 33), (.tmp 34), (.tmp 35)] _ [pt t 0, pt k 0, .int .i64 ((c : Nat) : Int)] (.tuple #[]) rfl rfl (fun _ _ => by kernel_rfl) (mendUp_n (some k) hS hAp hU hc h.l0 (by omega)) rfl ?_
  intro w6 hF
  obtain ⟨R2, lk2, hS2, hA2, hU2, hl1, hl2, hl3, hM2⟩ := hF
  replace Q1 := hM2.at Q1 nd_k1
  replace hM := hM.mk hM2 hS.nb
  replace hS := hS2
  replace M := M.same hM2
  clear hS2 hM2
  refine w_nil ?_
  refine xn_then ?_
  refine w_seq ?_
  refine w_reg ?_
  refine wl_mv (.const (.int .i64 (0))) (.int .i64 (0)) (fun _ => rfl) rfl rfl ?_
  refine w_nil ?_
  refine xn_then ?_
  refine w_ret ?_
  exact w_ret1 _ (.int .i64 (0)) rfl rfl ⟨preR C0 ++ lT.ids, r0.ids ++ posR C0, y0, plug C0 (.n k ⟨y0.i, y0.v, y0.vs.set c x⟩ s0 lT r0), lk2, rfl, by rw [← hpl, plug_rows]; simp [T.ids], hy0, by rw [plug_rows]; simp [T.ids], hsim, ⟨⟨R2, root, hS, hA2, hU2.1, hU2.2.1, by rw [← sa2]; exact hn⟩, by rw [← sa5]; exact hM, sa6 h.ok, by rw [← T.kv_ids, ← sa5, T.kv_ids]; exact h.nd, by rw [← T.kv_ids, ← sa5, T.kv_ids]; exact h.rg, by rw [← sa3]; exact h.le, by omega, h.hm⟩, hl3 (by omega), by omega, M⟩
end
end G
end Go.Proofs.Ythfemlhmnjfjiaa
/-
  The document's Bits and OfInt; num.
-/
namespace Go.Proofs.Ythfemlhmnjfjiaa
open Go.RowKit
namespace G
section
variable {w : World}
theorem quo2 {n : Nat} (h : n ≤ 9223372036854775807) (x y : Operand) (w : World) : (do eqGuard .quo 3 x y (.int .i64 (n : Int)) (.int .i64 2); binOp .quo 3 (.int .i64 (n : Int)) (.int .i64 2)).run Try.prog w = .ok (.int .i64 ((n / 2 : Nat) : Int)) w := by
  have e : (do eqGuard .quo 3 x y (.int .i64 (n : Int)) (.int .i64 2); binOp .quo 3 (.int .i64 (n : Int)) (.int .i64 2)).run Try.prog w = .ok (.int .i64 (IntKind.i64.wrap (Int.tdiv (n : Int) 2))) w := by kernel_rfl
  have h2 : IntKind.i64.wrap (Int.tdiv (n : Int) 2) = ((n / 2 : Nat) : Int) := by
    rw [Int.tdiv_eq_ediv_of_nonneg (by omega), IntKind.wrap_i64]; omega
  rw [e, h2]
theorem zs40 : (Try.prog.info? 40).map (·.size) = some 6 := by kernel_rfl
theorem cvU {n m : Int} (h : IntKind.u64.wrap n = m) (w : World) : (convert 2 34 (.int .i64 n)).run Try.prog w = .ok (.int .u64 m) w := by
  subst h; kernel_rfl
theorem sbU {n m : Int} (h : IntKind.u64.wrap (0 - n) = m) (x y : Operand) (w : World) : (do eqGuard .sub 34 x y (.int .u64 0) (.int .u64 n); binOp .sub 34 (.int .u64 0) (.int .u64 n)).run Try.prog w = .ok (.int .u64 m) w := by
  subst h; kernel_rfl
theorem bits_n (n : Nat) (w : World) (hn : n ≤ 1000000) (hb : bitc n ≤ 100000) : Calls Try.prog 20 #[.int .i64 (n : Int)] w fun e w' => e = .returned (.int .i64 (bitc n : Int)) ∧ Mo w w' := by
  refine w_enter 11 Try.func20 Try.ntmps20 rfl rfl ?_
  have M : Mo w w := Mo.refl _
  refine w_seq ?_
  refine w_reg ?_
  refine wl_mv (.const (.int .i64 (0))) (.int .i64 (0)) (fun _ => rfl) rfl rfl ?_
  refine w_nil ?_
  refine xn_then ?_
  refine w_seq ?_
  refine w_reg ?_
  refine wl_mv (.const (.int .i64 (0))) (.int .i64 (0)) (fun _ => rfl) rfl rfl ?_
  refine w_nil ?_
  refine xn_then ?_
  refine w_seq ?_
  refine w_block ?_
  refine w_loop (fun m l w1 => ∃ k : Nat, look l 0 = .int .i64 (m : Int) ∧ look l 3 = .int .i64 (k : Int) ∧ k + bitc m = bitc n ∧ m ≤ n ∧ Mo w w1) n ⟨0, rfl, rfl, by omega, Nat.le_refl _, M⟩ ?_
  clear M
  rintro m l wl ⟨k, e0, e3, hk, hm, M⟩
  refine w_seq ?_
  refine w_seq ?_
  cases hf0 : decide (0 < m) with
  | true =>
    have hf0p := of_decide_eq_true hf0
    refine w_reg ?_
    refine wl_mv (.tmp 0) (.int .i64 ((m : Nat) : Int)) (fun _ => rfl) e0 rfl ?_
    refine wl_bin (fun x y => do eqGuard .gtr 3 (.tmp 4) (.const (.int .i64 (0))) x y; binOp .gtr 3 x y) (.tmp 4) (.const (.int .i64 (0))) (.int .i64 ((m : Nat) : Int)) (.int .i64 (0)) (.bool true) (fun _ => rfl) rfl rfl (gtI (by rw [← hf0]; exact decide_eq_decide.2 (by omega)) _ _ _) rfl ?_
    refine w_nil ?_
    refine xn_then ?_
    refine w_condT rfl ?_
    refine w_skip ?_
    refine xn_then ?_
    refine w_block ?_
    refine w_seq ?_
    refine w_reg ?_
    refine wl_mv (.tmp 0) (.int .i64 ((m : Nat) : Int)) (fun _ => rfl) e0 rfl ?_
    refine wl_bin (fun x y => do eqGuard .quo 3 (.tmp 6) (.const (.int .i64 (2))) x y; binOp .quo 3 x y) (.tmp 6) (.const (.int .i64 (2))) (.int .i64 ((m : Nat) : Int)) (.int .i64 (2)) (.int .i64 ((m / 2 : Nat) : Int)) (fun _ => rfl) rfl rfl (quo2 (by omega) _ _ _) rfl ?_
    refine wl_mv (.tmp 7) (.int .i64 ((m / 2 : Nat) : Int)) (fun _ => rfl) rfl rfl ?_
    refine w_nil ?_
    refine xn_then ?_
    refine w_reg ?_
    refine wl_mv (.tmp 3) (.int .i64 ((k : Nat) : Int)) (fun _ => rfl) e3 rfl ?_
    refine wl_bin (fun x y => do eqGuard .add 3 (.tmp 8) (.const (.int .i64 (1))) x y; binOp .add 3 x y) (.tmp 8) (.const (.int .i64 (1))) (.int .i64 ((k : Nat) : Int)) (.int .i64 (1)) (.int .i64 ((k + 1 : Nat) : Int)) (fun _ => rfl) rfl rfl (add1r (k := k) (by omega) _ _ _) rfl ?_
    refine wl_mv (.tmp 9) (.int .i64 ((k + 1 : Nat) : Int)) (fun _ => rfl) rfl rfl ?_
    refine w_nil ?_
    refine xn_blk ?_
    exact xn_loop (m / 2) (by omega) ⟨k + 1, rfl, rfl, by rw [bitc_s (show m ≠ 0 by omega)] at hk; omega, by omega, M⟩
  | false =>
    have hf0p := of_decide_eq_false hf0
    refine w_reg ?_
    refine wl_mv (.tmp 0) (.int .i64 ((m : Nat) : Int)) (fun _ => rfl) e0 rfl ?_
    refine wl_bin (fun x y => do eqGuard .gtr 3 (.tmp 4) (.const (.int .i64 (0))) x y; binOp .gtr 3 x y) (.tmp 4) (.const (.int .i64 (0))) (.int .i64 ((m : Nat) : Int)) (.int .i64 (0)) (.bool false) (fun _ => rfl) rfl rfl (gtI (by rw [← hf0]; exact decide_eq_decide.2 (by omega)) _ _ _) rfl ?_
    refine w_nil ?_
    refine xn_then ?_
    refine w_condF rfl ?_
    refine w_exit ?_
    refine xx_then ?_
    refine xx_then ?_
    refine xx_blk ?_
    refine xn_then ?_
    refine w_seq ?_
    refine w_reg ?_
    refine wl_mv (.tmp 3) (.int .i64 ((k : Nat) : Int)) (fun _ => rfl) e3 rfl ?_
    refine wl_mv (.tmp 10) (.int .i64 ((k : Nat) : Int)) (fun _ => rfl) rfl rfl ?_
    refine w_nil ?_
    refine xn_then ?_
    refine w_ret ?_
    have hm0 : m = 0 := by omega
    rw [hm0, bitc_0] at hk
    have hkn : k = bitc n := by omega
    exact w_ret1 _ (.int .i64 ((k : Nat) : Int)) rfl rfl ⟨by rw [hkn], M⟩
theorem ofint_p {n s : Int} (hn : -9223372036854775808 ≤ n ∧ n ≤ 9223372036854775807) (q0 : decide (n < 0) = false) (q1 : decide (s < 0) = false) (q2 : decide (18 < s) = false) : Calls Try.prog 45 #[.int .i64 n, .int .i64 s] w fun e w' => e = .returned (.tuple #[.agg #[.bool false, .int .u64 (l0 (n)), .int .u64 (l1 (n)), .int .u64 (l2 (n)), .int .u64 (l3 (n)), .int .i64 (s)], .int .i64 0]) ∧ Mo w w' := by
  have hq0 := of_decide_eq_false q0
  refine w_enter 26 Try.func45 Try.ntmps45 rfl rfl ?_
  have M : Mo w w := Mo.refl _
  refine w_seq ?_
  refine w_reg ?_
  refine wl_alloc 40 #[.bool false, .int .u64 0, .int .u64 0, .int .u64 0, .int .u64 0, .int .i64 0] rfl (fun _ => by kernel_rfl) rfl ?_
  intro k1 w1 hk hz hq Q1
  have N_k1 : w.heap.size ≤ k1 := by have := M.size; omega
  replace M := M.trans hq
  clear hk hz hq
  refine wl_mv (.const (.int .i64 (0))) (.int .i64 (0)) (fun _ => rfl) rfl rfl ?_
  refine w_nil ?_
  refine xn_then ?_
  refine w_seq ?_
  refine w_seq ?_
  refine w_reg ?_
  refine wl_mv (.tmp 1) (.int .i64 (s)) (fun _ => rfl) rfl rfl ?_
  refine wl_bin (fun x y => do eqGuard .lss 3 (.tmp 7) (.const (.int .i64 (0))) x y; binOp .lss 3 x y) (.tmp 7) (.const (.int .i64 (0))) (.int .i64 (s)) (.int .i64 (0)) (.bool false) (fun _ => rfl) rfl rfl (ltI q1 _ _ _) rfl ?_
  refine wl_mv (.tmp 8) (.bool false) (fun _ => rfl) rfl rfl ?_
  refine wl_mv (.tmp 1) (.int .i64 (s)) (fun _ => rfl) rfl rfl ?_
  refine wl_bin (fun x y => do eqGuard .gtr 3 (.tmp 10) (.const (.int .i64 (18))) x y; binOp .gtr 3 x y) (.tmp 10) (.const (.int .i64 (18))) (.int .i64 (s)) (.int .i64 (18)) (.bool false) (fun _ => rfl) rfl rfl (gtI q2 _ _ _) rfl ?_
  refine wl_pick (.tmp 9) (.const (.bool true)) (.tmp 11) false (.bool false) (fun _ => rfl) rfl rfl rfl ?_
  refine w_nil ?_
  refine xn_then ?_
  refine w_condF rfl ?_
  refine w_skip ?_
  refine xn_then ?_
  refine w_seq ?_
  refine w_reg ?_
  refine wl_mv (.tmp 0) (.int .i64 (n)) (fun _ => rfl) rfl rfl ?_
  refine wl_un (fun v => convert 2 34 v) (.tmp 14) (.int .i64 (n)) (.int .u64 (n)) (fun _ => rfl) rfl (cvU (by rw [IntKind.wrap_u64]; omega) _) rfl ?_
  refine wl_mv (.tmp 15) (.int .u64 (n)) (fun _ => rfl) rfl rfl ?_
  refine w_nil ?_
  refine xn_then ?_
  refine w_seq ?_
  refine w_seq ?_
  refine w_reg ?_
  refine wl_mv (.tmp 0) (.int .i64 (n)) (fun _ => rfl) rfl rfl ?_
  refine wl_bin (fun x y => do eqGuard .lss 2 (.tmp 16) (.const (.int .i64 (0))) x y; binOp .lss 2 x y) (.tmp 16) (.const (.int .i64 (0))) (.int .i64 (n)) (.int .i64 (0)) (.bool false) (fun _ => rfl) rfl rfl (ltL q0 _ _ _) rfl ?_
  refine w_nil ?_
  refine xn_then ?_
  refine w_condF rfl ?_
  refine w_skip ?_
  refine xn_then ?_
  refine w_seq ?_
  refine w_reg ?_
  refine wl_mv (.tmp 0) (.int .i64 (n)) (fun _ => rfl) rfl rfl ?_
  refine wl_bin (fun x y => do eqGuard .lss 2 (.tmp 20) (.const (.int .i64 (0))) x y; binOp .lss 2 x y) (.tmp 20) (.const (.int .i64 (0))) (.int .i64 (n)) (.int .i64 (0)) (.bool false) (fun _ => rfl) rfl rfl (ltL q0 _ _ _) rfl ?_
  refine wl_mv (.tmp 6) (.int .u64 (n)) (fun _ => rfl) rfl rfl ?_
  refine wl_call 58 [(.tmp 22)] _ [.int .u64 (n)] (.agg #[.int .u64 (l0 (n)), .int .u64 (l1 (n)), .int .u64 (l2 (n)), .int .u64 (l3 (n))]) rfl rfl (fun _ _ => by kernel_rfl) (from34_any (n) _ ⟨by omega, by omega⟩) rfl ?_
  intro w2 hq
  replace Q1 := Q1.mo hq
  replace M := M.trans hq
  clear hq
  refine wl_mv (.tmp 1) (.int .i64 (s)) (fun _ => rfl) rfl rfl ?_
  refine wl_build 40 [(0, (.tmp 21)), (1, (.tmp 23)), (2, (.tmp 24))] [(0, .bool false), (1, .agg #[.int .u64 (l0 (n)), .int .u64 (l1 (n)), .int .u64 (l2 (n)), .int .u64 (l3 (n))]), (2, .int .i64 (s))] (.agg #[.bool false, .int .u64 (l0 (n)), .int .u64 (l1 (n)), .int .u64 (l2 (n)), .int .u64 (l3 (n)), .int .i64 (s)]) rfl rfl (by kernel_rfl) rfl ?_
  refine wl_st 40 (.tmp 4) (.tmp 25) k1 0 #[.bool false, .int .u64 (l0 (n)), .int .u64 (l1 (n)), .int .u64 (l2 (n)), .int .u64 (l3 (n)), .int .i64 (s)] [.bool false, .int .u64 0, .int .u64 0, .int .u64 0, .int .u64 0, .int .i64 0] [.bool false, .int .u64 (l0 (n)), .int .u64 (l1 (n)), .int .u64 (l2 (n)), .int .u64 (l3 (n)), .int .i64 (s)] Q1 rfl rfl rfl rfl rfl zs40 rfl rfl rfl ?_
  intro w3 hS Qn
  replace Q1 := Qn
  clear Qn
  replace M := hS.mo _ N_k1 M
  clear hS
  refine wl_mv (.const (.int .i64 (0))) (.int .i64 (0)) (fun _ => rfl) rfl rfl ?_
  refine w_nil ?_
  refine xn_then ?_
  refine w_ret ?_
  exact w_ret2 _ _ (.agg #[.bool false, .int .u64 (l0 (n)), .int .u64 (l1 (n)), .int .u64 (l2 (n)), .int .u64 (l3 (n)), .int .i64 (s)]) (.int .i64 (0)) rfl ⟨k1, rfl, (run_row Q1 40 0 6 [.bool false, .int .u64 (l0 (n)), .int .u64 (l1 (n)), .int .u64 (l2 (n)), .int .u64 (l3 (n)), .int .i64 (s)] rfl Try.underlying40 rfl zs40)⟩ rfl ⟨rfl, M⟩
theorem ofint_m {n s : Int} (hn : -9223372036854775808 ≤ n ∧ n ≤ 9223372036854775807) (q0 : decide (n < 0) = true) (q1 : decide (s < 0) = false) (q2 : decide (18 < s) = false) : Calls Try.prog 45 #[.int .i64 n, .int .i64 s] w fun e w' => e = .returned (.tuple #[.agg #[.bool true, .int .u64 (l0 (-n)), .int .u64 (l1 (-n)), .int .u64 (l2 (-n)), .int .u64 (l3 (-n)), .int .i64 (s)], .int .i64 0]) ∧ Mo w w' := by
  have hq0 := of_decide_eq_true q0
  refine w_enter 26 Try.func45 Try.ntmps45 rfl rfl ?_
  have M : Mo w w := Mo.refl _
  refine w_seq ?_
  refine w_reg ?_
  refine wl_alloc 40 #[.bool false, .int .u64 0, .int .u64 0, .int .u64 0, .int .u64 0, .int .i64 0] rfl (fun _ => by kernel_rfl) rfl ?_
  intro k1 w1 hk hz hq Q1
  have N_k1 : w.heap.size ≤ k1 := by have := M.size; omega
  replace M := M.trans hq
  clear hk hz hq
  refine wl_mv (.const (.int .i64 (0))) (.int .i64 (0)) (fun _ => rfl) rfl rfl ?_
  refine w_nil ?_
  refine xn_then ?_
  refine w_seq ?_
  refine w_seq ?_
  refine w_reg ?_
  refine wl_mv (.tmp 1) (.int .i64 (s)) (fun _ => rfl) rfl rfl ?_
  refine wl_bin (fun x y => do eqGuard .lss 3 (.tmp 7) (.const (.int .i64 (0))) x y; binOp .lss 3 x y) (.tmp 7) (.const (.int .i64 (0))) (.int .i64 (s)) (.int .i64 (0)) (.bool false) (fun _ => rfl) rfl rfl (ltI q1 _ _ _) rfl ?_
  refine wl_mv (.tmp 8) (.bool false) (fun _ => rfl) rfl rfl ?_
  refine wl_mv (.tmp 1) (.int .i64 (s)) (fun _ => rfl) rfl rfl ?_
  refine wl_bin (fun x y => do eqGuard .gtr 3 (.tmp 10) (.const (.int .i64 (18))) x y; binOp .gtr 3 x y) (.tmp 10) (.const (.int .i64 (18))) (.int .i64 (s)) (.int .i64 (18)) (.bool false) (fun _ => rfl) rfl rfl (gtI q2 _ _ _) rfl ?_
  refine wl_pick (.tmp 9) (.const (.bool true)) (.tmp 11) false (.bool false) (fun _ => rfl) rfl rfl rfl ?_
  refine w_nil ?_
  refine xn_then ?_
  refine w_condF rfl ?_
  refine w_skip ?_
  refine xn_then ?_
  refine w_seq ?_
  refine w_reg ?_
  refine wl_mv (.tmp 0) (.int .i64 (n)) (fun _ => rfl) rfl rfl ?_
  refine wl_un (fun v => convert 2 34 v) (.tmp 14) (.int .i64 (n)) (.int .u64 (18446744073709551616 + n)) (fun _ => rfl) rfl (cvU (by rw [IntKind.wrap_u64]; omega) _) rfl ?_
  refine wl_mv (.tmp 15) (.int .u64 (18446744073709551616 + n)) (fun _ => rfl) rfl rfl ?_
  refine w_nil ?_
  refine xn_then ?_
  refine w_seq ?_
  refine w_seq ?_
  refine w_reg ?_
  refine wl_mv (.tmp 0) (.int .i64 (n)) (fun _ => rfl) rfl rfl ?_
  refine wl_bin (fun x y => do eqGuard .lss 2 (.tmp 16) (.const (.int .i64 (0))) x y; binOp .lss 2 x y) (.tmp 16) (.const (.int .i64 (0))) (.int .i64 (n)) (.int .i64 (0)) (.bool true) (fun _ => rfl) rfl rfl (ltL q0 _ _ _) rfl ?_
  refine w_nil ?_
  refine xn_then ?_
  refine w_condT rfl ?_
  refine w_reg ?_
  refine wl_mv (.tmp 6) (.int .u64 (18446744073709551616 + n)) (fun _ => rfl) rfl rfl ?_
  refine wl_bin (fun x y => do eqGuard .sub 34 (.const (.int .u64 (0))) (.tmp 18) x y; binOp .sub 34 x y) (.const (.int .u64 (0))) (.tmp 18) (.int .u64 (0)) (.int .u64 (18446744073709551616 + n)) (.int .u64 (-n)) (fun _ => rfl) rfl rfl (sbU (by rw [IntKind.wrap_u64]; omega) _ _ _) rfl ?_
  refine wl_mv (.tmp 19) (.int .u64 (-n)) (fun _ => rfl) rfl rfl ?_
  refine w_nil ?_
  refine xn_then ?_
  refine w_seq ?_
  refine w_reg ?_
  refine wl_mv (.tmp 0) (.int .i64 (n)) (fun _ => rfl) rfl rfl ?_
  refine wl_bin (fun x y => do eqGuard .lss 2 (.tmp 20) (.const (.int .i64 (0))) x y; binOp .lss 2 x y) (.tmp 20) (.const (.int .i64 (0))) (.int .i64 (n)) (.int .i64 (0)) (.bool true) (fun _ => rfl) rfl rfl (ltL q0 _ _ _) rfl ?_
  refine wl_mv (.tmp 6) (.int .u64 (-n)) (fun _ => rfl) rfl rfl ?_
  refine wl_call 58 [(.tmp 22)] _ [.int .u64 (-n)] (.agg #[.int .u64 (l0 (-n)), .int .u64 (l1 (-n)), .int .u64 (l2 (-n)), .int .u64 (l3 (-n))]) rfl rfl (fun _ _ => by kernel_rfl) (from34_any (-n) _ ⟨by omega, by omega⟩) rfl ?_
  intro w2 hq
  replace Q1 := Q1.mo hq
  replace M := M.trans hq
  clear hq
  refine wl_mv (.tmp 1) (.int .i64 (s)) (fun _ => rfl) rfl rfl ?_
  refine wl_build 40 [(0, (.tmp 21)), (1, (.tmp 23)), (2, (.tmp 24))] [(0, .bool true), (1, .agg #[.int .u64 (l0 (-n)), .int .u64 (l1 (-n)), .int .u64 (l2 (-n)), .int .u64 (l3 (-n))]), (2, .int .i64 (s))] (.agg #[.bool true, .int .u64 (l0 (-n)), .int .u64 (l1 (-n)), .int .u64 (l2 (-n)), .int .u64 (l3 (-n)), .int .i64 (s)]) rfl rfl (by kernel_rfl) rfl ?_
  refine wl_st 40 (.tmp 4) (.tmp 25) k1 0 #[.bool true, .int .u64 (l0 (-n)), .int .u64 (l1 (-n)), .int .u64 (l2 (-n)), .int .u64 (l3 (-n)), .int .i64 (s)] [.bool false, .int .u64 0, .int .u64 0, .int .u64 0, .int .u64 0, .int .i64 0] [.bool true, .int .u64 (l0 (-n)), .int .u64 (l1 (-n)), .int .u64 (l2 (-n)), .int .u64 (l3 (-n)), .int .i64 (s)] Q1 rfl rfl rfl rfl rfl zs40 rfl rfl rfl ?_
  intro w3 hS Qn
  replace Q1 := Qn
  clear Qn
  replace M := hS.mo _ N_k1 M
  clear hS
  refine wl_mv (.const (.int .i64 (0))) (.int .i64 (0)) (fun _ => rfl) rfl rfl ?_
  refine w_nil ?_
  refine xn_then ?_
  refine w_ret ?_
  exact w_ret2 _ _ (.agg #[.bool true, .int .u64 (l0 (-n)), .int .u64 (l1 (-n)), .int .u64 (l2 (-n)), .int .u64 (l3 (-n)), .int .i64 (s)]) (.int .i64 (0)) rfl ⟨k1, rfl, (run_row Q1 40 0 6 [.bool true, .int .u64 (l0 (-n)), .int .u64 (l1 (-n)), .int .u64 (l2 (-n)), .int .u64 (l3 (-n)), .int .i64 (s)] rfl Try.underlying40 rfl zs40)⟩ rfl ⟨rfl, M⟩
theorem num_p {n s : Int} (hn : -9223372036854775808 ≤ n ∧ n ≤ 9223372036854775807) (q0 : decide (n < 0) = false) (q1 : decide (s < 0) = false) (q2 : decide (18 < s) = false) : Calls Try.prog 28 #[.int .i64 n, .int .i64 s] w fun e w' => e = .returned (V10.v ⟨1, ⟨false, n, s⟩, false, ⟨#[]⟩, 0⟩) ∧ Mo w w' := by
  refine w_enter 15 Try.func28 Try.ntmps28 rfl rfl ?_
  have M : Mo w w := Mo.refl _
  refine w_seq ?_
  refine w_reg ?_
  refine wl_alloc 55 #[.int .i64 0, .bool false, .int .u64 0, .int .u64 0, .int .u64 0, .int .u64 0, .int .i64 0, .bool false, .string ⟨#[]⟩, .int .i64 0] rfl (fun _ => by kernel_rfl) rfl ?_
  intro k1 w1 hk hz hq Q1
  have N_k1 : w.heap.size ≤ k1 := by have := M.size; omega
  replace M := M.trans hq
  clear hk hz hq
  refine w_nil ?_
  refine xn_then ?_
  refine w_seq ?_
  refine w_reg ?_
  refine wl_mv (.tmp 0) (.int .i64 (n)) (fun _ => rfl) rfl rfl ?_
  refine wl_mv (.tmp 1) (.int .i64 (s)) (fun _ => rfl) rfl rfl ?_
  refine wl_call 45 [(.tmp 8), (.tmp 9)] _ [.int .i64 (n), .int .i64 (s)] (.tuple #[.agg #[.bool false, .int .u64 (l0 (n)), .int .u64 (l1 (n)), .int .u64 (l2 (n)), .int .u64 (l3 (n)), .int .i64 (s)], .int .i64 (0)]) rfl rfl (fun _ _ => by kernel_rfl) (ofint_p hn q0 q1 q2) rfl ?_
  intro w2 hq
  replace Q1 := Q1.mo hq
  replace M := M.trans hq
  clear hq
  refine wl_mv (.tmp 10) (.tuple #[.agg #[.bool false, .int .u64 (l0 (n)), .int .u64 (l1 (n)), .int .u64 (l2 (n)), .int .u64 (l3 (n)), .int .i64 (s)], .int .i64 (0)]) (fun _ => rfl) rfl rfl ?_
  refine wl_un (fun v => Instr.extract v 0) (.tmp 7) (.tuple #[.agg #[.bool false, .int .u64 (l0 (n)), .int .u64 (l1 (n)), .int .u64 (l2 (n)), .int .u64 (l3 (n)), .int .i64 (s)], .int .i64 (0)]) (.agg #[.bool false, .int .u64 (l0 (n)), .int .u64 (l1 (n)), .int .u64 (l2 (n)), .int .u64 (l3 (n)), .int .i64 (s)]) (fun _ => rfl) rfl (by kernel_rfl) rfl ?_
  refine wl_un (fun v => Instr.extract v 1) (.tmp 7) (.tuple #[.agg #[.bool false, .int .u64 (l0 (n)), .int .u64 (l1 (n)), .int .u64 (l2 (n)), .int .u64 (l3 (n)), .int .i64 (s)], .int .i64 (0)]) (.int .i64 (0)) (fun _ => rfl) rfl (by kernel_rfl) rfl ?_
  refine wl_alloc 40 #[.bool false, .int .u64 0, .int .u64 0, .int .u64 0, .int .u64 0, .int .i64 0] rfl (fun _ => by kernel_rfl) rfl ?_
  intro k2 w3 hk hz hq Q2
  have ne_k1_k2 : k1 ≠ k2 := by have := Q1.lt; omega
  have N_k2 : w.heap.size ≤ k2 := by have := M.size; omega
  replace Q1 := Q1.mo hq
  replace M := M.trans hq
  clear hk hz hq
  refine wl_st 40 (.tmp 5) (.tmp 11) k2 0 #[.bool false, .int .u64 (l0 (n)), .int .u64 (l1 (n)), .int .u64 (l2 (n)), .int .u64 (l3 (n)), .int .i64 (s)] [.bool false, .int .u64 0, .int .u64 0, .int .u64 0, .int .u64 0, .int .i64 0] [.bool false, .int .u64 (l0 (n)), .int .u64 (l1 (n)), .int .u64 (l2 (n)), .int .u64 (l3 (n)), .int .i64 (s)] Q2 rfl rfl rfl rfl rfl zs40 rfl rfl rfl ?_
  intro w4 hS Qn
  replace Q2 := Qn
  clear Qn
  replace Q1 := hS.other _ _ ne_k1_k2 Q1
  replace M := hS.mo _ N_k2 M
  clear hS
  refine wl_mv (.tmp 12) (.int .i64 (0)) (fun _ => rfl) rfl rfl ?_
  refine w_nil ?_
  refine xn_then ?_
  refine w_seq ?_
  refine w_reg ?_
  refine wl_load 40 (.tmp 5) (pt k2 0) (.agg #[.bool false, .int .u64 (l0 (n)), .int .u64 (l1 (n)), .int .u64 (l2 (n)), .int .u64 (l3 (n)), .int .i64 (s)]) rfl rfl (run_row Q2 40 0 6 [.bool false, .int .u64 (l0 (n)), .int .u64 (l1 (n)), .int .u64 (l2 (n)), .int .u64 (l3 (n)), .int .i64 (s)] rfl Try.underlying40 rfl zs40) rfl ?_
  refine wl_build 55 [(0, (.const (.int .i64 (1)))), (1, (.tmp 13))] [(0, .int .i64 (1)), (1, .agg #[.bool false, .int .u64 (l0 (n)), .int .u64 (l1 (n)), .int .u64 (l2 (n)), .int .u64 (l3 (n)), .int .i64 (s)])] (.agg #[.int .i64 (1), .bool false, .int .u64 (l0 (n)), .int .u64 (l1 (n)), .int .u64 (l2 (n)), .int .u64 (l3 (n)), .int .i64 (s), .bool false, .string ⟨#[]⟩, .int .i64 0]) rfl rfl (by kernel_rfl) rfl ?_
  refine wl_st 55 (.tmp 4) (.tmp 14) k1 0 #[.int .i64 (1), .bool false, .int .u64 (l0 (n)), .int .u64 (l1 (n)), .int .u64 (l2 (n)), .int .u64 (l3 (n)), .int .i64 (s), .bool false, .string ⟨#[]⟩, .int .i64 0] [.int .i64 0, .bool false, .int .u64 0, .int .u64 0, .int .u64 0, .int .u64 0, .int .i64 0, .bool false, .string ⟨#[]⟩, .int .i64 0] [.int .i64 (1), .bool false, .int .u64 (l0 (n)), .int .u64 (l1 (n)), .int .u64 (l2 (n)), .int .u64 (l3 (n)), .int .i64 (s), .bool false, .string ⟨#[]⟩, .int .i64 0] Q1 rfl rfl rfl rfl rfl zs55 rfl rfl rfl ?_
  intro w5 hS Qn
  replace Q1 := Qn
  clear Qn
  replace Q2 := hS.other _ _ ne_k1_k2.symm Q2
  replace M := hS.mo _ N_k1 M
  clear hS
  refine w_nil ?_
  refine xn_then ?_
  refine w_ret ?_
  exact w_ret1 _ (.agg #[.int .i64 (1), .bool false, .int .u64 (l0 (n)), .int .u64 (l1 (n)), .int .u64 (l2 (n)), .int .u64 (l3 (n)), .int .i64 (s), .bool false, .string ⟨#[]⟩, .int .i64 0]) rfl ⟨k1, rfl, (run_row Q1 55 0 10 [.int .i64 (1), .bool false, .int .u64 (l0 (n)), .int .u64 (l1 (n)), .int .u64 (l2 (n)), .int .u64 (l3 (n)), .int .i64 (s), .bool false, .string ⟨#[]⟩, .int .i64 0] rfl Try.underlying55 rfl zs55)⟩ ⟨rfl, M⟩
theorem num_m {n s : Int} (hn : -9223372036854775808 ≤ n ∧ n ≤ 9223372036854775807) (q0 : decide (n < 0) = true) (q1 : decide (s < 0) = false) (q2 : decide (18 < s) = false) : Calls Try.prog 28 #[.int .i64 n, .int .i64 s] w fun e w' => e = .returned (V10.v ⟨1, ⟨true, -n, s⟩, false, ⟨#[]⟩, 0⟩) ∧ Mo w w' := by
  refine w_enter 15 Try.func28 Try.ntmps28 rfl rfl ?_
  have M : Mo w w := Mo.refl _
  refine w_seq ?_
  refine w_reg ?_
  refine wl_alloc 55 #[.int .i64 0, .bool false, .int .u64 0, .int .u64 0, .int .u64 0, .int .u64 0, .int .i64 0, .bool false, .string ⟨#[]⟩, .int .i64 0] rfl (fun _ => by kernel_rfl) rfl ?_
  intro k1 w1 hk hz hq Q1
  have N_k1 : w.heap.size ≤ k1 := by have := M.size; omega
  replace M := M.trans hq
  clear hk hz hq
  refine w_nil ?_
  refine xn_then ?_
  refine w_seq ?_
  refine w_reg ?_
  refine wl_mv (.tmp 0) (.int .i64 (n)) (fun _ => rfl) rfl rfl ?_
  refine wl_mv (.tmp 1) (.int .i64 (s)) (fun _ => rfl) rfl rfl ?_
  refine wl_call 45 [(.tmp 8), (.tmp 9)] _ [.int .i64 (n), .int .i64 (s)] (.tuple #[.agg #[.bool true, .int .u64 (l0 (-n)), .int .u64 (l1 (-n)), .int .u64 (l2 (-n)), .int .u64 (l3 (-n)), .int .i64 (s)], .int .i64 (0)]) rfl rfl (fun _ _ => by kernel_rfl) (ofint_m hn q0 q1 q2) rfl ?_
  intro w2 hq
  replace Q1 := Q1.mo hq
  replace M := M.trans hq
  clear hq
  refine wl_mv (.tmp 10) (.tuple #[.agg #[.bool true, .int .u64 (l0 (-n)), .int .u64 (l1 (-n)), .int .u64 (l2 (-n)), .int .u64 (l3 (-n)), .int .i64 (s)], .int .i64 (0)]) (fun _ => rfl) rfl rfl ?_
  refine wl_un (fun v => Instr.extract v 0) (.tmp 7) (.tuple #[.agg #[.bool true, .int .u64 (l0 (-n)), .int .u64 (l1 (-n)), .int .u64 (l2 (-n)), .int .u64 (l3 (-n)), .int .i64 (s)], .int .i64 (0)]) (.agg #[.bool true, .int .u64 (l0 (-n)), .int .u64 (l1 (-n)), .int .u64 (l2 (-n)), .int .u64 (l3 (-n)), .int .i64 (s)]) (fun _ => rfl) rfl (by kernel_rfl) rfl ?_
  refine wl_un (fun v => Instr.extract v 1) (.tmp 7) (.tuple #[.agg #[.bool true, .int .u64 (l0 (-n)), .int .u64 (l1 (-n)), .int .u64 (l2 (-n)), .int .u64 (l3 (-n)), .int .i64 (s)], .int .i64 (0)]) (.int .i64 (0)) (fun _ => rfl) rfl (by kernel_rfl) rfl ?_
  refine wl_alloc 40 #[.bool false, .int .u64 0, .int .u64 0, .int .u64 0, .int .u64 0, .int .i64 0] rfl (fun _ => by kernel_rfl) rfl ?_
  intro k2 w3 hk hz hq Q2
  have ne_k1_k2 : k1 ≠ k2 := by have := Q1.lt; omega
  have N_k2 : w.heap.size ≤ k2 := by have := M.size; omega
  replace Q1 := Q1.mo hq
  replace M := M.trans hq
  clear hk hz hq
  refine wl_st 40 (.tmp 5) (.tmp 11) k2 0 #[.bool true, .int .u64 (l0 (-n)), .int .u64 (l1 (-n)), .int .u64 (l2 (-n)), .int .u64 (l3 (-n)), .int .i64 (s)] [.bool false, .int .u64 0, .int .u64 0, .int .u64 0, .int .u64 0, .int .i64 0] [.bool true, .int .u64 (l0 (-n)), .int .u64 (l1 (-n)), .int .u64 (l2 (-n)), .int .u64 (l3 (-n)), .int .i64 (s)] Q2 rfl rfl rfl rfl rfl zs40 rfl rfl rfl ?_
  intro w4 hS Qn
  replace Q2 := Qn
  clear Qn
  replace Q1 := hS.other _ _ ne_k1_k2 Q1
  replace M := hS.mo _ N_k2 M
  clear hS
  refine wl_mv (.tmp 12) (.int .i64 (0)) (fun _ => rfl) rfl rfl ?_
  refine w_nil ?_
  refine xn_then ?_
  refine w_seq ?_
  refine w_reg ?_
  refine wl_load 40 (.tmp 5) (pt k2 0) (.agg #[.bool true, .int .u64 (l0 (-n)), .int .u64 (l1 (-n)), .int .u64 (l2 (-n)), .int .u64 (l3 (-n)), .int .i64 (s)]) rfl rfl (run_row Q2 40 0 6 [.bool true, .int .u64 (l0 (-n)), .int .u64 (l1 (-n)), .int .u64 (l2 (-n)), .int .u64 (l3 (-n)), .int .i64 (s)] rfl Try.underlying40 rfl zs40) rfl ?_
  refine wl_build 55 [(0, (.const (.int .i64 (1)))), (1, (.tmp 13))] [(0, .int .i64 (1)), (1, .agg #[.bool true, .int .u64 (l0 (-n)), .int .u64 (l1 (-n)), .int .u64 (l2 (-n)), .int .u64 (l3 (-n)), .int .i64 (s)])] (.agg #[.int .i64 (1), .bool true, .int .u64 (l0 (-n)), .int .u64 (l1 (-n)), .int .u64 (l2 (-n)), .int .u64 (l3 (-n)), .int .i64 (s), .bool false, .string ⟨#[]⟩, .int .i64 0]) rfl rfl (by kernel_rfl) rfl ?_
  refine wl_st 55 (.tmp 4) (.tmp 14) k1 0 #[.int .i64 (1), .bool true, .int .u64 (l0 (-n)), .int .u64 (l1 (-n)), .int .u64 (l2 (-n)), .int .u64 (l3 (-n)), .int .i64 (s), .bool false, .string ⟨#[]⟩, .int .i64 0] [.int .i64 0, .bool false, .int .u64 0, .int .u64 0, .int .u64 0, .int .u64 0, .int .i64 0, .bool false, .string ⟨#[]⟩, .int .i64 0] [.int .i64 (1), .bool true, .int .u64 (l0 (-n)), .int .u64 (l1 (-n)), .int .u64 (l2 (-n)), .int .u64 (l3 (-n)), .int .i64 (s), .bool false, .string ⟨#[]⟩, .int .i64 0] Q1 rfl rfl rfl rfl rfl zs55 rfl rfl rfl ?_
  intro w5 hS Qn
  replace Q1 := Qn
  clear Qn
  replace Q2 := hS.other _ _ ne_k1_k2.symm Q2
  replace M := hS.mo _ N_k1 M
  clear hS
  refine w_nil ?_
  refine xn_then ?_
  refine w_ret ?_
  exact w_ret1 _ (.agg #[.int .i64 (1), .bool true, .int .u64 (l0 (-n)), .int .u64 (l1 (-n)), .int .u64 (l2 (-n)), .int .u64 (l3 (-n)), .int .i64 (s), .bool false, .string ⟨#[]⟩, .int .i64 0]) rfl ⟨k1, rfl, (run_row Q1 55 0 10 [.int .i64 (1), .bool true, .int .u64 (l0 (-n)), .int .u64 (l1 (-n)), .int .u64 (l2 (-n)), .int .u64 (l3 (-n)), .int .i64 (s), .bool false, .string ⟨#[]⟩, .int .i64 0] rfl Try.underlying55 rfl zs55)⟩ ⟨rfl, M⟩
end
end G
end Go.Proofs.Ythfemlhmnjfjiaa
/-
  A tree in a law: its blocks are new, and none of the law's own.
-/
namespace Go.Proofs.Ythfemlhmnjfjiaa
open Go.RowKit
namespace G
/-- What may be written: neither what was there at the beginning (below n0) nor what is kept (ks). -/
def Wr (n0 : Nat) (ks : List Nat) (j : Nat) : Prop := n0 ≤ j ∧ j ∉ ks
/-- A tree whose blocks are all new and none of the kept ones. -/
def GT (n0 : Nat) (ks : List Nat) (w : World) (t : Nat) (mb : Hd) (tr : T) (lk : Int) : Prop :=
  n0 ≤ w.heap.size ∧ (∀ k ∈ ks, k < w.heap.size) ∧ (∀ b, ob mb.h = some b → Wr n0 ks b) ∧ ∃ D, FT D w t mb tr lk ∧ ∀ j, D j ∨ j = mb.m → Wr n0 ks j
def I64 (i : Int) : Prop := -9223372036854775808 ≤ i ∧ i ≤ 9223372036854775807
/-- The rows' ids. -/
def T.is (tr : T) : List Int := tr.ids.map (·.i)
section
variable {n0 : Nat} {ks : List Nat} {w w' : World} {t : Nat} {mb : Hd} {tr : T} {lk : Int}
theorem GT.mo (h : GT n0 ks w t mb tr lk) (m : Mo w w') : GT n0 ks w' t mb tr lk := by
  obtain ⟨h1, h2, h5, D, h3, h4⟩ := h
  exact ⟨Nat.le_trans h1 m.size, fun k e => Nat.lt_of_lt_of_le (h2 k e) m.size, h5, D, h3.mo m, h4⟩
theorem FT.sclt {D : Nat → Prop} (h : FT D w t mb tr lk) {b : Nat} (e : ob mb.h = some b) : b < w.heap.size := by
  obtain ⟨R, root, hS, _⟩ := h.ts
  exact hS.sc.lt e
theorem GT.push (h : GT n0 ks w t mb tr lk) {k : Nat} (hk : w.heap.size ≤ k) (hk2 : k < w'.heap.size) (m : Mo w w') : GT n0 (k :: ks) w' t mb tr lk := by
  obtain ⟨h1, h2, h5, D, h3, h4⟩ := h
  refine ⟨Nat.le_trans h1 m.size, fun j e => ?_, fun b e => ⟨(h5 b e).1, fun q => ?_⟩, D, h3.mo m, fun j e => ⟨(h4 j e).1, fun q => ?_⟩⟩
  · rcases List.mem_cons.1 e with rfl | e
    · exact hk2
    · exact Nat.lt_of_lt_of_le (h2 j e) m.size
  · rcases List.mem_cons.1 q with rfl | q
    · have := h3.sclt e; omega
    · exact (h5 b e).2 q
  · rcases List.mem_cons.1 q with rfl | q
    · rcases e with e | rfl
      · obtain ⟨R, root, hS, _⟩ := h3.ts
        have := hS.lt e; omega
      · have := h3.om.lt; omega
    · exact (h4 j e).2 q
theorem GT.pop (h : GT n0 ks w t mb tr lk) {js : List Nat} (hs : ∀ k ∈ js, k ∈ ks) : GT n0 js w t mb tr lk := by
  obtain ⟨h1, h2, h5, D, h3, h4⟩ := h
  exact ⟨h1, fun k e => h2 k (hs k e), fun b e => ⟨(h5 b e).1, fun q => (h5 b e).2 (hs b q)⟩, D, h3, fun j e => ⟨(h4 j e).1, fun q => (h4 j e).2 (hs j q)⟩⟩
theorem GT.l0 (h : GT n0 ks w t mb tr lk) : 0 ≤ lk := by obtain ⟨_, _, _, D, h3, _⟩ := h; exact h3.l0
theorem GT.le (h : GT n0 ks w t mb tr lk) : tr.sz ≤ 1024 := by obtain ⟨_, _, _, D, h3, _⟩ := h; exact h3.le
theorem GT.nd (h : GT n0 ks w t mb tr lk) : tr.is.Nodup := by obtain ⟨_, _, _, D, h3, _⟩ := h; exact h3.nd
theorem GT.rg (h : GT n0 ks w t mb tr lk) : ∀ i ∈ tr.is, 1 ≤ i ∧ i ≤ 9007199254740992 := by obtain ⟨_, _, _, D, h3, _⟩ := h; exact h3.rg
theorem GT.oks (h : GT n0 ks w t mb tr lk) : ∀ y ∈ tr.ids, y.ok ∧ y.vs.length = mb.sc.length := by
  obtain ⟨_, _, _, D, h3, _⟩ := h
  obtain ⟨R, root, hS, _, _, hR, _⟩ := h3.ts
  have : ∀ (tr : T) {u : Option Nat}, Rep mb.sc R u tr → ∀ y ∈ tr.ids, y.ok ∧ y.vs.length = mb.sc.length := by
    intro tr
    induction tr with
    | e => intro u _ y hy; cases hy
    | n k i s l r il ir =>
      intro u h y hy
      obtain ⟨h9, e9⟩ := h.1
      unfold T.ids at hy
      rcases List.mem_append.1 hy with hy | hy
      · exact il h.2.1 y hy
      · rcases List.mem_cons.1 hy with rfl | hy
        · exact ⟨(hS.sv k _ e9).2.2, (hS.sv k _ e9).2.1⟩
        · exact ir h.2.2 y hy
  exact this tr hR
theorem Wr.mo {a : World} (h : Mk (Wr n0 ks) w w') (m : Mo a w) (hn : a.heap.size ≤ n0) : Mo a w' := h.mo m (fun _ e => Nat.le_trans hn e.1)
theorem Wr.at (h : Mk (Wr n0 ks) w w') {k : Nat} {vs : List Value} (hA : At w k vs) (hk : k ∈ ks) : At w' k vs := h.at hA (fun e => e.2 hk)
theorem Mk.sub {D E : Nat → Prop} (h : Mk D w w') (hs : ∀ j, D j → E j) : Mk E w w' := (Mk.refl E w).tr h (fun j _ e => hs j e)
theorem GT.grow {D D' : Nat → Prop} {tr' : T} {lk' : Int} (h1 : n0 ≤ w.heap.size) (h2 : ∀ k ∈ ks, k < w.heap.size) (h5 : ∀ b, ob mb.h = some b → Wr n0 ks b) (h4 : ∀ j, D j ∨ j = mb.m → Wr n0 ks j) (h : FT D' w' t mb tr' lk') (hD : ∀ j, D' j → D j ∨ w.heap.size ≤ j) (m : Mk (fun j => D j ∨ j = mb.m) w w') : GT n0 ks w' t mb tr' lk' ∧ Mk (Wr n0 ks) w w' := by
  refine ⟨⟨Nat.le_trans h1 m.size, fun k e => Nat.lt_of_lt_of_le (h2 k e) m.size, h5, _, h, fun j e => ?_⟩, m.sub h4⟩
  rcases e with e | e
  · rcases hD j e with e | e
    · exact h4 j (Or.inl e)
    · exact ⟨by omega, fun q => by have := h2 _ q; omega⟩
  · exact h4 j (Or.inr e)
theorem GT.eq (h : GT n0 ks w t mb tr lk) (m : Mo w w') : GT n0 ks w' t mb tr lk ∧ Mk (Wr n0 ks) w w' := ⟨h.mo m, Mk.of _ m⟩
theorem new_x {p : Option Addr} {c : Nat} {sc : List Int} (hgt : 64 < sc.length) : Calls Try.prog 7 #[.slice p sc.length c] w fun e w' => e = .returned (.tuple #[pp none, .int .i64 3]) ∧ Mo w w' := new_no (decide_eq_true (by omega))
theorem new_g {p : Option Addr} {c : Nat} {sc : List Int} (hr : SN w p sc) (hle : sc.length ≤ 64) (h0 : n0 ≤ w.heap.size) (hk : ∀ k ∈ ks, k < w.heap.size) : Calls Try.prog 7 #[.slice p sc.length c] w fun e w' => ∃ (t : Nat) (mb : Hd), e = .returned (.tuple #[pt t 0, .int .i64 0]) ∧ GT n0 ks w' t mb .e 0 ∧ mb.sc = sc ∧ w.heap.size ≤ t ∧ Mo w w' := by
  refine (new_ok hr (decide_eq_false (by omega))).mono fun e w' hq => ?_
  obtain ⟨t, mb, D, he, hF, hs, hD, hm, hb, M⟩ := hq
  have key : ∀ j, w.heap.size ≤ j → Wr n0 ks j := fun j hj => ⟨Nat.le_trans h0 hj, fun q => by have := hk j q; omega⟩
  refine ⟨t, mb, he, ⟨Nat.le_trans h0 M.size, fun k e => Nat.lt_of_lt_of_le (hk k e) M.size, fun b e => key b (hb b e), D, hF, fun j e => key j ?_⟩, hs, ?_, M⟩
  · rcases e with e | rfl
    · exact hD j e
    · exact hm
  · obtain ⟨R, root, hS, _⟩ := hF.ts
    exact hD t hS.dt
theorem len_g (h : GT n0 ks w t mb tr lk) : Calls Try.prog 10 #[pt t 0] w fun e w' => e = .returned (.int .i64 (tr.kv.length : Int)) ∧ Mo w w' := by
  obtain ⟨_, _, _, D, h3, _⟩ := h
  obtain ⟨R, root, hS, _⟩ := h3.ts
  exact len_n hS h3.om
theorem looked_g (h : GT n0 ks w t mb tr lk) : Calls Try.prog 14 #[pt t 0] w fun e w' => e = .returned (.int .i64 lk) ∧ Mo w w' := by
  obtain ⟨_, _, _, D, h3, _⟩ := h
  obtain ⟨R, root, hS, _⟩ := h3.ts
  exact looked_n hS
theorem depth_g (h : GT n0 ks w t mb tr lk) : Calls Try.prog 19 #[pt t 0] w fun e w' => e = .returned (.int .i64 (tr.ht : Int)) ∧ Mo w w' := by
  have h5 := h.le
  have h6 := tr.ht_le
  obtain ⟨_, _, _, D, h3, _⟩ := h
  exact depth_n h3.ts (by omega)
theorem adr_out {id : Int} (h : id ∉ tr.is) : adr tr.kv id = none := adr_none (by rw [T.kv_ids]; exact h)
theorem adr_in {id : Int} (h : id ∈ tr.is) : ∃ k, adr tr.kv id = some k := by
  cases e : adr tr.kv id with
  | none => have := adr_is.2 (show id ∈ tr.kv.map (·.1) by rw [T.kv_ids]; exact h); rw [e] at this; cases this
  | some k => exact ⟨k, rfl⟩
/-- The error that Insert answers, or 0. -/
def insE (nc : Nat) (tr : T) (at0 id : Int) (nv : Nat) : Int := if nv ≠ nc then 1 else if id < 1 ∨ 9007199254740992 < id then 1 else if id ∈ tr.is then 5 else if 1024 ≤ tr.sz then 6 else if at0 < 0 ∨ tr.sz < at0 then 1 else 0
theorem insert_no {at0 id : Int} {p : Option Addr} {cap : Nat} {vs : List V10} (h : GT n0 ks w t mb tr lk) (hi : I64 id) (he : insE mb.sc.length tr at0 id vs.length ≠ 0) : Calls Try.prog 9 #[pt t 0, .int .i64 at0, .int .i64 id, .slice p vs.length cap] w fun e w' => e = .returned (.int .i64 (insE mb.sc.length tr at0 id vs.length)) ∧ Mo w w' := by
  obtain ⟨g1, g2, g5, D, hF, g4⟩ := h
  have hkl := tr.kv_len
  unfold insE at he ⊢
  by_cases c0 : vs.length ≠ mb.sc.length
  · rw [if_pos c0]; exact insert_v hF (decide_eq_false c0)
  rw [if_neg c0] at he ⊢
  have c0' : decide (vs.length = mb.sc.length) = true := decide_eq_true (Classical.not_not.1 c0)
  by_cases c1 : id < 1
  · rw [if_pos (Or.inl c1)]; exact insert_a hF c0' (decide_eq_true c1)
  by_cases c2 : 9007199254740992 < id
  · rw [if_pos (Or.inr c2)]; exact insert_b hF c0' (decide_eq_false c1) (decide_eq_true c2)
  rw [if_neg (by omega)] at he ⊢
  by_cases c3 : id ∈ tr.is
  · rw [if_pos c3]; exact insert_c hF hi c0' (decide_eq_false c1) (decide_eq_false c2) (adr_is.2 (by rw [T.kv_ids]; exact c3))
  rw [if_neg c3] at he ⊢
  have c3' : (adr tr.kv id).isSome = false := by rw [adr_out c3]; rfl
  by_cases c4 : 1024 ≤ tr.sz
  · rw [if_pos c4]; exact insert_d hF hi c0' (decide_eq_false c1) (decide_eq_false c2) c3' (decide_eq_true (by omega))
  rw [if_neg c4] at he ⊢
  by_cases c5 : at0 < 0
  · rw [if_pos (Or.inl c5)]; exact insert_e hF hi c0' (decide_eq_false c1) (decide_eq_false c2) c3' (decide_eq_false (by omega)) (decide_eq_true c5)
  by_cases c6 : tr.sz < at0
  · rw [if_pos (Or.inr c6)]; exact insert_f hF hi c0' (decide_eq_false c1) (decide_eq_false c2) c3' (decide_eq_false (by omega)) (decide_eq_false c5) (decide_eq_true (by omega))
  rw [if_neg (by omega)] at he
  exact absurd rfl he
theorem insE_0 {nc nv : Nat} {at0 id : Int} (h : insE nc tr at0 id nv = 0) : nv = nc ∧ id ∉ tr.is ∧ 1 ≤ id ∧ id ≤ 9007199254740992 ∧ tr.sz < 1024 ∧ 0 ≤ at0 ∧ at0 ≤ tr.sz := by
  unfold insE at h
  by_cases c0 : nv ≠ nc
  · rw [if_pos c0] at h; omega
  rw [if_neg c0] at h
  by_cases c1 : id < 1 ∨ 9007199254740992 < id
  · rw [if_pos c1] at h; omega
  rw [if_neg c1] at h
  by_cases c3 : id ∈ tr.is
  · rw [if_pos c3] at h; omega
  rw [if_neg c3] at h
  by_cases c4 : 1024 ≤ tr.sz
  · rw [if_pos c4] at h; omega
  rw [if_neg c4] at h
  by_cases c5 : at0 < 0 ∨ tr.sz < at0
  · rw [if_pos c5] at h; omega
  exact ⟨Classical.not_not.1 c0, c3, by omega, by omega, by omega, by omega, by omega⟩
theorem insert_g {at0 id : Int} {p : Option Addr} {cap : Nat} {vs : List V10} (h : GT n0 ks w t mb tr lk) (he : insE mb.sc.length tr at0 id vs.length = 0) (hlk : lk ≤ 3000000000000000000) (hSV : ∀ w', Mk (Wr n0 ks) w w' → SVv w' p vs) (hvo : ∀ x ∈ vs, x.n.ok) : Calls Try.prog 9 #[pt t 0, .int .i64 at0, .int .i64 id, .slice p vs.length cap] w fun e w' => ∃ y kn tr' lk', e = .returned (.int .i64 0) ∧ Ins tr at0 ⟨id, y, vs⟩ kn tr' ∧ GT n0 ks w' t mb tr' lk' ∧ lk < lk' ∧ lk' ≤ lk + 10 * tr.ht + 8 ∧ Mk (Wr n0 ks) w w' := by
  obtain ⟨c0, c1, c2, c3, c4, c5, c6⟩ := insE_0 he
  obtain ⟨g1, g2, g5, D, hF, g4⟩ := h
  have hkl := tr.kv_len
  refine (insert_ok hF ⟨by omega, by omega⟩ (decide_eq_true c0) (decide_eq_false (by omega)) (decide_eq_false (by omega)) (by rw [adr_out c1]; rfl) (decide_eq_false (by omega)) (decide_eq_false (by omega)) (decide_eq_false (by omega)) hlk (fun w' m => hSV w' (m.sub g4)) hvo).mono fun e w' hq => ?_
  obtain ⟨y, kn, tr', lk', D', he, hI, hF2, hkn, hk1, hk2, hM, hD⟩ := hq
  obtain ⟨q1, q2⟩ := GT.grow g1 g2 g5 g4 hF2 hD hM
  exact ⟨y, kn, tr', lk', he, hI, q1, hk1, hk2, q2⟩
/-- Insert, whatever is handed in. -/
theorem ins_any {at0 id : Int} {p : Option Addr} {cap : Nat} {vs : List V10} (h : GT n0 ks w t mb tr lk) (hi : I64 id) (hlk : lk ≤ 3000000000000000000) (hSV : ∀ w', Mk (Wr n0 ks) w w' → SVv w' p vs) (hvo : ∀ x ∈ vs, x.n.ok) : Calls Try.prog 9 #[pt t 0, .int .i64 at0, .int .i64 id, .slice p vs.length cap] w fun e w' => ∃ tr' lk', e = .returned (.int .i64 (insE mb.sc.length tr at0 id vs.length)) ∧ GT n0 ks w' t mb tr' lk' ∧ (insE mb.sc.length tr at0 id vs.length = 0 ∧ (∃ y kn, Ins tr at0 ⟨id, y, vs⟩ kn tr') ∧ lk < lk' ∨ insE mb.sc.length tr at0 id vs.length ≠ 0 ∧ tr' = tr ∧ lk' = lk) ∧ lk ≤ lk' ∧ lk' ≤ lk + 10 * tr.ht + 8 ∧ Mk (Wr n0 ks) w w' := by
  by_cases c : insE mb.sc.length tr at0 id vs.length = 0
  · refine (insert_g h c hlk hSV hvo).mono fun e w' hq => ?_
    obtain ⟨y, kn, tr', lk', he, hI, hG, hk1, hk2, hM⟩ := hq
    exact ⟨tr', lk', by rw [c]; exact he, hG, Or.inl ⟨c, ⟨y, kn, hI⟩, hk1⟩, by omega, hk2, hM⟩
  · refine (insert_no h hi c).mono fun e w' hq => ?_
    obtain ⟨h1, h2⟩ := h.eq hq.2
    exact ⟨tr, lk, hq.1, h1, Or.inr ⟨c, rfl, rfl⟩, by omega, by omega, h2⟩
theorem del_any {id : Int} (h : GT n0 ks w t mb tr lk) (hi : I64 id) (hlk : lk ≤ 2900000000000000000) : Calls Try.prog 15 #[pt t 0, .int .i64 id] w fun e w' => ∃ p c tr' lk', e = .returned (.tuple #[.int .i64 p, .int .i64 c]) ∧ GT n0 ks w' t mb tr' lk' ∧ (c = 0 ∧ 0 ≤ p ∧ (∃ y, tr.ids[p.toNat]? = some y ∧ y.i = id ∧ Del tr y p tr') ∨ c = 4 ∧ p = 0 ∧ id ∉ tr.is ∧ tr' = tr ∧ lk' = lk) ∧ lk ≤ lk' ∧ lk' ≤ lk + 3 + 11 * tr.ht ∧ Mk (Wr n0 ks) w w' := by
  by_cases c : id ∈ tr.is
  · obtain ⟨g1, g2, g5, D, hF, g4⟩ := h
    obtain ⟨k, e⟩ := adr_in c
    refine (delete_ok hF hi e hlk).mono fun e w' hq => ?_
    obtain ⟨p, y, tr', lk', D', he, hp, hi, hy, hD, hF2, hk1, hk2, hM, hDD⟩ := hq
    obtain ⟨q1, q2⟩ := GT.grow g1 g2 g5 g4 hF2 (fun j e => Or.inl (hDD j e)) hM
    exact ⟨p, 0, tr', lk', he, q1, Or.inl ⟨rfl, hp, y, hi, hy, hD⟩, hk1, hk2, q2⟩
  · have h' := h
    obtain ⟨g1, g2, g5, D, hF, g4⟩ := h
    refine (delete_a hF hi (adr_out c)).mono fun e w' hq => ?_
    obtain ⟨h1, h2⟩ := h'.eq hq.2
    exact ⟨_, _, tr, lk, hq.1, h1, Or.inr ⟨rfl, rfl, c, rfl, rfl⟩, by omega, by omega, h2⟩
theorem mov_any {id at0 : Int} (h : GT n0 ks w t mb tr lk) (hi : I64 id) (hlk : lk ≤ 2900000000000000000) : Calls Try.prog 16 #[pt t 0, .int .i64 id, .int .i64 at0] w fun e w' => ∃ p c tr' lk', e = .returned (.tuple #[.int .i64 p, .int .i64 c]) ∧ GT n0 ks w' t mb tr' lk' ∧ (c = 0 ∧ 0 ≤ p ∧ 0 ≤ at0 ∧ at0 < tr.sz ∧ (∃ y kn tr1, tr.ids[p.toNat]? = some y ∧ y.i = id ∧ Del tr y p tr1 ∧ Ins tr1 at0 y kn tr' ∧ lk' ≤ lk + 11 + 11 * tr.ht + 10 * tr1.ht) ∨ (c = 4 ∧ id ∉ tr.is ∨ c = 1 ∧ id ∈ tr.is ∧ (at0 < 0 ∨ tr.sz ≤ at0)) ∧ p = 0 ∧ tr' = tr ∧ lk' = lk) ∧ lk ≤ lk' ∧ Mk (Wr n0 ks) w w' := by
  have h' := h
  have hkl := tr.kv_len
  obtain ⟨g1, g2, g5, D, hF, g4⟩ := h
  by_cases c : id ∈ tr.is
  · obtain ⟨k, e⟩ := adr_in c
    by_cases c1 : at0 < 0 ∨ tr.sz ≤ at0
    · have hc : Calls Try.prog 16 #[pt t 0, .int .i64 id, .int .i64 at0] w fun e w' => e = .returned (.tuple #[.int .i64 0, .int .i64 1]) ∧ Mo w w' := by
        by_cases c2 : at0 < 0
        · exact move_b hF hi e (decide_eq_true c2)
        · exact move_c hF hi e (decide_eq_false c2) (decide_eq_true (by omega))
      refine hc.mono fun e w' hq => ?_
      obtain ⟨h1, h2⟩ := h'.eq hq.2
      exact ⟨_, _, tr, lk, hq.1, h1, Or.inr ⟨Or.inr ⟨rfl, c, c1⟩, rfl, rfl, rfl⟩, by omega, h2⟩
    · refine (move_ok hF hi e (decide_eq_false (by omega)) (decide_eq_false (by omega)) hlk).mono fun e w' hq => ?_
      obtain ⟨p, y, kn, tr1, tr', lk', D', he, hp, hy, hyi, hD, hI, hF2, hkn, hk1, hk2, hM, hDD⟩ := hq
      obtain ⟨q1, q2⟩ := GT.grow g1 g2 g5 g4 hF2 hDD hM
      exact ⟨p, 0, tr', lk', he, q1, Or.inl ⟨rfl, hp, by omega, by omega, y, kn, tr1, hy, hyi, hD, hI, hk2⟩, hk1, q2⟩
  · refine (move_a hF hi (adr_out c)).mono fun e w' hq => ?_
    obtain ⟨h1, h2⟩ := h'.eq hq.2
    exact ⟨_, _, tr, lk, hq.1, h1, Or.inr ⟨Or.inl ⟨rfl, c⟩, rfl, rfl, rfl⟩, by omega, h2⟩
theorem hasF {cn : Int} (h : cn < 0 ∨ (mb.sc.length : Int) ≤ cn) : (decide (0 ≤ cn) && decide (cn < (mb.sc.length : Int))) = false := by
  rcases h with h | h
  · rw [decide_eq_false (by omega)]; rfl
  · rw [decide_eq_false (p := cn < (mb.sc.length : Int)) (by omega), Bool.and_false]
theorem set_any {id cn : Int} {x : V10} (h : GT n0 ks w t mb tr lk) (hi : I64 id) (hx : x.n.ok) (hlk : lk ≤ 3000000000000000000) : Calls Try.prog 17 #[pt t 0, .int .i64 id, .int .i64 cn, V10.v x] w fun e w' => ∃ c tr' lk', e = .returned (.int .i64 c) ∧ GT n0 ks w' t mb tr' lk' ∧ (c = 0 ∧ 0 ≤ cn ∧ cn < mb.sc.length ∧ (∃ A B y, tr.ids = A ++ y :: B ∧ y.i = id ∧ tr'.ids = A ++ ⟨y.i, y.v, y.vs.set cn.toNat x⟩ :: B ∧ Sim tr tr') ∧ lk < lk' ∨ (c = 1 ∧ (cn < 0 ∨ (mb.sc.length : Int) ≤ cn) ∨ c = 4 ∧ 0 ≤ cn ∧ cn < mb.sc.length ∧ id ∉ tr.is) ∧ tr' = tr ∧ lk' = lk) ∧ lk ≤ lk' ∧ lk' ≤ lk + 3 * tr.ht ∧ Mk (Wr n0 ks) w w' := by
  have h' := h
  obtain ⟨g1, g2, g5, D, hF, g4⟩ := h
  by_cases c0 : cn < 0 ∨ (mb.sc.length : Int) ≤ cn
  · refine (set_x hF (hasF c0)).mono fun e w' hq => ?_
    obtain ⟨h1, h2⟩ := h'.eq hq.2
    exact ⟨_, tr, lk, hq.1, h1, Or.inr ⟨Or.inl ⟨rfl, c0⟩, rfl, rfl⟩, by omega, by omega, h2⟩
  obtain ⟨n, rfl⟩ := Int.eq_ofNat_of_zero_le (show 0 ≤ cn by omega)
  have hn : n < mb.sc.length := by omega
  by_cases c : id ∈ tr.is
  · obtain ⟨k, e⟩ := adr_in c
    refine (set_ok hF hi hn hx e hlk).mono fun e w' hq => ?_
    obtain ⟨A, B, y, tr', lk', he, h1, h2, h3, h4, hF2, hk1, hk2, hM⟩ := hq
    obtain ⟨q1, q2⟩ := GT.grow g1 g2 g5 g4 hF2 (fun j e => Or.inl e) (hM.sub (fun _ e => Or.inl e))
    exact ⟨0, tr', lk', he, q1, Or.inl ⟨rfl, by omega, by omega, ⟨A, B, y, h1, h2, h3, h4⟩, hk1⟩, by omega, hk2, q2⟩
  · refine (set_n hF hi hn (adr_out c)).mono fun e w' hq => ?_
    obtain ⟨h1, h2⟩ := h'.eq hq.2
    exact ⟨_, tr, lk, hq.1, h1, Or.inr ⟨Or.inr ⟨rfl, by omega, by omega, c⟩, rfl, rfl⟩, by omega, by omega, h2⟩
theorem GT.keep {D : Nat → Prop} {tr' : T} {lk' : Int} (h1 : n0 ≤ w.heap.size) (h2 : ∀ k ∈ ks, k < w.heap.size) (h5 : ∀ b, ob mb.h = some b → Wr n0 ks b) (h4 : ∀ j, D j ∨ j = mb.m → Wr n0 ks j) (h : FT D w' t mb tr' lk') (m : Mk D w w') : GT n0 ks w' t mb tr' lk' ∧ Mk (Wr n0 ks) w w' :=
  GT.grow h1 h2 h5 h4 h (fun _ e => Or.inl e) (m.sub (fun _ e => Or.inl e))
/-- Query, whatever is asked. -/
theorem qry_any {cn fa ta : Int} (h : GT n0 ks w t mb tr lk) (hlk : lk ≤ 3000000000000000000) : Calls Try.prog 11 #[pt t 0, .int .i64 cn, .int .i64 fa, .int .i64 ta] w fun e w' => ∃ S cd lk', e = .returned (.tuple #[smv S, .int .i64 cd]) ∧ GT n0 ks w' t mb tr lk' ∧ ((0 ≤ cn ∧ cn < mb.sc.length ∧ 0 ≤ fa ∧ fa ≤ ta ∧ ta ≤ tr.sz) ∧ cd = 0 ∧ S = prt cn.toNat (mb.sc.getD cn.toNat 0) fa ta tr.ids ∨ ¬ (0 ≤ cn ∧ cn < mb.sc.length ∧ 0 ≤ fa ∧ fa ≤ ta ∧ ta ≤ tr.sz) ∧ cd = 1 ∧ S = sm0) ∧ lk ≤ lk' ∧ lk' ≤ lk + 1 + 4 * tr.ht ∧ Mk (Wr n0 ks) w w' := by
  have h' := h
  obtain ⟨g1, g2, g5, D, hF, g4⟩ := h
  by_cases c0 : cn < 0 ∨ (mb.sc.length : Int) ≤ cn
  · refine (query_x hF (hasF c0)).mono fun e w' hq => ?_
    obtain ⟨h1, h2⟩ := h'.eq hq.2
    exact ⟨_, _, lk, hq.1, h1, Or.inr ⟨by omega, rfl, rfl⟩, by omega, by omega, h2⟩
  obtain ⟨n, rfl⟩ := Int.eq_ofNat_of_zero_le (show 0 ≤ cn by omega)
  have hn : n < mb.sc.length := by omega
  refine (query_c hF hn hlk).mono fun e w' hq => ?_
  obtain ⟨S, cd, lk', he, hr, hF2, hk1, hk2, hM⟩ := hq
  obtain ⟨q1, q2⟩ := GT.keep g1 g2 g5 g4 hF2 hM
  refine ⟨S, cd, lk', he, q1, ?_, hk1, hk2, q2⟩
  rcases hr with ⟨a, b, c⟩ | ⟨a, b, c⟩
  · exact Or.inl ⟨by omega, b, c⟩
  · exact Or.inr ⟨by omega, b, c⟩
theorem sum_any {cn : Int} (h : GT n0 ks w t mb tr lk) (hlk : lk ≤ 3000000000000000000) : Calls Try.prog 12 #[pt t 0, .int .i64 cn] w fun e w' => ∃ S cd lk', e = .returned (.tuple #[smv S, .int .i64 cd]) ∧ GT n0 ks w' t mb tr lk' ∧ ((0 ≤ cn ∧ cn < mb.sc.length) ∧ cd = 0 ∧ S = col cn.toNat (mb.sc.getD cn.toNat 0) tr.ids ∨ ¬ (0 ≤ cn ∧ cn < mb.sc.length) ∧ cd = 1 ∧ S = sm0) ∧ lk ≤ lk' ∧ lk' ≤ lk + 1 ∧ Mk (Wr n0 ks) w w' := by
  have h' := h
  obtain ⟨g1, g2, g5, D, hF, g4⟩ := h
  by_cases c0 : cn < 0 ∨ (mb.sc.length : Int) ≤ cn
  · refine (sumc_a hF (hasF c0)).mono fun e w' hq => ?_
    obtain ⟨h1, h2⟩ := h'.eq hq.2
    exact ⟨_, _, lk, hq.1, h1, Or.inr ⟨by omega, rfl, rfl⟩, by omega, by omega, h2⟩
  refine (sumc_ok hF (by rw [Bool.and_eq_true, decide_eq_true_eq, decide_eq_true_eq]; omega) hlk).mono fun e w' hq => ?_
  obtain ⟨lk', he, hF2, hk1, hk2, hM⟩ := hq
  obtain ⟨q1, q2⟩ := GT.keep g1 g2 g5 g4 hF2 hM
  exact ⟨_, _, lk', he, q1, Or.inl ⟨by omega, rfl, rfl⟩, hk1, hk2, q2⟩
theorem GT.st (h : GT n0 ks w t mb tr lk) {k : Nat} (s : St2 k w w') (hk : k ∈ ks) : GT n0 ks w' t mb tr lk := by
  obtain ⟨h1, h2, h5, D, h3, h4⟩ := h
  have hK := Mk.st1 s
  obtain ⟨R, root, hS, hAp, hC, hR, hn⟩ := h3.ts
  exact ⟨Nat.le_trans h1 hK.size, fun j e => Nat.lt_of_lt_of_le (h2 j e) hK.size, h5, D, ⟨⟨R, root, hS.kept hK (fun j e q => (h4 j (Or.inl e)).2 (by rw [q]; exact hk)) (fun b hb q => (h5 b hb).2 (by rw [q]; exact hk)), hAp, hC, hR, hn⟩, h3.om.mk hK (fun q => (h4 mb.m (Or.inr rfl)).2 (by rw [q]; exact hk)), h3.ok, h3.nd, h3.rg, h3.le, h3.l0, h3.hm⟩, h4⟩
end
end G
end Go.Proofs.Ythfemlhmnjfjiaa
/-
  Scripts; what their operations do at most.
-/
namespace Go.Proofs.Ythfemlhmnjfjiaa
open Go.RowKit
namespace G
/-- An operation of a script. -/
structure Op6 where
  d : Int
  a : Int
  i : Int
  p : Option Addr
  vs : List V10
  cap : Nat
  c : Int
  f : Int
  e : Int
def Op6.cells (o : Op6) : List Value := [.int .i64 o.d, .int .i64 o.a, .int .i64 o.i, .slice o.p o.vs.length o.cap, .int .i64 o.c, .int .i64 o.f, .int .i64 o.e]
abbrev Op6.v (o : Op6) : Value := .agg #[.int .i64 o.d, .int .i64 o.a, .int .i64 o.i, .slice o.p o.vs.length o.cap, .int .i64 o.c, .int .i64 o.f, .int .i64 o.e]
structure Op6.ok (o : Op6) : Prop where
  d : I64 o.d
  a : I64 o.a
  i : I64 o.i
  v : ∀ x ∈ o.vs, x.n.ok
  c : I64 o.c
  f : I64 o.f
  e : I64 o.e
def Op6.val (o : Op6) : V10 := o.vs.headD v0
theorem Op6.val_ok {o : Op6} (h : o.ok) : o.val.n.ok := by
  unfold Op6.val
  cases e : o.vs with
  | nil => exact d0_ok
  | cons x L => exact h.v x (by rw [e]; simp)
/-- A script lies there. -/
def SA (w : World) (p : Option Addr) (l : List Op6) : Prop := ∀ i o, l[i]? = some o → (∃ b off, p = some ⟨b, off, none⟩ ∧ b < w.heap.size ∧ w.rangeAt b (off + i * 7) o.cells) ∧ SVv w o.p o.vs
theorem SA.mo {w w' : World} {p : Option Addr} {l : List Op6} (h : SA w p l) (m : Mo w w') : SA w' p l := fun i o e => by
  obtain ⟨⟨b, off, h1, h2, h3⟩, h4⟩ := h i o e
  exact ⟨⟨b, off, h1, Nat.lt_of_lt_of_le h2 m.size, fun j v hv => (m.cell b _ h2).trans (h3 j v hv)⟩, h4.mo m⟩
theorem zs31 : (Try.prog.info? 31).map (·.size) = some 7 := by kernel_rfl
theorem SA.load {w : World} {b off i : Nat} {o : Op6} (h : w.rangeAt b (off + i * 7) o.cells) : (Instr.loadAt 31 (pt b (off + i * 7))).run Try.prog w = .ok o.v w :=
  run_loadAt_mid w b (off + i * 7) 31 o.cells _ h Try.underlying31 rfl zs31
theorem ix23 (b off i n c : Nat) (h : i < n) (w : World) : (Instr.indexAt 23 (.slice (some ⟨b, off, none⟩) n c) (.int .i64 (i : Int))).run Try.prog w = .ok (pt b (off + i * 7)) w := by
  have e : (Instr.indexAt 23 (.slice (some ⟨b, off, none⟩) n c) (.int .i64 (i : Int))).run Try.prog w = .ok (.pointer (some ((⟨b, off, none⟩ : Addr).add (i * 7)))) w := by simp [go_sem, h]
  rw [e, Addr.add_mid]
theorem len23 (ρ : Operand → Value) (x : Operand) (p : Option Addr) (m c : Nat) (hx : ρ x = .slice p m c) (dst : Option Tmp) (type : TypeId) (pos : String) (after : Array Edge) (guard : Option (Nat × Bool)) (w : World) : (execOp ρ { dst, op := .call { callee := .builtin .len, args := #[x], argTypes := #[23] }, type, pos, after, guard }).run Try.prog w = .ok (.value (.int .i64 (m : Int))) w := by
  simp [go_sem, hx]
theorem maxN (a b : Nat) (ρ : Operand → Value) (x y : Operand) (hx : ρ x = .int .i64 (a : Int)) (hy : ρ y = .int .i64 (b : Int)) (dst : Option Tmp) (type : TypeId) (pos : String) (after : Array Edge) (guard : Option (Nat × Bool)) (w : World) : (execOp ρ { dst, op := .call { callee := .builtin .max, args := #[x, y], argTypes := #[3, 3] }, type, pos, after, guard }).run Try.prog w = .ok (.value (.int .i64 ((max a b : Nat) : Int))) w := by
  rw [maxI (a : Int) (b : Int) ρ x y hx hy]
  congr 3; omega
theorem subL {a b : Int} (h1 : -9223372036854775808 ≤ a - b) (h2 : a - b ≤ 9223372036854775807) (x y : Operand) (w : World) : (do eqGuard .sub 2 x y (.int .i64 a) (.int .i64 b); binOp .sub 2 (.int .i64 a) (.int .i64 b)).run Try.prog w = .ok (.int .i64 (a - b)) w := by
  have e : (do eqGuard .sub 2 x y (.int .i64 a) (.int .i64 b); binOp .sub 2 (.int .i64 a) (.int .i64 b)).run Try.prog w = .ok (.int .i64 (IntKind.i64.wrap (a - b))) w := by kernel_rfl
  have h : IntKind.i64.wrap (a - b) = a - b := by rw [IntKind.wrap_i64]; omega
  rw [e, h]
theorem mulL {a b : Int} (h1 : -9223372036854775808 ≤ a * b) (h2 : a * b ≤ 9223372036854775807) (x y : Operand) (w : World) : (do eqGuard .mul 2 x y (.int .i64 a) (.int .i64 b); binOp .mul 2 (.int .i64 a) (.int .i64 b)).run Try.prog w = .ok (.int .i64 (a * b)) w := by
  have e : (do eqGuard .mul 2 x y (.int .i64 a) (.int .i64 b); binOp .mul 2 (.int .i64 a) (.int .i64 b)).run Try.prog w = .ok (.int .i64 (IntKind.i64.wrap (a * b))) w := by kernel_rfl
  have h : IntKind.i64.wrap (a * b) = a * b := by rw [IntKind.wrap_i64]; omega
  rw [e, h]
theorem eqT (k : Nat) (a b : Operand) (w : World) : (do eqGuard .eql 24 a b (pt k 0) (.pointer none); binOp .eql 24 (pt k 0) (.pointer none)).run Try.prog w = .ok (.bool false) w := by kernel_rfl
theorem eqT0 (a b : Operand) (w : World) : (do eqGuard .eql 24 a b (pp none) (.pointer none); binOp .eql 24 (pp none) (.pointer none)).run Try.prog w = .ok (.bool true) w := by kernel_rfl
theorem bitc_le (n : Nat) : bitc n ≤ n := by
  induction n using Nat.strongRecOn with
  | _ n ih =>
    by_cases h : n = 0
    · subst h; rw [bitc_0]; omega
    · rw [bitc_s h]; have := ih (n / 2) (by omega); omega
section
variable {n0 : Nat} {ks : List Nat} {w w' : World} {t : Nat} {mb : Hd} {tr : T} {lk : Int}
def Bm (a b : T) : Int := 24 * (1 + (bitc (max a.kv.length b.kv.length) : Int))
theorem bm_of {a b : T} (h : a.bw) (hs : a.sz ≤ 1024) : 11 * (a.ht : Int) + 3 ≤ Bm a b ∧ 10 * (a.ht : Int) + 8 ≤ Bm a b ∧ 3 * (a.ht : Int) ≤ Bm a b ∧ 1 + 4 * (a.ht : Int) ≤ Bm a b := by
  obtain ⟨h0, h1⟩ := ht_bits h hs
  have hk := a.kv_len
  have e : a.sz.toNat = a.kv.length := by omega
  rw [e] at h1 h0
  have h2 := bitc_mono (show a.kv.length ≤ max a.kv.length b.kv.length by omega)
  unfold Bm; omega
theorem bm_of2 {a b c : T} (h : c.bw) (hs : c.sz ≤ 1024) (hc : c.sz ≤ a.sz) : 10 * (c.ht : Int) + 8 ≤ Bm a b := by
  obtain ⟨h0, h1⟩ := ht_bits h hs
  have hk := a.kv_len
  have hk2 := c.kv_len
  have e : c.sz.toNat = c.kv.length := by omega
  rw [e] at h1 h0
  have h2 := bitc_mono (show c.kv.length ≤ max a.kv.length b.kv.length by omega)
  unfold Bm; omega
theorem bm_hi {a b : T} (h1 : a.sz ≤ 1024) (h2 : b.sz ≤ 1024) : Bm a b ≤ 30000 := by
  have := a.kv_len; have := b.kv_len
  have h := bitc_le (max a.kv.length b.kv.length)
  unfold Bm; omega
theorem Del.sz {tr tr' : T} {i : Py} {p : Int} (h : Del tr i p tr') : tr'.sz = tr.sz - 1 := by
  obtain ⟨A, B, h1, h2, h3⟩ := h.ids
  have a := tr.sz_ids
  have b := tr'.sz_ids
  rw [h1] at a
  rw [h3] at b
  simp only [List.length_append, List.length_cons] at a b
  omega
theorem ins_b {at0 id : Int} {p : Option Addr} {cap : Nat} {vs : List V10} (h : GT n0 ks w t mb tr lk) (hb : tr.bw) (hi : I64 id) (hlk : lk ≤ 2900000000000000000) (hSV : ∀ w', Mk (Wr n0 ks) w w' → SVv w' p vs) (hvo : ∀ x ∈ vs, x.n.ok) : Calls Try.prog 9 #[pt t 0, .int .i64 at0, .int .i64 id, .slice p vs.length cap] w fun e w' => ∃ tr' lk', e = .returned (.int .i64 (insE mb.sc.length tr at0 id vs.length)) ∧ GT n0 ks w' t mb tr' lk' ∧ tr'.bw ∧ lk ≤ lk' ∧ lk' - lk ≤ Bm tr tr' ∧ (insE mb.sc.length tr at0 id vs.length = 0 → lk < lk') ∧ Mk (Wr n0 ks) w w' := by
  have hle := h.le
  refine (ins_any h hi (by omega) hSV hvo).mono fun e w' hq => ?_
  obtain ⟨tr', lk', he, hG, hc, hk1, hk2, hM⟩ := hq
  have := (bm_of (b := tr') hb hle).2.1
  rcases hc with ⟨c0, ⟨y, kn, hI⟩, hk3⟩ | ⟨c0, rfl, rfl⟩
  · exact ⟨tr', lk', he, hG, hI.bw hb, hk1, by omega, fun _ => hk3, hM⟩
  · exact ⟨tr', lk', he, hG, hb, hk1, by omega, fun e => absurd e c0, hM⟩
theorem del_b {id : Int} (h : GT n0 ks w t mb tr lk) (hb : tr.bw) (hi : I64 id) (hlk : lk ≤ 2900000000000000000) : Calls Try.prog 15 #[pt t 0, .int .i64 id] w fun e w' => ∃ p c tr' lk', e = .returned (.tuple #[.int .i64 p, .int .i64 c]) ∧ GT n0 ks w' t mb tr' lk' ∧ tr'.bw ∧ lk ≤ lk' ∧ lk' - lk ≤ Bm tr tr' ∧ Mk (Wr n0 ks) w w' := by
  have hle := h.le
  refine (del_any h hi hlk).mono fun e w' hq => ?_
  obtain ⟨p, c, tr', lk', he, hG, hc, hk1, hk2, hM⟩ := hq
  have := (bm_of (b := tr') hb hle).1
  refine ⟨p, c, tr', lk', he, hG, ?_, hk1, by omega, hM⟩
  rcases hc with ⟨_, _, y, _, _, hD⟩ | ⟨_, _, _, rfl, _⟩
  · exact hD.bw hb
  · exact hb
theorem mov_b {at0 id : Int} (h : GT n0 ks w t mb tr lk) (hb : tr.bw) (hi : I64 id) (hlk : lk ≤ 2900000000000000000) : Calls Try.prog 16 #[pt t 0, .int .i64 id, .int .i64 at0] w fun e w' => ∃ p c tr' lk', e = .returned (.tuple #[.int .i64 p, .int .i64 c]) ∧ GT n0 ks w' t mb tr' lk' ∧ tr'.bw ∧ lk ≤ lk' ∧ lk' - lk ≤ 2 * Bm tr tr' ∧ Mk (Wr n0 ks) w w' := by
  have hle := h.le
  refine (mov_any h hi hlk).mono fun e w' hq => ?_
  obtain ⟨p, c, tr', lk', he, hG, hc, hk1, hM⟩ := hq
  have := (bm_of (b := tr') hb hle).1
  rcases hc with ⟨_, _, _, _, y, kn, tr1, _, _, hD, hI, hk2⟩ | ⟨_, _, rfl, rfl⟩
  · have hb1 := hD.bw hb
    have hs1 := hD.sz
    have := bm_of2 (a := tr) (b := tr') hb1 (by omega) (by omega)
    exact ⟨p, c, tr', lk', he, hG, hI.bw hb1, hk1, by omega, hM⟩
  · exact ⟨p, c, tr', lk', he, hG, hb, hk1, by omega, hM⟩
/-- What Set answers. -/
def setE (nc : Nat) (tr : T) (id cn : Int) : Int := if cn < 0 ∨ (nc : Int) ≤ cn then 1 else if id ∈ tr.is then 0 else 4
theorem set_b {id cn : Int} {x : V10} (h : GT n0 ks w t mb tr lk) (hb : tr.bw) (hi : I64 id) (hx : x.n.ok) (hlk : lk ≤ 2900000000000000000) : Calls Try.prog 17 #[pt t 0, .int .i64 id, .int .i64 cn, V10.v x] w fun e w' => ∃ tr' lk', e = .returned (.int .i64 (setE mb.sc.length tr id cn)) ∧ GT n0 ks w' t mb tr' lk' ∧ tr'.bw ∧ lk ≤ lk' ∧ lk' - lk ≤ Bm tr tr' ∧ (setE mb.sc.length tr id cn = 0 → lk < lk') ∧ Mk (Wr n0 ks) w w' := by
  have hle := h.le
  refine (set_any h hi hx (by omega)).mono fun e w' hq => ?_
  obtain ⟨c, tr', lk', he, hG, hc, hk1, hk2, hM⟩ := hq
  have := (bm_of (b := tr') hb hle).2.2.1
  rcases hc with ⟨c0, c1, c2, ⟨A, B, y, hA, hy, _, hS⟩, hk3⟩ | ⟨c0, rfl, rfl⟩
  · have e0 : setE mb.sc.length tr id cn = 0 := by
      unfold setE; rw [if_neg (by omega), if_pos (by unfold T.is; rw [hA, ← hy]; simp)]
    rw [e0]
    exact ⟨tr', lk', by rw [he, c0], hG, hS.all.2.2.2.2.2.2 hb, hk1, by omega, fun _ => hk3, hM⟩
  · have e0 : setE mb.sc.length tr' id cn = c ∧ c ≠ 0 := by
      unfold setE
      rcases c0 with ⟨rfl, h⟩ | ⟨rfl, h1, h2, h3⟩
      · rw [if_pos h]; exact ⟨rfl, by decide⟩
      · rw [if_neg (by omega), if_neg h3]; exact ⟨rfl, by decide⟩
    rw [e0.1]
    exact ⟨tr', lk', he, hG, hb, hk1, by omega, fun e => absurd e e0.2, hM⟩
theorem qry_b {cn fa ta : Int} (h : GT n0 ks w t mb tr lk) (hb : tr.bw) (hlk : lk ≤ 2900000000000000000) : Calls Try.prog 11 #[pt t 0, .int .i64 cn, .int .i64 fa, .int .i64 ta] w fun e w' => ∃ S cd lk', e = .returned (.tuple #[smv S, .int .i64 cd]) ∧ GT n0 ks w' t mb tr lk' ∧ lk ≤ lk' ∧ lk' - lk ≤ Bm tr tr ∧ Mk (Wr n0 ks) w w' := by
  have hle := h.le
  refine (qry_any h (by omega)).mono fun e w' hq => ?_
  obtain ⟨S, cd, lk', he, hG, _, hk1, hk2, hM⟩ := hq
  have := (bm_of (b := tr) hb hle).2.2.2
  exact ⟨S, cd, lk', he, hG, hk1, by omega, hM⟩
end
section
variable {w : World}
theorem value_t (o : Op6) (q0 : decide (o.vs.length = 0) = true) : Calls Try.prog 18 #[o.v] w fun e w' => e = .returned (V10.v o.val) ∧ Mo w w' := by
  have hval0 : o.val = v0 := by unfold Op6.val; rw [List.length_eq_zero_iff.1 (of_decide_eq_true q0)]; rfl
  refine w_enter 12 Try.func18 Try.ntmps18 rfl rfl ?_
  have M : Mo w w := Mo.refl _
  refine w_seq ?_
  refine w_reg ?_
  refine wl_box 31 (.tmp 0) (.agg #[.int .i64 (o.d), .int .i64 (o.a), .int .i64 (o.i), .slice o.p o.vs.length o.cap, .int .i64 (o.c), .int .i64 (o.f), .int .i64 (o.e)]) (#[.int .i64 (o.d), .int .i64 (o.a), .int .i64 (o.i), .slice o.p o.vs.length o.cap, .int .i64 (o.c), .int .i64 (o.f), .int .i64 (o.e)]) rfl rfl (fun _ => by kernel_rfl) rfl ?_
  intro k1 w1 hk hz hq Q1
  have N_k1 : w.heap.size ≤ k1 := by have := M.size; omega
  replace M := M.trans hq
  clear hk hz hq
  refine wl_alloc 55 #[.int .i64 0, .bool false, .int .u64 0, .int .u64 0, .int .u64 0, .int .u64 0, .int .i64 0, .bool false, .string ⟨#[]⟩, .int .i64 0] rfl (fun _ => by kernel_rfl) rfl ?_
  intro k2 w2 hk hz hq Q2
  have ne_k1_k2 : k1 ≠ k2 := by have := Q1.lt; omega
  have N_k2 : w.heap.size ≤ k2 := by have := M.size; omega
  replace Q1 := Q1.mo hq
  replace M := M.trans hq
  clear hk hz hq
  refine w_nil ?_
  refine xn_then ?_
  refine w_seq ?_
  refine w_seq ?_
  refine w_reg ?_
  refine wl_un (fun v => Instr.fieldAt 31 v 3) (.tmp 1) (pt k1 0) (pt k1 3) (fun _ => rfl) rfl (by kernel_rfl) rfl ?_
  refine wl_load 29 (.tmp 3) (pt k1 3) (.slice o.p o.vs.length o.cap) rfl rfl (run_one Q1 29 3 rfl Try.underlying29 rfl) rfl ?_
  refine wl_val (.int .i64 ((o.vs.length : Nat) : Int)) (len29 _ _ _ _ _ (by exact rfl) _ _ _ _ _ _) rfl ?_
  refine wl_bin (fun x y => do eqGuard .eql 3 (.tmp 5) (.const (.int .i64 (0))) x y; binOp .eql 3 x y) (.tmp 5) (.const (.int .i64 (0))) (.int .i64 ((o.vs.length : Nat) : Int)) (.int .i64 (0)) (.bool true) (fun _ => rfl) rfl rfl (eqI (by rw [← q0]; exact decide_eq_decide.2 (by omega)) _ _ _) rfl ?_
  refine w_nil ?_
  refine xn_then ?_
  refine w_condT rfl ?_
  refine w_seq ?_
  refine w_reg ?_
  refine wl_build 55 [] [] (.agg #[.int .i64 0, .bool false, .int .u64 0, .int .u64 0, .int .u64 0, .int .u64 0, .int .i64 0, .bool false, .string ⟨#[]⟩, .int .i64 0]) rfl rfl (by kernel_rfl) rfl ?_
  refine wl_st 55 (.tmp 2) (.tmp 7) k2 0 #[.int .i64 0, .bool false, .int .u64 0, .int .u64 0, .int .u64 0, .int .u64 0, .int .i64 0, .bool false, .string ⟨#[]⟩, .int .i64 0] [.int .i64 0, .bool false, .int .u64 0, .int .u64 0, .int .u64 0, .int .u64 0, .int .i64 0, .bool false, .string ⟨#[]⟩, .int .i64 0] [.int .i64 0, .bool false, .int .u64 0, .int .u64 0, .int .u64 0, .int .u64 0, .int .i64 0, .bool false, .string ⟨#[]⟩, .int .i64 0] Q2 rfl rfl rfl rfl rfl zs55 rfl rfl rfl ?_
  intro w3 hS Qn
  replace Q2 := Qn
  clear Qn
  replace Q1 := hS.other _ _ ne_k1_k2 Q1
  replace M := hS.mo _ N_k2 M
  clear hS
  refine w_nil ?_
  refine xn_then ?_
  refine w_ret ?_
  refine xr_then ?_
  exact w_ret1 _ (.agg #[.int .i64 0, .bool false, .int .u64 0, .int .u64 0, .int .u64 0, .int .u64 0, .int .i64 0, .bool false, .string ⟨#[]⟩, .int .i64 0]) rfl ⟨k2, rfl, (run_row Q2 55 0 10 [.int .i64 0, .bool false, .int .u64 0, .int .u64 0, .int .u64 0, .int .u64 0, .int .i64 0, .bool false, .string ⟨#[]⟩, .int .i64 0] rfl Try.underlying55 rfl zs55)⟩ ⟨by rw [hval0]; rfl, M⟩
theorem value_f (o : Op6) (hSV : SVv w o.p o.vs) (q0 : decide (o.vs.length = 0) = false) : Calls Try.prog 18 #[o.v] w fun e w' => e = .returned (V10.v o.val) ∧ Mo w w' := by
  have hlen := of_decide_eq_false q0
  obtain ⟨xv, hxv⟩ : ∃ x, o.vs[0]? = some x := ⟨o.vs[0]'(by omega), List.getElem?_eq_getElem _⟩
  have hval1 : o.val = xv := by
    unfold Op6.val
    cases e : o.vs with
    | nil => rw [e] at hxv; cases hxv
    | cons x L => rw [e] at hxv; cases hxv; rfl
  obtain ⟨b, off, hpb, hbl, hrg⟩ := hSV 0 xv hxv
  refine w_enter 12 Try.func18 Try.ntmps18 rfl rfl ?_
  have M : Mo w w := Mo.refl _
  refine w_seq ?_
  refine w_reg ?_
  refine wl_box 31 (.tmp 0) (.agg #[.int .i64 (o.d), .int .i64 (o.a), .int .i64 (o.i), .slice o.p o.vs.length o.cap, .int .i64 (o.c), .int .i64 (o.f), .int .i64 (o.e)]) (#[.int .i64 (o.d), .int .i64 (o.a), .int .i64 (o.i), .slice o.p o.vs.length o.cap, .int .i64 (o.c), .int .i64 (o.f), .int .i64 (o.e)]) rfl rfl (fun _ => by kernel_rfl) rfl ?_
  intro k1 w1 hk hz hq Q1
  have N_k1 : w.heap.size ≤ k1 := by have := M.size; omega
  replace M := M.trans hq
  clear hk hz hq
  refine wl_alloc 55 #[.int .i64 0, .bool false, .int .u64 0, .int .u64 0, .int .u64 0, .int .u64 0, .int .i64 0, .bool false, .string ⟨#[]⟩, .int .i64 0] rfl (fun _ => by kernel_rfl) rfl ?_
  intro k2 w2 hk hz hq Q2
  have ne_k1_k2 : k1 ≠ k2 := by have := Q1.lt; omega
  have N_k2 : w.heap.size ≤ k2 := by have := M.size; omega
  replace Q1 := Q1.mo hq
  replace M := M.trans hq
  clear hk hz hq
  refine w_nil ?_
  refine xn_then ?_
  refine w_seq ?_
  refine w_seq ?_
  refine w_reg ?_
  refine wl_un (fun v => Instr.fieldAt 31 v 3) (.tmp 1) (pt k1 0) (pt k1 3) (fun _ => rfl) rfl (by kernel_rfl) rfl ?_
  refine wl_load 29 (.tmp 3) (pt k1 3) (.slice o.p o.vs.length o.cap) rfl rfl (run_one Q1 29 3 rfl Try.underlying29 rfl) rfl ?_
  refine wl_val (.int .i64 ((o.vs.length : Nat) : Int)) (len29 _ _ _ _ _ (by exact rfl) _ _ _ _ _ _) rfl ?_
  refine wl_bin (fun x y => do eqGuard .eql 3 (.tmp 5) (.const (.int .i64 (0))) x y; binOp .eql 3 x y) (.tmp 5) (.const (.int .i64 (0))) (.int .i64 ((o.vs.length : Nat) : Int)) (.int .i64 (0)) (.bool false) (fun _ => rfl) rfl rfl (eqI (by rw [← q0]; exact decide_eq_decide.2 (by omega)) _ _ _) rfl ?_
  refine w_nil ?_
  refine xn_then ?_
  refine w_condF rfl ?_
  refine w_skip ?_
  refine xn_then ?_
  refine w_seq ?_
  refine w_reg ?_
  refine wl_un (fun v => Instr.fieldAt 31 v 3) (.tmp 1) (pt k1 0) (pt k1 3) (fun _ => rfl) rfl (by kernel_rfl) rfl ?_
  refine wl_load 29 (.tmp 8) (pt k1 3) (.slice o.p o.vs.length o.cap) rfl rfl (run_one Q1 29 3 rfl Try.underlying29 rfl) rfl ?_
  refine wl_bin (fun x y => Instr.indexAt 29 x y) (.tmp 9) (.const (.int .i64 (0))) (.slice o.p o.vs.length o.cap) (.int .i64 (0)) (pt b (off + 0 * 10)) (fun _ => rfl) rfl rfl (by rw [hpb]; exact ix29 b off 0 _ _ (by omega) _) rfl ?_
  refine wl_load 55 (.tmp 10) (pt b (off + 0 * 10)) (.agg #[.int .i64 (xv.K), .bool xv.n.b, .int .u64 (l0 xv.n.n), .int .u64 (l1 xv.n.n), .int .u64 (l2 xv.n.n), .int .u64 (l3 xv.n.n), .int .i64 (xv.n.s), .bool xv.fl, .string xv.tx, .int .i64 (xv.er)]) rfl rfl (ld55 (fun j v hv => (M.cell b _ hbl).trans (hrg j v hv))) rfl ?_
  refine wl_st 55 (.tmp 2) (.tmp 11) k2 0 #[.int .i64 (xv.K), .bool xv.n.b, .int .u64 (l0 xv.n.n), .int .u64 (l1 xv.n.n), .int .u64 (l2 xv.n.n), .int .u64 (l3 xv.n.n), .int .i64 (xv.n.s), .bool xv.fl, .string xv.tx, .int .i64 (xv.er)] [.int .i64 0, .bool false, .int .u64 0, .int .u64 0, .int .u64 0, .int .u64 0, .int .i64 0, .bool false, .string ⟨#[]⟩, .int .i64 0] [.int .i64 (xv.K), .bool xv.n.b, .int .u64 (l0 xv.n.n), .int .u64 (l1 xv.n.n), .int .u64 (l2 xv.n.n), .int .u64 (l3 xv.n.n), .int .i64 (xv.n.s), .bool xv.fl, .string xv.tx, .int .i64 (xv.er)] Q2 rfl rfl rfl rfl rfl zs55 rfl rfl rfl ?_
  intro w3 hS Qn
  replace Q2 := Qn
  clear Qn
  replace Q1 := hS.other _ _ ne_k1_k2 Q1
  replace M := hS.mo _ N_k2 M
  clear hS
  refine w_nil ?_
  refine xn_then ?_
  refine w_ret ?_
  exact w_ret1 _ (.agg #[.int .i64 (xv.K), .bool xv.n.b, .int .u64 (l0 xv.n.n), .int .u64 (l1 xv.n.n), .int .u64 (l2 xv.n.n), .int .u64 (l3 xv.n.n), .int .i64 (xv.n.s), .bool xv.fl, .string xv.tx, .int .i64 (xv.er)]) rfl ⟨k2, rfl, (run_row Q2 55 0 10 [.int .i64 (xv.K), .bool xv.n.b, .int .u64 (l0 xv.n.n), .int .u64 (l1 xv.n.n), .int .u64 (l2 xv.n.n), .int .u64 (l3 xv.n.n), .int .i64 (xv.n.s), .bool xv.fl, .string xv.tx, .int .i64 (xv.er)] rfl Try.underlying55 rfl zs55)⟩ ⟨by rw [hval1], M⟩
theorem value_n (o : Op6) (hSV : SVv w o.p o.vs) : Calls Try.prog 18 #[o.v] w fun e w' => e = .returned (V10.v o.val) ∧ Mo w w' := by
  by_cases h : o.vs.length = 0
  · exact value_t o (decide_eq_true h)
  · exact value_f o hSV (decide_eq_false h)
end
end G
end Go.Proofs.Ythfemlhmnjfjiaa
