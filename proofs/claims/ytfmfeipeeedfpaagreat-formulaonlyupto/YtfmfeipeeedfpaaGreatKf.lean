/-
  One more comes up; all have come up. Calls whose answers are known. Code, calls: what was reckoned of a closed call is what each run of it does. Calls that the model stands in for; live. What live answers. The law FormulaStays. What came in, cut: numbers, values, tables, columns, expressions, items, what is handed in to evaluate in. What is handed in to evaluate in, and items, opened. Expressions that came in: how many nodes their reading has. Names are gathered: the function that calls itself. All names that are gathered. Regions whose order is open: every order by itself. Columns are gathered: the function that calls itself. All columns that are gathered. Contracts of the library, laid at this program: sorting. Sorting a slice of one's own. Names, as the program tells them. How texts stand; how columns stand; columns in their order. Columns, as the program tells them. Pieces of slices of one's own; appends of nothing. A text put to a list of texts, as the document does it. Names, as the document tells them. Columns, as the document tells them: how two stand, whether they are one.
-/
import Derived.Test.YtfmfeipeeedfpaaGreatKe
import Derived.Scope
import Derived.Laws.Externs
import Derived.KernelRfl
import Derived.Test.YtfmfeipeeedfpaaGreatRows
import Derived.ProofKit
import Derived.OpenShut
import Derived.ChangeArms
import Derived.Deep.Slices
import Derived.Deep.MidRow
import Derived.ReadAgain
import Derived.WideKeyArgs
import Derived.WideKeyElems2
import Derived.JoinedCond
import Derived.Carry
import Derived.ChangeMaps5
import Derived.SizedLaws
import Derived.Test.YtfmfeipeeedfpaaGreatKd
import Derived.Test.YtfmfeipeeedfpaaGreatKb
import Derived.Orders
import Derived.Shelf.Small.Bits
import Derived.Shelf.Sort.Plain
import Derived.Ground.Names2Prog
import Derived.Shelf.Slices.In.SortNone
import Derived.Shelf.SlGeneric
import Derived.Ground.SlsfProg
import Derived.Shelf.SlSortCmp.WholeK
import Derived.Test.YtfmfeipeeedfpaaGreatProg
import Derived.Shelf.SlSortCmp.NoneTotal
namespace Go.Proofs.YtfmfeipeeedfpaaGreat
namespace E
open Go.CheckFast (force force_eq)
section
variable {P : Program} {ops : Array Oper} {st : Nat → RL} {r w : Nat → Nat} {v : Nat → Value} {RR WW : Nat → Prop} {k0 : K} {W0 : World}
theorem Iv.step (D : ∀ i o, ops[i]? = some o → Dt P ops st r w v i o) (nn : ∀ i, (st 0).n ≤ i → hget (st 0).h i = none) (hle : (st 0).f.m ≤ 256)
    (hdh : drawn (bef ops) ops.size (dl (fun i => (r i, w i)) ops.size) = true) (hdt : drawn (bef ops) ops.size (dl (fun i => (lookT ops (ops.getD i default), setT (ops.getD i default))) ops.size) = true)
    (hRr : ∀ j, j < ops.size → ∀ i, tb (r j) i → RR i) (hRw : ∀ j, j < ops.size → ∀ i, tb (w j) i → RR i) (hWw : ∀ j, j < ops.size → ∀ i, tb (w j) i → WW i)
    {listed : Array Bool} {a : Act} {W : World} {k : K} (I : Iv ops st w RR WW k0 W0 listed a W k) (hsz : listed.size = ops.size) {i : Nat} {o : Oper} (ho : ops[i]? = some o) (hu : listed.getD i true = false)
    (hall : ∀ e ∈ o.after, Region.binds .any e = true → listed.getD e.on false = true) (Q : Exit → Act → World → Prop) (K' : Act → World → Prop)
    (hK : ∀ a' W' k', Iv ops st w RR WW k0 W0 (listed.setIfInBounds i true) a' W' k' → K' a' W') :
    if Region.wanted o (yielded ops a.tmps) = true then o.wp P a W K' Q else K' (a.put o.dst undef) W := by
  have hi := (Array.getElem?_eq_some_iff.1 ho).1
  have hil : i < listed.size := by omega
  have hu' : ¬ listed.getD i false = true := by simp [hil] at hu ⊢; exact hu
  have hgd : ops.getD i default = o := by simp [hi] at ho ⊢; exact ho
  have hL : ∀ j, j ≠ i → ((listed.setIfInBounds i true).getD j false = true ↔ listed.getD j false = true) := fun j hj => by rw [getD_set_ne false (Ne.symm hj)]
  have hLi : (listed.setIfInBounds i true).getD i false = true := by simp [hil]
  have nni := st_nn D nn
  have d := D i o ho
  -- cuts at the operation itself
  have ch : ∀ m, (tb (r i) m ∨ tb (w i) m) → Cn ops.size (fun j => listed.getD j false = true) (fun j => tb (w j) m) i := fun m hm j hj hw => order hdh I.sh ho hu' hall (m := m) hm j hj hw
  have ct : ∀ t, (tb (lookT ops o) t ∨ wt ops t i) → Cn ops.size (fun j => listed.getD j false = true) (wt ops t) i := fun t ht j hj hw => by
    refine order hdt I.sh ho hu' hall (m := t) ?_ j hj ?_
    · rw [hgd]; exact ht.imp id (wt_tb ho).1
    · have : ops.getD j default = ops[j] := by simp [hj]
      rw [this]; exact (wt_tb (op_at hj)).1 hw
  -- a place that the operation writes, at a cut behind it
  have wcut : ∀ (wr : Nat → Prop) c, wr i → Cn ops.size (fun j => listed.getD j false = true) wr i → Cn ops.size (fun j => (listed.setIfInBounds i true).getD j false = true) wr c → i < c ∧ ∀ j, i + 1 ≤ j → j < c → j < ops.size → ¬ wr j := by
    intro wr c hwi h1 h2
    refine ⟨(h2 i hi hwi).1 hLi, fun j hj hjc hjs hw => ?_⟩
    have h3 : (listed.setIfInBounds i true).getD j false = true := (h2 j hjs hw).2 hjc
    rw [hL j (by omega)] at h3
    have := (h1 j hjs hw).1 h3
    omega
  have hsame : ∀ m c, c ≤ ops.size → tb (w i) m → Cn ops.size (fun j => (listed.setIfInBounds i true).getD j false = true) (fun j => tb (w j) m) c → hget (st c).h m = hget (st (i + 1)).h m := fun m c hc hm h => by
    obtain ⟨h1, h2⟩ := wcut (fun j => tb (w j) m) c hm (ch m (Or.inr hm)) h
    exact st_h D h1 hc (fun j a b => h2 j a b (by omega))
  have hold : ∀ m c, ¬ tb (w i) m → Cn ops.size (fun j => (listed.setIfInBounds i true).getD j false = true) (fun j => tb (w j) m) c → Cn ops.size (fun j => listed.getD j false = true) (fun j => tb (w j) m) c := fun m c hm h => Cn.same hL hm h
  refine d.ok k W a K' Q (by rw [st_m D i (by omega)]; exact I.m) (fun y hy => ev_of y fun t ht => ?_) (fun j b t hg ht => ?_) ⟨fun m hm => ?_, fun m m' hm hm' => ?_⟩ (fun m h1 h2 => I.new i hi hu' m h1 h2) (fun u W' k' hd hv => hK _ _ k' ?_)
  · subst ht; exact I.fr t i (by omega) (ct t (Or.inl (look_op hy)))
  · exact I.fr t i (by omega) (ct t (Or.inl (look_guard hg ht)))
  · exact I.hp m i (by omega) (hRr i hi m hm) (ch m (Or.inl hm))
  · exact I.inj m m' i i (by omega) (by omega) (hRr i hi m hm) (hRr i hi m' hm') (ch m (Or.inl hm)) (ch m' (Or.inl hm'))
  -- what lived there and was not written
  have hkk : ∀ m c, c ≤ ops.size → RR m → ¬ tb (w i) m → Cn ops.size (fun j => listed.getD j false = true) (fun j => tb (w j) m) c → live (st c).h m → ∀ b z, k' m = some (b, z) → k m = some (b, z) ∧ b < W.heap.size := fun m c hc hR hm h hl b z hk => by
    obtain ⟨b', z', e1, e2⟩ := (I.hp m c hc hR h).lt hl
    have := hd.ext m _ e1
    rw [hk] at this; cases this
    exact ⟨e1, e2⟩
  have hlo : ∀ m, live (st i).h m → m < (st i).n := fun m hl => by
    rcases Nat.lt_or_ge m (st i).n with h' | h'
    · exact h'
    · exact absurd hl (not_live (nni i (by omega) m h'))
  have hlo1 : ∀ m, live (st (i + 1)).h m → m < (st (i + 1)).n := fun m hl => by
    rcases Nat.lt_or_ge m (st (i + 1)).n with h' | h'
    · exact h'
    · exact absurd hl (not_live (nni (i + 1) (by omega) m h'))
  have hmix : ∀ m m' c c', c ≤ ops.size → c' ≤ ops.size → RR m → RR m' → ¬ tb (w i) m → tb (w i) m' → Cn ops.size (fun j => (listed.setIfInBounds i true).getD j false = true) (fun j => tb (w j) m) c → Cn ops.size (fun j => (listed.setIfInBounds i true).getD j false = true) (fun j => tb (w j) m') c' →
      live (st c).h m → live (st c').h m' → m ≠ m' → ∀ b z b' z', k' m = some (b, z) → k' m' = some (b', z') → b ≠ b' := by
    intro m m' c c' hc hc' hR hR' hm hm' h h' hl hl' hne b z b' z' ek ek'
    have h0 := hold m c hm h
    obtain ⟨km, hb⟩ := hkk m c hc hR hm h0 hl b z ek
    have hl1 : live (st (i + 1)).h m' := by obtain ⟨cs, e⟩ := hl'; exact ⟨cs, by rw [← hsame m' c' hc' hm' h']; exact e⟩
    rcases Nat.lt_or_ge m' (st i).n with hn | hn
    · have hl0 := d.ss.back m' hn hl1
      rw [hd.dom m' (Or.inl hn)] at ek'
      exact I.inj m m' c i hc (by omega) hR hR' h0 (ch m' (Or.inr hm')) hl hl0 hne b z b' z' km ek'
    · rcases hd.fresh m' b' z' hn (hlo1 m' hl1) hl1 ek' with hB | ⟨j, zj, j1, j2, j3, _, j5⟩
      · omega
      · exact I.inj m j c i hc (by omega) hR (hRw i hi j j1) h0 (ch j (Or.inr j1)) hl j3 (fun e => hm (e ▸ j1)) b z b' zj km j5
  -- what was let go stays so
  have hdead : ∀ j, j < (st 0).n → (∀ c', c' ≤ ops.size → Cn ops.size (fun j => listed.getD j false = true) (fun i => tb (w i) j) c' → ¬ live (st c').h j) → ∀ c', c' ≤ ops.size → Cn ops.size (fun j => (listed.setIfInBounds i true).getD j false = true) (fun i => tb (w i) j) c' → ¬ live (st c').h j := by
    intro j hj h c' hc' hcn hl
    by_cases hw : tb (w i) j
    · have hl1 : live (st (i + 1)).h j := by obtain ⟨cs, e⟩ := hl; exact ⟨cs, by rw [← hsame j c' hc' hw hcn]; exact e⟩
      exact h i (by omega) (ch j (Or.inr hw)) (d.ss.back j (Nat.lt_of_lt_of_le hj (st_n D (Nat.zero_le i) (by omega))) hl1)
    · exact h c' hc' (hold j c' hw hcn) hl
  have hfresh : ∀ m b z, (st 0).n ≤ m → m < (st i).n → (tb (r i) m ∨ tb (w i) m) → live (st i).h m → k m = some (b, z) → W0.heap.size ≤ b ∨ ∃ j z', WW j ∧ j < (st 0).n ∧ live (st 0).h j ∧ (∀ c', c' ≤ ops.size → Cn ops.size (fun j => (listed.setIfInBounds i true).getD j false = true) (fun i => tb (w i) j) c' → ¬ live (st c').h j) ∧ k0 j = some (b, z') := by
    intro m b z h1 h2 h3 h4 h5
    rcases I.fresh m i b z (by omega) (h3.elim (hRr i hi m) (hRw i hi m)) (ch m h3) h1 (Nat.lt_of_lt_of_le h2 (st_n D (by omega) (Nat.le_refl _))) h4 h5 with h | ⟨j, z', a1, a2, a3, a4, a5⟩
    · exact Or.inl h
    · exact Or.inr ⟨j, z', a1, a2, a3, hdead j a2 a4, a5⟩
  refine ⟨?_, ?_, ?_, ?_, ?_, ?_, fun m p hp => hd.ext m p (I.ext m p hp), ?_, ?_, ?_, ?_, Nat.le_trans I.size hd.size, hd.os.trans I.os, hd.tape.trans I.tape, hd.output.trans I.output, fun x => (hd.fz x).trans (I.fz x)⟩
  · intro j oj hoj hlj e he hb
    by_cases hji : j = i
    · subst hji
      rw [ho] at hoj; cases hoj
      exact getD_set_true (hall e he hb)
    · rw [hL j hji] at hlj
      exact getD_set_true (I.sh j oj hoj hlj e he hb)
  · rw [put_sz]; exact I.m
  · rw [put_df]; exact I.df
  · intro t c hc hcn
    by_cases hw : wt ops t i
    · obtain ⟨h1, h2⟩ := wcut (wt ops t) c hw (ct t (Or.inr hw)) hcn
      rw [st_f D hle h1 hc (fun j a b => h2 j a b (by omega)), d.f]
      exact put_get (by rw [st_m D i (by omega)]; exact I.m) (by rw [st_m D i (by omega)]; exact hle) hv t ((I.fr t i (by omega) (ct t (Or.inr hw))).mono hd.ext)
    · rw [put_other (fun e => hw ⟨o, ho, e⟩)]
      exact (I.fr t c hc (Cn.same hL hw hcn)).mono hd.ext
  · intro m c hc hR hcn
    by_cases hw : tb (w i) m
    · intro cs hcs
      rw [hsame m c hc hw hcn] at hcs
      exact hd.rep.rep m (tb_or.2 (Or.inr hw)) cs hcs
    · intro cs hcs
      have h0 := hold m c hw hcn
      refine (I.hp m c hc hR h0 cs hcs).mono (hd.ext m) (fun b z e1 hb => ?_) (fun us => LX.mono hd.ext)
      refine hd.frm b hb (fun j z hj hl hk => ?_)
      exact I.inj m j c i hc (by omega) hR (hRw i hi j hj) h0 (ch j (Or.inr hj)) ⟨cs, hcs⟩ hl (fun e => hw (e ▸ hj)) _ _ _ _ e1 hk rfl
  · intro m m' c c' hc hc' hR hR' hcn hcn' hl hl' hne b z b' z' ek ek'
    by_cases hw : tb (w i) m <;> by_cases hw' : tb (w i) m'
    · have e1 := hsame m c hc hw hcn
      have e2 := hsame m' c' hc' hw' hcn'
      obtain ⟨cs, e⟩ := hl
      obtain ⟨cs', e'⟩ := hl'
      exact hd.rep.inj m m' (tb_or.2 (Or.inr hw)) (tb_or.2 (Or.inr hw')) ⟨cs, by rw [← e1]; exact e⟩ ⟨cs', by rw [← e2]; exact e'⟩ hne b z b' z' ek ek'
    · exact fun e => hmix m' m c' c hc' hc hR' hR hw' hw hcn' hcn hl' hl (Ne.symm hne) b' z' b z ek' ek e.symm
    · exact hmix m m' c c' hc hc' hR hR' hw hw' hcn hcn' hl hl' hne b z b' z' ek ek'
    · have h0 := hold m c hw hcn
      have h0' := hold m' c' hw' hcn'
      exact I.inj m m' c c' hc hc' hR hR' h0 h0' hl hl' hne b z b' z' (hkk m c hc hR hw h0 hl b z ek).1 (hkk m' c' hc' hR' hw' h0' hl' b' z' ek').1
  · intro m hm
    have h1 := st_n D (Nat.zero_le i) (by omega)
    have h2 := st_n D (show i + 1 ≤ ops.size by omega) (Nat.le_refl _)
    rw [hd.dom m (by omega)]
    exact I.dom m hm
  · intro j hj hnl m h1 h2
    by_cases hji : j = i
    · subst hji; exact absurd hLi hnl
    · rw [hL j hji] at hnl
      have : k' m = k m := by
        rcases Nat.lt_or_ge j i with h | h
        · exact hd.dom m (Or.inl (Nat.lt_of_lt_of_le h2 (st_n D h (by omega))))
        · exact hd.dom m (Or.inr (Nat.le_trans (st_n D (show i + 1 ≤ j by omega) (by omega)) h1))
      rw [this]
      exact I.new j hj hnl m h1 h2
  · intro b hb hj
    rw [hd.frm b (Nat.lt_of_lt_of_le hb I.size) (fun j z hw hl hk => ?_)]
    · exact I.frm b hb hj
    · rcases Nat.lt_or_ge j (st 0).n with hjn | hjn
      · have hin := st_n D (Nat.zero_le i) (by omega)
        exact hj j z (hWw i hi j hw) (st_back D hjn i (by omega) hl) (by rw [← I.dom j (Or.inl hjn)]; exact hk)
      · rcases hfresh j b z hjn (hlo j hl) (Or.inr hw) hl hk with h' | ⟨j0, z0, a1, a2, a3, _, a5⟩
        · omega
        · exact hj j0 z0 a1 a3 a5
  · intro m c b z hc hR hcn hm1 hm2 hl hk
    by_cases hw : tb (w i) m
    · have hl1 : live (st (i + 1)).h m := by obtain ⟨cs, e⟩ := hl; exact ⟨cs, by rw [← hsame m c hc hw hcn]; exact e⟩
      rcases Nat.lt_or_ge m (st i).n with hn | hn
      · rw [hd.dom m (Or.inl hn)] at hk
        exact hfresh m b z hm1 hn (Or.inr hw) (d.ss.back m hn hl1) hk
      · rcases hd.fresh m b z hn (hlo1 m hl1) hl1 hk with hB | ⟨j, zj, j1, j2, j3, j4, j5⟩
        · exact Or.inl (Nat.le_trans I.size hB)
        · rcases Nat.lt_or_ge j (st 0).n with hjn | hjn
          · refine Or.inr ⟨j, zj, hWw i hi j j1, hjn, st_back D hjn i (by omega) j3, fun c' hc' hcn' hl' => ?_, by rw [← I.dom j (Or.inl hjn)]; exact j5⟩
            obtain ⟨cs, e⟩ := hl'
            exact j4 ⟨cs, by rw [← hsame j c' hc' j1 hcn']; exact e⟩
          · exact hfresh j b zj hjn j2 (Or.inr j1) j3 j5
    · have h0 := hold m c hw hcn
      rcases I.fresh m c b z hc hR h0 hm1 hm2 hl (hkk m c hc hR hw h0 hl b z hk).1 with h | ⟨j, z', a1, a2, a3, a4, a5⟩
      · exact Or.inl h
      · exact Or.inr ⟨j, z', a1, a2, a3, hdead j a2 a4, a5⟩
theorem draw_ok {cf : Nat → List Value → HT → Nat → Option R5} (hcf : Cs P cf) (hmo : P.follows .mixedOrders = true) {s s' : RL} (nn : ∀ i, s.n ≤ i → hget s.h i = none) (hl : s.l = []) (hr0 : s.r = 0) (hw0 : s.w = 0)
    (e : opsL P cf ops ops.toList s = some s') (hdk : drawOk ops = true) (hdr : drawn (bef ops) ops.size s'.l = true) :
    Ss s.h s.n s'.h s'.n s'.r s'.w ∧
      ∀ (k : K) (W : World) (a : Act) (Q : Exit → Act → World → Prop) (id : Nat), FR k s.f a → HR k s.h W s'.r → (∀ i, s.n ≤ i → i < s'.n → k i = none) → (∀ k' W' a', Sd s.h s.n s'.h s'.n s'.r s'.w k W k' W' → FR k' s'.f a' → Q .normal a' W') → (Code.region id ops true).wp P Q a W := by
  obtain ⟨r1, w1, h1, h2, ss, _⟩ := list_ok hcf _ _ _ nn e
  have ss' : Ss s.h s.n s'.h s'.n s'.r s'.w := ss.congr (fun i => by rw [h1, hr0]; exact ⟨Or.inr, fun h => h.resolve_left tb_zero⟩) (fun i => by rw [h2, hw0]; exact ⟨Or.inr, fun h => h.resolve_left tb_zero⟩)
  refine ⟨ss', ?_⟩
  obtain ⟨st, e0, eN, hst⟩ := opsL_states _ _ _ e
  rw [show ops.toList.length = ops.size by simp] at eN
  -- what each operation does
  have nnst : ∀ i, i ≤ ops.size → ∀ m, (st i).n ≤ m → hget (st i).h m = none := by
    intro i
    induction i with
    | zero => intro _; rw [e0]; exact nn
    | succ i ih =>
      intro hi
      obtain ⟨_, _, _, _, _, _, _, hs, _⟩ := step_ok hcf (ih (by omega)) (hst i ops[i] (by rw [Array.getElem?_toList]; exact op_at (by omega)))
      exact hs.nn (ih (by omega))
  have ex : ∀ i, ∃ q : Nat × Nat × Value, ∀ o, ops[i]? = some o → Dt P ops st (fun _ => q.1) (fun _ => q.2.1) (fun _ => q.2.2) i o := by
    intro i
    cases ho : ops[i]? with
    | none => exact ⟨(0, 0, undef), fun o h => by cases h⟩
    | some o =>
      obtain ⟨r, w, v, a1, a2, a3, a4, a5, a6⟩ := step_ok hcf (nnst i (Nat.le_of_lt (Array.getElem?_eq_some_iff.1 ho).1)) (hst i o (by rw [Array.getElem?_toList]; exact ho))
      refine ⟨(r, w, v), fun o' h => ?_⟩
      cases h
      exact ⟨a1, a2, a3, a4, a5, a6⟩
  let q : Nat → Nat × Nat × Value := fun i => Classical.choose (ex i)
  have D : ∀ i o, ops[i]? = some o → Dt P ops st (fun i => (q i).1) (fun i => (q i).2.1) (fun i => (q i).2.2) i o := fun i o ho => by
    have := Classical.choose_spec (ex i) o ho
    exact ⟨this.l, this.f, this.mr, this.mw, this.ss, this.ok⟩
  generalize hqr : (fun i => (q i).1) = r at D
  generalize hqw : (fun i => (q i).2.1) = w at D
  generalize hqv : (fun i => (q i).2.2) = v at D
  have hdl : ∀ i, i ≤ ops.size → (st i).l = dl (fun i => (r i, w i)) i := by
    intro i
    induction i with
    | zero => intro _; rw [e0, hl]; rfl
    | succ i ih => intro hi; rw [(D i _ (op_at (by omega))).l, ih (by omega)]; rfl
  have hmr : ∀ i, i ≤ ops.size → ∀ m, tb (st i).r m ↔ ∃ j, j < i ∧ tb (r j) m := by
    intro i
    induction i with
    | zero => intro _ m; rw [e0, hr0]; exact ⟨fun h => absurd h tb_zero, fun ⟨j, h, _⟩ => absurd h (by omega)⟩
    | succ i ih =>
      intro hi m
      rw [(D i _ (op_at (by omega))).mr, ih (by omega)]
      constructor
      · rintro (⟨j, a, b⟩ | h)
        · exact ⟨j, by omega, b⟩
        · exact ⟨i, by omega, h⟩
      · rintro ⟨j, a, b⟩
        by_cases hji : j = i
        · subst hji; exact Or.inr b
        · exact Or.inl ⟨j, by omega, b⟩
  have hmw : ∀ i, i ≤ ops.size → ∀ m, tb (st i).w m ↔ ∃ j, j < i ∧ tb (w j) m := by
    intro i
    induction i with
    | zero => intro _ m; rw [e0, hw0]; exact ⟨fun h => absurd h tb_zero, fun ⟨j, h, _⟩ => absurd h (by omega)⟩
    | succ i ih =>
      intro hi m
      rw [(D i _ (op_at (by omega))).mw, ih (by omega)]
      constructor
      · rintro (⟨j, a, b⟩ | h)
        · exact ⟨j, by omega, b⟩
        · exact ⟨i, by omega, h⟩
      · rintro ⟨j, a, b⟩
        by_cases hji : j = i
        · subst hji; exact Or.inr b
        · exact Or.inl ⟨j, by omega, b⟩
  have hR := hmr ops.size (Nat.le_refl _)
  have hW := hmw ops.size (Nat.le_refl _)
  rw [eN] at hR hW
  unfold drawOk at hdk
  simp only [Bool.and_eq_true] at hdk
  obtain ⟨hedge, hdt⟩ := hdk
  rw [dl_ops ops _ default] at hdt
  have hdh : drawn (bef ops) ops.size (dl (fun i => (r i, w i)) ops.size) = true := by rw [← hdl ops.size (Nat.le_refl _), eN]; exact hdr
  intro k W a Q id hf H hnew hk
  have hle : (st 0).f.m ≤ 256 := by rw [e0]; exact hf.le
  have nn0 : ∀ i, (st 0).n ≤ i → hget (st 0).h i = none := by rw [e0]; exact nn
  refine wp_region_any hmo ?_
  refine wpAny_inv (fun listed a' W' => listed.size = ops.size ∧ ∃ k', Iv ops st w (fun i => tb s'.r i ∨ tb s'.w i) (fun i => tb s'.w i) k { W with drawn := W.drawn + 1 } listed a' W' k') hedge ?_ ?_ _ _ _ _ ?_ ⟨by simp, k, ?_⟩
  · rintro listed a' W' i o ⟨hsz, k', I⟩ ho hu hall
    refine wpOp_step ho fun K hK => ?_
    refine I.step D nn0 hle hdh hdt (fun j hj m hm => Or.inl ((hR m).2 ⟨j, hj, hm⟩)) (fun j hj m hm => Or.inr ((hW m).2 ⟨j, hj, hm⟩)) (fun j hj m hm => (hW m).2 ⟨j, hj, hm⟩) hsz ho hu hall Q K (fun a2 W2 k2 I2 => hK _ _ ⟨by simpa using hsz, k2, I2⟩)
  · rintro listed a' W' ⟨hsz, k', I⟩ hall
    have hc : ∀ wr : Nat → Prop, Cn ops.size (fun j => listed.getD j false = true) wr ops.size := fun wr j hj _ => ⟨fun _ => hj, fun _ => by
      have := hall j hj
      have h2 : j < listed.size := by omega
      simpa [h2] using this⟩
    have hfr := fun t => I.fr t ops.size (Nat.le_refl _) (hc _)
    have hhp := fun i hi => I.hp i ops.size (Nat.le_refl _) hi (hc _)
    rw [eN] at hfr hhp
    refine hk k' W' a' ⟨I.ext, ?_, ⟨fun i hi => hhp i (tb_or.1 hi), fun i j hi hj li lj hne => ?_⟩, ?_, ?_, I.size, I.os, ⟨I.tape.1, Nat.le_trans (Nat.le_succ _) I.tape.2⟩, I.output, I.fz⟩ ⟨?_, ?_, hfr, I.df⟩
    · have := I.dom; rw [e0, eN] at this; exact this
    · exact I.inj i j ops.size ops.size (Nat.le_refl _) (Nat.le_refl _) (tb_or.1 hi) (tb_or.1 hj) (hc _) (hc _) (by rw [eN]; exact li) (by rw [eN]; exact lj) hne
    · have := I.frm; rw [e0] at this; exact this
    · intro i b z h1 h2 h3 h4
      by_cases hwi : tb s'.w i
      · rcases I.fresh i ops.size b z (Nat.le_refl _) (Or.inr hwi) (hc _) (by rw [e0]; exact h1) (by rw [eN]; exact h2) (by rw [eN]; exact h3) h4 with h | ⟨j, z', a1, a2, a3, a4, a5⟩
        · exact Or.inl h
        · rw [e0] at a2 a3
          refine Or.inr ⟨j, z', a1, a2, a3, ?_, a5⟩
          have := a4 ops.size (Nat.le_refl _) (hc _)
          rw [eN] at this; exact this
      · obtain ⟨cs, h3⟩ := h3
        rw [ss'.same i hwi, nn i h1] at h3
        cases h3
    · have := st_m D ops.size (Nat.le_refl _)
      rw [eN, e0] at this
      rw [this, ← e0]; exact I.m
    · have := st_m D ops.size (Nat.le_refl _)
      rw [eN, e0] at this
      rw [this]; exact hf.le
  · simp
  · have hz : ∀ j, ¬ (Array.replicate ops.size false).getD j false = true := fun j => by
      rcases Nat.lt_or_ge j ops.size with h | h <;> simp [h]
    have hcn : ∀ wr c, c ≤ ops.size → Cn ops.size (fun j => (Array.replicate ops.size false).getD j false = true) wr c → ∀ j, 0 ≤ j → j < c → ¬ wr j := fun wr c hc h j _ hj hw => hz j ((h j (by omega) hw).2 hj)
    have hh : ∀ i c, c ≤ ops.size → Cn ops.size (fun j => (Array.replicate ops.size false).getD j false = true) (fun j => tb (w j) i) c → hget (st c).h i = hget s.h i := fun i c hc h => by
      rw [st_h D (Nat.zero_le c) hc (hcn _ c hc h), e0]
    -- what is written and was there was read
    have hrd : ∀ i c, c ≤ ops.size → (tb s'.r i ∨ tb s'.w i) → live s.h i → tb s'.r i := fun i c _ h hl => by
      rcases h with h | h
      · exact h
      · refine ss'.old i h ?_
        rcases Nat.lt_or_ge i s.n with h' | h'
        · exact h'
        · exact absurd hl (not_live (nn i h'))
    refine ⟨fun j o _ h => absurd h (hz j), by rw [e0]; exact hf.m, hf.df, fun t c hc h => ?_, fun i c hc hi h cs hcs => ?_, fun i i' c c' hc hc' hi hi' h h' hl hl' hne => ?_, fun _ _ h => h, fun _ _ => rfl, fun j hj _ i h1 h2 => ?_, fun _ _ _ => rfl, fun i c b z hc hi h h1 h2 hl => ?_, Nat.le_refl _, rfl, ⟨rfl, Nat.le_refl _⟩, rfl, fun _ => rfl⟩
    · rw [st_f D hle (Nat.zero_le c) hc (hcn _ c hc h), e0]; exact hf.get t
    · rw [hh i c hc h] at hcs
      exact H.rep i (hrd i c hc hi ⟨cs, hcs⟩) cs hcs
    · obtain ⟨cs, hl⟩ := hl
      obtain ⟨cs', hl'⟩ := hl'
      rw [hh i c hc h] at hl
      rw [hh i' c' hc' h'] at hl'
      exact H.inj i i' (hrd i c hc hi ⟨cs, hl⟩) (hrd i' c' hc' hi' ⟨cs', hl'⟩) ⟨cs, hl⟩ ⟨cs', hl'⟩ hne
    · have a1 := st_n D (Nat.zero_le j) (by omega)
      have a2 := st_n D (show j + 1 ≤ ops.size by omega) (Nat.le_refl _)
      rw [e0] at a1; rw [eN] at a2
      exact hnew i (by omega) (by omega)
    · obtain ⟨cs, hl⟩ := hl
      rw [hh i c hc h, nn i (by rw [e0] at h1; exact h1)] at hl
      cases hl
end
end E
end Go.Proofs.YtfmfeipeeedfpaaGreat
namespace Go.Proofs.YtfmfeipeeedfpaaGreat
namespace E
open Go.CheckFast (force force_eq)
theorem beqL_some {a b : ByteArray} (h : beqL a.data.toList b.data.toList = true) : a = b := by
  rw [beqL_eq] at h
  apply ByteArray.ext
  apply Array.ext'
  simpa using h
theorem aeq_eq {v u : Value} (h : aeq v u = true) : v = u := by
  unfold aeq at h
  split at h <;> (try split at h) <;> first
    | (cases h; done)
    | rfl
    | (simp only [Bool.and_eq_true, Nat.beq_eq] at h; obtain ⟨h1, h2⟩ := h; subst h1; subst h2; rfl)
    | (simp only [Bool.and_eq_true, Nat.beq_eq] at h; obtain ⟨⟨⟨h1, h2⟩, h3⟩, h4⟩ := h; subst h1; subst h2; subst h3; subst h4; rfl)
    | (rw [beqL_some h])
    | (simp only [Bool.and_eq_true, keq, decide_eq_true_eq] at h; obtain ⟨h1, h2⟩ := h; rw [ieq_eq] at h2; rw [h1, eq_of_beq h2])
    | (rw [eq_of_beq h])
theorem leq_eq : ∀ {l m : List Value}, leq l m = true → l = m
  | [], [], _ => rfl
  | [], _ :: _, h => by cases h
  | _ :: _, [], h => by cases h
  | v :: x, u :: y, h => by
    simp only [leq] at h
    cases ha : aeq v u with
    | false => rw [ha] at h; cases h
    | true => rw [ha] at h; rw [aeq_eq ha, leq_eq h]
theorem veq1_eq {v u : Value} (h : veq1 v u = true) : v = u := by
  unfold veq1 at h
  split at h
  · split at h
    · congr 1; exact Array.ext' (leq_eq h)
    · cases h
  · exact aeq_eq h
theorem leq1_eq : ∀ {l m : List Value}, leq1 l m = true → l = m
  | [], [], _ => rfl
  | [], _ :: _, h => by cases h
  | _ :: _, [], h => by cases h
  | v :: x, u :: y, h => by
    simp only [leq1] at h
    cases ha : veq1 v u with
    | false => rw [ha] at h; cases h
    | true => rw [ha] at h; rw [veq1_eq ha, leq1_eq h]
theorem veq2_eq {v u : Value} (h : veq2 v u = true) : v = u := by
  unfold veq2 at h
  split at h
  · split at h
    · congr 1; exact Array.ext' (leq1_eq h)
    · cases h
  · exact veq1_eq h
/-! Other numbers for blocks. -/
section
variable {k k' : K} {g : Nat → Nat}
theorem r0 (hg : ∀ i p, k (g i) = some p → k' i = some p) {v u : Value} (ha : at0 v = true) (h : VX k (s0 g v) u) : VX k' v u := by
  cases v with
  | pointer a => cases a with
    | none => exact VX.of0 (h.v0 trivial)
    | some a => obtain ⟨h1, b, z, h2, h3⟩ := h.ptr_inv; exact VX.of0 ⟨h1, b, z, hg _ _ h2, h3⟩
  | slice a n c => cases a with
    | none => exact VX.of0 h.nilslc_inv
    | some a => obtain ⟨h1, b, z, c, h2, h3⟩ := h.slc_inv; exact VX.of0 ⟨h1, b, z, c, hg _ _ h2, h3⟩
  | agg _ => cases ha
  | tuple _ => cases ha
  | func _ _ _ => cases ha
  | iface _ _ => cases ha
  | chan _ => cases ha
  | map _ => cases ha
  | _ => exact VX.of0 (h.v0 trivial)
theorem rL (hg : ∀ i p, k (g i) = some p → k' i = some p) : ∀ {l m : List Value}, l.all at0 = true → LR (VX k) (sL g l) m → LR (VX k') l m
  | [], _, _, h => h
  | v :: l, _, ha, ⟨y, ys, e, h1, h2⟩ => by
    simp only [List.all_cons, Bool.and_eq_true] at ha
    exact ⟨y, ys, e, r0 hg ha.1 h1, rL hg ha.2 h2⟩
theorem r1 (hg : ∀ i p, k (g i) = some p → k' i = some p) {v u : Value} (ha : at1 v = true) (h : VX k (s1 g v) u) : VX k' v u := by
  cases v with
  | agg cs =>
    obtain ⟨us, e, h1⟩ := h.agg_inv
    rw [e]
    have := VX.agg (rL hg ha (by simpa using h1))
    simpa using this
  | _ => exact r0 hg ha h
theorem rM (hg : ∀ i p, k (g i) = some p → k' i = some p) : ∀ {l m : List Value}, l.all at1 = true → LR (VX k) (sM g l) m → LR (VX k') l m
  | [], _, _, h => h
  | v :: l, _, ha, ⟨y, ys, e, h1, h2⟩ => by
    simp only [List.all_cons, Bool.and_eq_true] at ha
    exact ⟨y, ys, e, r1 hg ha.1 h1, rM hg ha.2 h2⟩
theorem r2 (hg : ∀ i p, k (g i) = some p → k' i = some p) {v u : Value} (ha : at2 v = true) (h : VX k (s2 g v) u) : VX k' v u := by
  cases v with
  | tuple cs =>
    obtain ⟨us, e, h1⟩ := h.tuple_inv
    rw [e]
    have := VX.tuple (rM hg ha (by simpa using h1))
    simpa using this
  | _ => exact r1 hg ha h
theorem t0 (hg : ∀ i p, k' i = some p → k (g i) = some p) {v u : Value} (ha : at0 v = true) (h : VX k' v u) : VX k (s0 g v) u := by
  cases v with
  | pointer a => cases a with
    | none => exact VX.of0 (h.v0 trivial)
    | some a => obtain ⟨h1, b, z, h2, h3⟩ := h.ptr_inv; exact VX.of0 ⟨h1, b, z, hg _ _ h2, h3⟩
  | slice a n c => cases a with
    | none => exact VX.of0 h.nilslc_inv
    | some a => obtain ⟨h1, b, z, c, h2, h3⟩ := h.slc_inv; exact VX.of0 ⟨h1, b, z, c, hg _ _ h2, h3⟩
  | agg _ => cases ha
  | tuple _ => cases ha
  | func _ _ _ => cases ha
  | iface _ _ => cases ha
  | chan _ => cases ha
  | map _ => cases ha
  | _ => exact VX.of0 (h.v0 trivial)
theorem tL (hg : ∀ i p, k' i = some p → k (g i) = some p) : ∀ {l m : List Value}, l.all at0 = true → LR (VX k') l m → LR (VX k) (sL g l) m
  | [], _, _, h => h
  | v :: l, _, ha, ⟨y, ys, e, h1, h2⟩ => by
    simp only [List.all_cons, Bool.and_eq_true] at ha
    exact ⟨y, ys, e, t0 hg ha.1 h1, tL hg ha.2 h2⟩
theorem t1 (hg : ∀ i p, k' i = some p → k (g i) = some p) {v u : Value} (ha : at1 v = true) (h : VX k' v u) : VX k (s1 g v) u := by
  cases v with
  | agg cs =>
    obtain ⟨us, e, h1⟩ := h.agg_inv
    rw [e]
    exact VX.agg (tL hg ha h1)
  | _ => have hh := fun p => t0 hg p h; exact hh ha
theorem tM (hg : ∀ i p, k' i = some p → k (g i) = some p) : ∀ {l m : List Value}, l.all at1 = true → LR (VX k') l m → LR (VX k) (sM g l) m
  | [], _, _, h => h
  | v :: l, _, ha, ⟨y, ys, e, h1, h2⟩ => by
    simp only [List.all_cons, Bool.and_eq_true] at ha
    exact ⟨y, ys, e, t1 hg ha.1 h1, tM hg ha.2 h2⟩
theorem t2 (hg : ∀ i p, k' i = some p → k (g i) = some p) {v u : Value} (ha : at2 v = true) (h : VX k' v u) : VX k (s2 g v) u := by
  cases v with
  | tuple cs =>
    obtain ⟨us, e, h1⟩ := h.tuple_inv
    rw [e]
    exact VX.tuple (tM hg ha h1)
  | _ => have hh := fun p => t1 hg p h; exact hh ha
end
/-- An entry tells what each such call does. -/
structure EnOk (P : Program) (e : En) : Prop where
  wv : at2 e.v = true
  wb : ∀ b ∈ e.bs, b.all at0 = true
  wa : e.args.all flat1 = true
  enter : ∀ args w, (callFunc e.f args).run P w = .ok (.enter e.f args) w
  ok : ∀ W, Calls P e.f e.args.toArray W fun r W' => ∃ u k', r = .returned u ∧ VX k' e.v u ∧ (∀ i, e.bs.length ≤ i → k' i = none) ∧
    (∀ i cs, e.bs[i]? = some cs → RB k' W' i cs ∧ ∀ b z, k' i = some (b, z) → W.heap.size ≤ b) ∧
    (∀ i j b z b' z', i ≠ j → k' i = some (b, z) → k' j = some (b', z') → b ≠ b') ∧ (∀ b, b < W.heap.size → W'.heap[b]? = W.heap[b]?) ∧ W.heap.size ≤ W'.heap.size ∧ W'.os = W.os ∧ Tp W' W ∧ W'.output = W.output ∧ ∀ a, W'.frozen? a = W.frozen? a
theorem tb_bits : ∀ {m n i : Nat}, tb (bits n m) i ↔ n ≤ i ∧ i < n + m
  | 0, n, i => by simp only [bits]; exact ⟨fun h => absurd h tb_zero, fun h => by omega⟩
  | m + 1, n, i => by
    simp only [bits, tb_or, tb_bit, tb_bits (m := m)]
    omega
theorem lays_get {n : Nat} : ∀ (l : List (List Value)) (i : Nat) (h : HT) (j : Nat), i + l.length ≤ 4096 → hget (lays n l i h) j = if i ≤ j ∧ j < i + l.length then (l[j - i]?).map (sL (Nat.add n)) else hget h j
  | [], i, h, j, _ => by rw [lays, if_neg (by simp only [List.length_nil]; omega)]
  | b :: l, i, h, j, hl => by
    simp only [List.length_cons] at hl ⊢
    rw [lays, lays_get l (Nat.succ i) _ j (by omega)]
    by_cases e : i = j
    · subst e
      rw [if_neg (by omega), if_pos (by omega), hget_same _ (by omega)]
      simp
    · rw [hget_ne _ (by omega) e]
      by_cases h1 : i ≤ j ∧ j < i + (l.length + 1)
      · rw [if_pos (by omega), if_pos h1, show j - i = (j - Nat.succ i) + 1 by omega, List.getElem?_cons_succ]
      · rw [if_neg (by omega), if_neg h1]
theorem find_some {f : Nat} {args : List Value} : ∀ {l : List En} {e : En}, find f args l = some e → e ∈ l ∧ f = e.f ∧ args = e.args
  | [], _, h => by cases h
  | x :: l, e, h => by
    simp only [find] at h
    cases hc : (Nat.beq f x.f && leq args x.args) with
    | false =>
      rw [hc] at h
      obtain ⟨h1, h2⟩ := find_some (l := l) h
      exact ⟨by simp [h1], h2⟩
    | true =>
      rw [hc] at h
      cases h
      simp only [Bool.and_eq_true, Nat.beq_eq] at hc
      exact ⟨by simp, hc.1, leq_eq hc.2⟩
theorem known_ok {P : Program} {e : En} (he : EnOk P e) {h : HT} {n : Nat} {x : R5} (hx : known e h n = some x) : Ss h n x.h x.n x.r x.w ∧ (∀ args w, (callFunc e.f args).run P w = .ok (.enter e.f args) w) ∧
    ∀ (k : K) (W : World) (us : List Value), LR (VX k) e.args us → HR k h W x.r → (∀ i, n ≤ i → i < x.n → k i = none) → Calls P e.f us.toArray W fun r W' => ∃ u k', r = .returned u ∧ Sd h n x.h x.n x.r x.w k W k' W' ∧ VX k' x.v u := by
  obtain ⟨hle, hx⟩ := bif_some hx
  rw [Nat.ble_eq] at hle
  cases hx
  have hg := fun j => lays_get (n := n) e.bs n h j hle
  refine ⟨⟨Nat.le_add_right _ _, fun nn i hi => ?_, fun i hi => ?_, fun i hi hn => ?_, fun i hi => (tb_bits.1 hi).2, fun i hi ⟨cs, hl⟩ => ?_⟩, he.enter, fun k W us hus H hnew => ?_⟩
  · have hi' : n + e.bs.length ≤ i := hi
    rw [hg, if_neg (by omega)]; exact nn i (by omega)
  · rw [hg, if_neg (fun h => hi (tb_bits.2 h))]
  · have := (tb_bits.1 hi).1; omega
  · rw [hg, if_neg (by omega)] at hl; exact ⟨cs, hl⟩
  · have hue := flatL_eq hus he.wa
    subst hue
    refine (he.ok W).mono ?_
    rintro r W' ⟨u, k', rfl, a1, a2, a3, a4, a5, a6, a7, a8, a9, a10⟩
    let k2 : K := fun i => if n ≤ i ∧ i < n + e.bs.length then k' (i - n) else k i
    have hin : ∀ i, n ≤ i → i < n + e.bs.length → k2 i = k' (i - n) := fun i h1 h2 => if_pos ⟨h1, h2⟩
    have hout : ∀ i, ¬ (n ≤ i ∧ i < n + e.bs.length) → k2 i = k i := fun i h => if_neg h
    have hk2 : ∀ i p, k' i = some p → k2 (Nat.add n i) = some p := fun i p hp => by
      have hi : i < e.bs.length := by
        rcases Nat.lt_or_ge i e.bs.length with h' | h'
        · exact h'
        · rw [a2 i h'] at hp; cases hp
      show k2 (n + i) = some p
      rw [hin (n + i) (by omega) (by omega), show n + i - n = i by omega]; exact hp
    refine ⟨u, k2, rfl, ⟨fun i p hp => ?_, fun i hi => hout i (by simp only at hi; omega), ⟨fun i hi cs hcs => ?_, fun i j hi hj _ _ hne b z b' z' hb hb' => ?_⟩, fun b hb _ => a5 b hb, fun i b z h1 h2 _ hk => Or.inl ?_, a6, a7, a8, a9, a10⟩, t2 hk2 he.wv a1⟩
    · rw [hout i (fun h => by rw [hnew i h.1 h.2] at hp; cases hp)]; exact hp
    · have hi' := tb_bits.1 ((tb_or.1 hi).resolve_left tb_zero)
      rw [hg, if_pos hi'] at hcs
      cases hb : e.bs[i - n]? with
      | none => rw [hb] at hcs; cases hcs
      | some c =>
        rw [hb] at hcs
        cases hcs
        exact (a3 (i - n) c hb).1.mono (fun p hp => by rw [hin i hi'.1 hi'.2]; exact hp) (fun _ _ _ _ => rfl) (fun us => tL hk2 (he.wb c (List.mem_of_getElem? hb)))
    · have hi' := tb_bits.1 ((tb_or.1 hi).resolve_left tb_zero)
      have hj' := tb_bits.1 ((tb_or.1 hj).resolve_left tb_zero)
      rw [hin i hi'.1 hi'.2] at hb
      rw [hin j hj'.1 hj'.2] at hb'
      exact a4 (i - n) (j - n) b z b' z' (by omega) hb hb'
    · rw [hin i h1 h2] at hk
      cases hb : e.bs[i - n]? with
      | none => rw [a2 (i - n) (by rw [List.getElem?_eq_none_iff] at hb; exact hb)] at hk; cases hk
      | some c =>
        exact (a3 (i - n) c hb).2 _ _ hk
end E
end Go.Proofs.YtfmfeipeeedfpaaGreat
namespace Go.Proofs.YtfmfeipeeedfpaaGreat
namespace E
open Go.CheckFast (force force_eq)
section
variable {P : Program}
/-- What is said of code. -/
def Rn (P : Program) (rn : Code → FT → HT → Nat → Option RC) : Prop := ∀ c f h n x, (∀ i, n ≤ i → hget h i = none) → rn c f h n = some x → Ss h n x.h x.n x.r x.w ∧
  ∀ (k : K) (W : World) (a : Act) (Q : Exit → Act → World → Prop), FR k f a → HR k h W x.r → (∀ i, n ≤ i → i < x.n → k i = none) → (∀ k' W' a', Sd h n x.h x.n x.r x.w k W k' W' → FR k' x.f a' → Q x.e a' W') → c.wp P Q a W
theorem args_m : ∀ (l : List Value) (f : FT) (i : Nat), (args' f i l).m = f.m
  | [], _, _ => rfl
  | v :: l, f, i => by rw [args', args_m l, fput_m]
theorem args_get : ∀ (l : List Value) (f : FT) (i t : Nat), f.m ≤ 256 → i + l.length ≤ f.m → fget (args' f i l) t = if i ≤ t then (l[t - i]?).getD (fget f t) else fget f t
  | [], f, i, t, _, _ => by simp [args']
  | v :: l, f, i, t, hm, hl => by
    simp only [List.length_cons] at hl
    rw [args', args_get l (fput f i v) (i + 1) t (by rw [fput_m]; exact hm) (by rw [fput_m]; omega)]
    by_cases e : i = t
    · subst e
      rw [if_neg (by omega), if_pos (Nat.le_refl _), fget_same v hm (by omega)]
      simp
    · rw [fget_ne v hm e]
      by_cases h : i ≤ t
      · rw [if_pos (by omega), if_pos h, show t - i = (t - (i + 1)) + 1 by omega, List.getElem?_cons_succ]
      · rw [if_neg (by omega), if_neg h]
theorem LR.get' {R : Value → Value → Prop} : ∀ {l m : List Value} (i : Nat) (d : Value), LR R l m → R d d → R ((l[i]?).getD d) ((m[i]?).getD d)
  | [], _, i, d, e, h => by rw [e]; simpa using h
  | x :: xs, _, 0, d, ⟨y, ys, e, r, _⟩, h => by rw [e]; simpa using r
  | x :: xs, _, i + 1, d, ⟨y, ys, e, _, q⟩, h => by rw [e]; simpa using q.get' i d h
theorem args_fr {k : K} {vs us : List Value} {m : Nat} (h : LR (VX k) vs us) (hm : m ≤ 256) (hl : vs.length ≤ m) : FR k (args' ⟨m, fe5, fe8⟩ 0 vs) { tmps := us.toArray ++ Array.replicate (m - us.toArray.size) undef, defers := [] } := by
  have hlen := h.len
  refine ⟨by rw [args_m]; simp; omega, by rw [args_m]; exact hm, fun t => ?_, rfl⟩
  rw [args_get vs _ 0 t hm (by simpa using hl), if_pos (Nat.zero_le _), fget_new, Nat.sub_zero]
  have : (us.toArray ++ Array.replicate (m - us.toArray.size) undef).getD t undef = (us[t]?).getD undef := by
    rw [Array.getD_eq_getD_getElem?]
    by_cases ht : t < us.length
    · rw [Array.getElem?_append_left (by simpa using ht)]; simp
    · rw [Array.getElem?_append_right (by simpa using ht)]
      rw [List.getElem?_eq_none (by omega)]
      by_cases h2 : t - us.toArray.size < m - us.toArray.size
      · rw [Array.getElem?_replicate, if_pos h2]; rfl
      · rw [Array.getElem?_replicate, if_neg h2]
  rw [this]
  exact h.get' t undef undef_vx
def resF (tmps : Array Value) (x : ResultVar) : Sem Value := match x with
  | .tmp t => pure (tmps.getD t undef)
  | .cell b t => do loadVar t (← asAddr (tmps.getD b undef))
theorem res_ok {k : K} {f : FT} {a : Act} {h : HT} {W : World} (hf : FR k f a) : ∀ (l : List ResultVar) (y : List Value × Nat), res P f h l = some y → HR k h W y.2 →
    ∃ us, LR (VX k) y.1 us ∧ (l.mapM (resF a.tmps)).run P W = .ok us W
  | [], y, e, _ => by cases e; exact ⟨[], rfl, rfl⟩
  | x :: l, y, e, H => by
    simp only [res] at e
    obtain ⟨y', h1, e⟩ := bind_some e
    cases x with
    | tmp t =>
      cases e
      obtain ⟨us, h2, h3⟩ := res_ok hf l y' h1 H
      exact ⟨_, ⟨_, us, rfl, hf.get t, h2⟩, by rw [List.mapM_cons]; simp only [resF, Sem.run_bind, Sem.run_pure, Result.andThen_ok, h3]⟩
    | cell b t =>
      obtain ⟨z, h4, e⟩ := bind_some e
      cases e
      obtain ⟨us, h2, h3⟩ := res_ok hf l y' h1 (H.sub fun i hi => tb_or.2 (Or.inl hi))
      obtain ⟨p, q, hv, h5⟩ := onP_some h4
      obtain ⟨_, _, hr, _, h6⟩ := ld_ok h5
      have h7 := hf.get b
      have hv' : fget f b = .pointer (some ⟨p, q, none⟩) := hv
      rw [hv'] at h7
      obtain ⟨_, b', zz, hk, h8⟩ := h7.ptr_inv
      obtain ⟨u, h9, h10⟩ := h6 k W b' zz (H.sub fun i hi => tb_or.2 (Or.inr (by rw [hr]; exact hi))) hk
      refine ⟨u :: us, ⟨u, us, rfl, h9, h2⟩, ?_⟩
      rw [List.mapM_cons]
      simp only [resF, Sem.run_bind, Sem.run_pure, Result.andThen_ok, h8, asAddr, h10, h3]
theorem results_run {k : K} {f : FT} {a : Act} {h : HT} {W : World} {fn : Func} (hf : FR k f a) {y : List Value × Nat} (e : res P f h fn.results.toList = some y) (H : HR k h W y.2) : ∃ u, VX k (single y.1) u ∧ (results fn a.tmps).run P W = .ok u W := by
  obtain ⟨us, h1, h2⟩ := res_ok (P := P) hf _ y e H
  refine ⟨if us.length = 1 then us.headD undef else .tuple us.toArray, ?_, ?_⟩
  · obtain ⟨vs, m⟩ := y
    simp only at h1 ⊢
    cases vs with
    | nil => rw [h1]; exact VX.tuple (cs := []) (us := []) rfl
    | cons v vs =>
      obtain ⟨u, us', rfl, r1, r2⟩ := h1
      cases vs with
      | nil => rw [r2]; exact r1
      | cons v' vs' =>
        have hl := r2.len
        rw [if_neg (by intro h0; simp only [List.length_cons] at h0 hl; omega)]
        exact VX.tuple ⟨u, us', rfl, r1, r2⟩
  · have e1 : results fn a.tmps = (do
        let vs ← fn.results.mapM (resF a.tmps)
        pure (if h : vs.size = 1 then vs[0] else .tuple vs)) := rfl
    rw [e1, Array.mapM_eq_mapM_toList]
    simp only [map_eq_pure_bind, Sem.run_bind, h2, Result.andThen_ok, Sem.run_pure]
    congr 1
    by_cases hl : us.length = 1
    · rw [if_pos hl, dif_pos (by simpa using hl)]
      cases us with
      | nil => cases hl
      | cons u us => simp
    · rw [if_neg hl, dif_neg (by simpa using hl)]
theorem call0_ok {rn : Code → FT → HT → Nat → Option RC} (hrn : Rn P rn) {f : Nat} {vs : List Value} {h : HT} {n : Nat} {x : R5} (nn : ∀ i, n ≤ i → hget h i = none) (e : call0 P rn f vs h n = some x) : Ss h n x.h x.n x.r x.w ∧ (∀ args w, (callFunc f args).run P w = .ok (.enter f args) w) ∧
    ∀ (k : K) (W : World) (us : List Value), LR (VX k) vs us → HR k h W x.r → (∀ i, n ≤ i → i < x.n → k i = none) → Calls P f us.toArray W fun e W' => ∃ u k', e = .returned u ∧ Sd h n x.h x.n x.r x.w k W k' W' ∧ VX k' x.v u := by
  unfold call0 at e
  split at e
  · rename_i fn hfn
    split at e
    · rename_i c hc
      obtain ⟨hok, e⟩ := bif_some e
      unfold fnok at hok
      simp only [Bool.and_eq_true, Nat.ble_eq, Bool.not_eq_true'] at hok
      obtain ⟨⟨o1, o2⟩, o3⟩ := hok
      unfold callB at e
      obtain ⟨y, hy, e⟩ := bind_some e
      obtain ⟨z, hz, e⟩ := bind_some e
      obtain ⟨he, e⟩ := bif_some e
      cases e
      obtain ⟨ss, ok⟩ := hrn _ _ _ _ _ nn hy
      have ssr : Ss h n y.h y.n (Nat.lor y.r z.2) y.w := (ss.trans (Ss.read y.h y.n z.2)).congr (fun _ => Iff.rfl) (fun i => ⟨fun h => (tb_or.1 h).resolve_right tb_zero, fun h => tb_or.2 (Or.inl h)⟩)
      refine ⟨ssr, fun args w => ?_, fun k W us hvs H hnew => ?_⟩
      · have hb : fn.body.isNone = false := by rw [hc]; rfl
        simp only [callFunc, Sem.run_bind, program, Sem.run, Result.andThen_ok, hfn]
        rw [if_neg (by rw [o3]; simp), hb]
        simp
      · refine calls_of_wp hfn hc ?_
        refine ok k W _ _ (args_fr hvs o2 o1) (H.sub fun i hi => tb_or.2 (Or.inl hi)) hnew (fun k' W' a' hd hf => ?_)
        have H2 := Sd.next ss hd nn H
        have H3 : HR k' y.h W' z.2 := H2.sub fun i hi => tb_or.2 (Or.inr hi)
        obtain ⟨u, h1, h2⟩ := results_run hf hz H3
        have hd' : Sd h n y.h y.n (Nat.lor y.r z.2) y.w k W k' W' := (Sd.trans ss hd (Ss.read y.h y.n z.2) (Sd.read H3) nn H).congr (fun _ => Iff.rfl) (fun i => ⟨fun h => (tb_or.1 h).resolve_right tb_zero, fun h => tb_or.2 (Or.inl h)⟩)
        cases hye : y.e with
        | normal => exact ⟨hf.df, u, h2, u, k', rfl, hd', h1⟩
        | ret => exact ⟨hf.df, u, h2, u, k', rfl, hd', h1⟩
        | _ => rw [hye] at he; cases he
    · cases e
  · cases e
structure TbOk (P : Program) (t : Tb) : Prop where
  l : ∀ e ∈ t.l, EnOk P e
  x : ∀ f vs v, t.x f vs = some v → vs.all flat1 = true ∧ (∀ k : K, VX k v v) ∧ ∀ w, (callFunc f vs.toArray).run P w = .ok (.value v) w
theorem call_ok {tb' : Tb} {rn : Code → FT → HT → Nat → Option RC} (ht : TbOk P tb') (hrn : Rn P rn) : Cs P (call P tb' rn) := by
  intro f vs h n x nn e
  unfold call at e
  split at e
  · rename_i v hv
    cases e
    obtain ⟨h1, h2, h3⟩ := ht.x f vs v hv
    exact ⟨Ss.refl h n, fun k W us hus _ _ => Or.inr ⟨v, by rw [flatL_eq hus h1]; exact h3 W, v, k, rfl, Sd.refl h n k W, h2 k⟩⟩
  · split at e
    · rename_i en hfd
      obtain ⟨h1, rfl, rfl⟩ := find_some hfd
      obtain ⟨a1, a2, a3⟩ := known_ok (ht.l en h1) e
      exact ⟨a1, fun k W us hus H hn => Or.inl ⟨a2 _ _, a3 k W us hus H hn⟩⟩
    · obtain ⟨a1, a2, a3⟩ := call0_ok hrn nn e
      exact ⟨a1, fun k W us hus H hn => Or.inl ⟨a2 _ _, a3 k W us hus H hn⟩⟩
/-- One thing behind another. -/
theorem then_ok {f : FT} {h : HT} {n : Nat} {x y z : RC} {a b : Code} (nn : ∀ i, n ≤ i → hget h i = none)
    (sa : Ss h n x.h x.n x.r x.w) (oka : ∀ (k : K) (W : World) (a' : Act) (Q : Exit → Act → World → Prop), FR k f a' → HR k h W x.r → (∀ i, n ≤ i → i < x.n → k i = none) → (∀ k' W' a', Sd h n x.h x.n x.r x.w k W k' W' → FR k' x.f a' → Q x.e a' W') → a.wp P Q a' W)
    (sb : Ss x.h x.n y.h y.n y.r y.w) (hz : z = ⟨y.e, y.f, y.h, y.n, Nat.lor x.r y.r, Nat.lor x.w y.w⟩) (he : x.e = .normal)
    {T : (Exit → Act → World → Prop) → Act → World → Prop} (okb : ∀ (k : K) (W : World) (a' : Act) (Q : Exit → Act → World → Prop), FR k x.f a' → HR k x.h W y.r → (∀ i, x.n ≤ i → i < y.n → k i = none) → (∀ k' W' a', Sd x.h x.n y.h y.n y.r y.w k W k' W' → FR k' y.f a' → Q y.e a' W') → T Q a' W) :
    Ss h n z.h z.n z.r z.w ∧ ∀ (k : K) (W : World) (a' : Act) (Q : Exit → Act → World → Prop), FR k f a' → HR k h W z.r → (∀ i, n ≤ i → i < z.n → k i = none) → (∀ k' W' a', Sd h n z.h z.n z.r z.w k W k' W' → FR k' z.f a' → Q z.e a' W') → a.wp P (Exit.then (T Q) Q) a' W := by
  have _ := b
  subst hz
  refine ⟨sa.trans sb, fun k W a' Q hf H hnew hk => ?_⟩
  refine oka k W a' _ hf (H.sub fun i hi => tb_or.2 (Or.inl hi)) (fun i h1 h2 => hnew i h1 (Nat.lt_of_lt_of_le h2 sb.le)) (fun k1 W1 a1 hd hf1 => ?_)
  rw [he]
  have H2 := Sd.next sa hd nn H
  refine okb k1 W1 a1 Q hf1 (H2.sub fun i hi => tb_or.2 (Or.inr hi)) (fun i h1 h2 => by rw [hd.dom i (Or.inr h1)]; exact hnew i (Nat.le_trans sa.le h1) h2) (fun k2 W2 a2 hd2 hf2 => hk k2 W2 a2 (Sd.trans sa hd sb hd2 nn H) hf2)
theorem thenC_some {x : Option RC} {g : FT → HT → Nat → Option RC} {z : RC} (e : thenC x g = some z) : ∃ y, x = some y ∧ ((y.e ≠ .normal ∧ z = y) ∨ (y.e = .normal ∧ ∃ u, g y.f y.h y.n = some u ∧ z = ⟨u.e, u.f, u.h, u.n, Nat.lor y.r u.r, Nat.lor y.w u.w⟩)) := by
  obtain ⟨y, hy, e⟩ := bind_some e
  refine ⟨y, hy, ?_⟩
  cases he : y.e with
  | normal =>
    rw [he] at e
    obtain ⟨u, hu, e⟩ := bind_some (x := g y.f y.h y.n) e
    rw [force_eq, force_eq] at e
    cases e
    exact Or.inr ⟨rfl, u, hu, rfl⟩
  | _ => rw [he] at e; cases e; exact Or.inl ⟨by simp, rfl⟩
/-- A run of a piece of a scope's code, within the scope. -/
def SW (P : Program) (c d : Code) (Q : Exit → Act → World → Prop) (a : Act) (w : World) : Prop :=
  ∀ (b : Frame) (k : List Item) (cs : List Frame), ∃ e a' w', Q e a' w' ∧ Arrives P (lone (b.at a (.code d :: .inScope c :: k)) cs w) b k cs e a' w'
theorem sw_in {c : Code} {Q : Exit → Act → World → Prop} {a : Act} {w : World} (h : SW P c c Q a w) : (Code.scope c).wp P Q a w := fun b k cs => by
  obtain ⟨e, a', w', hq, harr⟩ := h b k cs
  exact ⟨e, a', w', hq, .of_steps (.one step_scope) harr⟩
/-- As Q, but for a goto to one label. -/
def toL (l : Nat) (J : Act → World → Prop) (Q : Exit → Act → World → Prop) : Exit → Act → World → Prop
  | .goto l', a, w => l' = l ∧ J a w
  | e, a, w => Q e a w
theorem sw_go {c d r : Code} {l : Nat} {Q : Exit → Act → World → Prop} {a : Act} {w : World} (hf : findLabel c l = some r) (h : d.wp P (toL l (SW P c r Q) Q) a w) : SW P c d Q a w := fun b k cs => by
  obtain ⟨e, a₁, w₁, hq, harr⟩ := h b (.inScope c :: k) cs
  cases e with
  | normal => exact ⟨.normal, a₁, w₁, hq, Steps.trans harr (.one step_inScope)⟩
  | exit id => exact ⟨.exit id, a₁, w₁, hq, fun k' hk => harr k' (by simp [exitTo, hk])⟩
  | goto l' =>
    obtain ⟨rfl, hJ⟩ := hq
    obtain ⟨e₂, a₂, w₂, hq₂, harr₂⟩ := hJ b k cs
    exact ⟨e₂, a₂, w₂, hq₂, .of_steps (harr _ (by simp [gotoIn, hf])) harr₂⟩
  | ret => exact ⟨_, a₁, w₁, hq, harr⟩
  | panic ch => exact ⟨_, a₁, w₁, hq, harr⟩
  | outgrown => exact ⟨_, a₁, w₁, hq, harr⟩
def noG (Q : Exit → Act → World → Prop) : Exit → Act → World → Prop
  | .goto _, _, _ => False
  | e, a, w => Q e a w
theorem sw_no {c d : Code} {Q : Exit → Act → World → Prop} {a : Act} {w : World} (h : d.wp P (noG Q) a w) : SW P c d Q a w := fun b k cs => by
  obtain ⟨e, a₁, w₁, hq, harr⟩ := h b (.inScope c :: k) cs
  cases e with
  | normal => exact ⟨.normal, a₁, w₁, hq, Steps.trans harr (.one step_inScope)⟩
  | exit id => exact ⟨.exit id, a₁, w₁, hq, fun k' hk => harr k' (by simp [exitTo, hk])⟩
  | goto l' => exact absurd hq id
  | ret => exact ⟨_, a₁, w₁, hq, harr⟩
  | panic ch => exact ⟨_, a₁, w₁, hq, harr⟩
  | outgrown => exact ⟨_, a₁, w₁, hq, harr⟩
theorem jumps_ok {rn : Code → FT → HT → Nat → Option RC} (hrn : Rn P rn) (c : Code) : ∀ (m : Nat) (d : Code) f h n x, (∀ i, n ≤ i → hget h i = none) → jumps rn c m (rn d f h n) = some x → Ss h n x.h x.n x.r x.w ∧
    ∀ (k : K) (W : World) (a : Act) (Q : Exit → Act → World → Prop), FR k f a → HR k h W x.r → (∀ i, n ≤ i → i < x.n → k i = none) → (∀ k' W' a', Sd h n x.h x.n x.r x.w k W k' W' → FR k' x.f a' → Q x.e a' W') → SW P c d Q a W := by
  intro m
  induction m with
  | zero => intro d f h n x _ e; cases e
  | succ m ih =>
    intro d f h n x nn e
    obtain ⟨y, hy, e⟩ := bind_some (show (rn d f h n).bind _ = some x from e)
    obtain ⟨sa, oka⟩ := hrn _ _ _ _ _ nn hy
    cases hye : y.e with
    | goto l =>
      rw [hye] at e
      have e : (match findLabel c l with
        | some r => orC (jumps rn c m (rn r y.f y.h y.n)) y.r y.w
        | none => none) = some x := e
      cases hfl : findLabel c l with
      | none => rw [hfl] at e; cases e
      | some r =>
        rw [hfl] at e
        obtain ⟨u, hu, e⟩ := bind_some (show (jumps rn c m (rn r y.f y.h y.n)).bind _ = some x from e)
        rw [force_eq, force_eq] at e
        cases e
        obtain ⟨sb, okb⟩ := ih r y.f y.h y.n u (sa.nn nn) hu
        refine ⟨sa.trans sb, fun k W a Q hf H hnew hk => sw_go hfl ?_⟩
        refine oka k W a _ hf (H.sub fun i hi => tb_or.2 (Or.inl hi)) (fun i h1 h2 => hnew i h1 (Nat.lt_of_lt_of_le h2 sb.le)) (fun k1 W1 a1 hd hf1 => ?_)
        rw [hye]
        have H2 := Sd.next sa hd nn H
        exact ⟨rfl, okb k1 W1 a1 Q hf1 (H2.sub fun i hi => tb_or.2 (Or.inr hi)) (fun i h1 h2 => by rw [hd.dom i (Or.inr h1)]; exact hnew i (Nat.le_trans sa.le h1) h2) (fun k2 W2 a2 hd2 hf2 => hk k2 W2 a2 (Sd.trans sa hd sb hd2 nn H) hf2)⟩
    | _ =>
      rw [hye] at e
      cases e
      refine ⟨sa, fun k W a Q hf H hnew hk => sw_no (oka k W a _ hf H hnew fun k' W' a' hd hf' => ?_)⟩
      have := hk k' W' a' hd hf'
      rw [hye] at this ⊢
      exact this
theorem run_ok {tb' : Tb} (ht : TbOk P tb') (hmo : P.follows .mixedOrders = true) : ∀ fuel, Rn P (run P tb' fuel) ∧ ∀ c f h n x, (∀ i, n ≤ i → hget h i = none) → run P tb' fuel (.loop c) f h n = some x → Ss h n x.h x.n x.r x.w ∧
    ∀ (k : K) (W : World) (a : Act) (Q : Exit → Act → World → Prop), FR k f a → HR k h W x.r → (∀ i, n ≤ i → i < x.n → k i = none) → (∀ k' W' a', Sd h n x.h x.n x.r x.w k W k' W' → FR k' x.f a' → Q x.e a' W') → Code.rounds P c Q fuel a W := by
  intro fuel
  induction fuel with
  | zero => exact ⟨fun c f h n x _ e => (by cases e), fun c f h n x _ e => (by cases e)⟩
  | succ fuel ih =>
    obtain ⟨ih1, ih2⟩ := ih
    have lp : ∀ c f h n x, (∀ i, n ≤ i → hget h i = none) → run P tb' (fuel + 1) (.loop c) f h n = some x → Ss h n x.h x.n x.r x.w ∧
        ∀ (k : K) (W : World) (a : Act) (Q : Exit → Act → World → Prop), FR k f a → HR k h W x.r → (∀ i, n ≤ i → i < x.n → k i = none) → (∀ k' W' a', Sd h n x.h x.n x.r x.w k W k' W' → FR k' x.f a' → Q x.e a' W') → Code.rounds P c Q (fuel + 1) a W := by
      intro c f h n x nn e
      obtain ⟨y, hy, e'⟩ := thenC_some (show thenC (run P tb' fuel c f h n) (run P tb' fuel (.loop c)) = some x from e)
      obtain ⟨sa, oka⟩ := ih1 _ _ _ _ _ nn hy
      rcases e' with ⟨he, rfl⟩ | ⟨he, u, hu, hx⟩
      · refine ⟨sa, fun k W a Q hf H hnew hk => ?_⟩
        refine oka k W a _ hf H hnew (fun k' W' a' hd hf' => ?_)
        have := hk k' W' a' hd hf'
        cases hxe : x.e with
        | normal => exact absurd hxe he
        | _ => rw [hxe] at this; exact this
      · obtain ⟨sb, okb⟩ := ih2 _ _ _ _ _ (sa.nn nn) hu
        exact then_ok (b := .skip) nn sa oka sb hx he (T := fun Q => Code.rounds P c Q fuel) okb
    refine ⟨fun c f h n x nn e => ?_, lp⟩
    cases c with
    | skip => cases e; exact ⟨Ss.refl _ _, fun k W a Q hf _ _ hk => wp_skip (hk k W a (Sd.refl _ _ _ _) hf)⟩
    | label l => cases e; exact ⟨Ss.refl _ _, fun k W a Q hf _ _ hk => wp_label (hk k W a (Sd.refl _ _ _ _) hf)⟩
    | ret => cases e; exact ⟨Ss.refl _ _, fun k W a Q hf _ _ hk => wp_ret (hk k W a (Sd.refl _ _ _ _) hf)⟩
    | exit i => cases e; exact ⟨Ss.refl _ _, fun k W a Q hf _ _ hk => wp_exit (hk k W a (Sd.refl _ _ _ _) hf)⟩
    | seq c1 c2 =>
      obtain ⟨y, hy, e'⟩ := thenC_some (show thenC (run P tb' fuel c1 f h n) (run P tb' fuel c2) = some x from e)
      obtain ⟨sa, oka⟩ := ih1 _ _ _ _ _ nn hy
      rcases e' with ⟨he, rfl⟩ | ⟨he, u, hu, hx⟩
      · refine ⟨sa, fun k W a Q hf H hnew hk => wp_seq ?_⟩
        refine oka k W a _ hf H hnew (fun k' W' a' hd hf' => ?_)
        have := hk k' W' a' hd hf'
        cases hxe : x.e with
        | normal => exact absurd hxe he
        | _ => rw [hxe] at this; exact this
      · obtain ⟨sb, okb⟩ := ih1 _ _ _ _ _ (sa.nn nn) hu
        obtain ⟨s1, s2⟩ := then_ok (b := c2) nn sa oka sb hx he (T := fun Q => c2.wp P Q) okb
        exact ⟨s1, fun k W a Q hf H hnew hk => wp_seq (s2 k W a Q hf H hnew hk)⟩
    | cond c c1 c2 =>
      obtain ⟨t, ht, e'⟩ := onB_some (show onB (evo f c) (run P tb' fuel c1 f h n) (run P tb' fuel c2 f h n) = some x from e)
      have hc : ∀ (k : K) (a : Act), FR k f a → a.eval c = .bool t := fun k a hf => by
        have := hf.ev c; rw [ht] at this; exact this.bool_inv
      cases t with
      | true =>
        obtain ⟨sa, oka⟩ := ih1 _ _ _ _ _ nn e'
        exact ⟨sa, fun k W a Q hf H hnew hk => wp_cond_true (hc k a hf) (oka k W a Q hf H hnew hk)⟩
      | false =>
        obtain ⟨sa, oka⟩ := ih1 _ _ _ _ _ nn e'
        exact ⟨sa, fun k W a Q hf H hnew hk => wp_cond_false (hc k a hf) (oka k W a Q hf H hnew hk)⟩
    | block id c =>
      obtain ⟨y, hy, e'⟩ := bind_some (show (run P tb' fuel c f h n).bind (fun x => some ⟨outE id x.e, x.f, x.h, x.n, x.r, x.w⟩) = some x from e)
      cases e'
      obtain ⟨sa, oka⟩ := ih1 _ _ _ _ _ nn hy
      refine ⟨sa, fun k W a Q hf H hnew hk => wp_block (oka k W a _ hf H hnew fun k' W' a' hd hf' => ?_)⟩
      have := hk k' W' a' hd hf'
      cases hye : y.e with
      | exit i =>
        rw [hye] at this
        show if i = id then Q .normal a' W' else Q (.exit i) a' W'
        by_cases hid : i = id
        · have hb : Nat.beq i id = true := by rw [Nat.beq_eq]; exact hid
          simp only [outE, hb, cond_true] at this
          rw [if_pos hid]; exact this
        · have hb : Nat.beq i id = false := by rw [← Bool.not_eq_true, Nat.beq_eq]; exact hid
          simp only [outE, hb, cond_false] at this
          rw [if_neg hid]; exact this
      | _ => rw [hye] at this; exact this
    | loop c =>
      obtain ⟨s1, s2⟩ := lp c f h n x nn e
      exact ⟨s1, fun k W a Q hf H hnew hk => wp_loop_rounds (fuel + 1) (s2 k W a Q hf H hnew hk)⟩
    | region id ops draw =>
      obtain ⟨s, hs, e'⟩ := bind_some (show (opsL P (call P tb' (run P tb' fuel)) ops ops.toList ⟨f, h, n, 0, 0, []⟩).bind (fun s => bif !draw || (drawOk ops && drawn (bef ops) ops.size s.l) then some ⟨.normal, s.f, s.h, s.n, s.r, s.w⟩ else none) = some x from e)
      obtain ⟨hd, e'⟩ := bif_some e'
      cases e'
      have hcf := call_ok ht ih1
      cases draw with
      | false =>
        obtain ⟨r, w, h1, h2, ss, ok⟩ := list_ok hcf _ _ _ nn hs
        have hr : ∀ i, tb r i ↔ tb s.r i := fun i => by rw [h1]; exact ⟨Or.inr, fun h => h.resolve_left tb_zero⟩
        have hw : ∀ i, tb w i ↔ tb s.w i := fun i => by rw [h2]; exact ⟨Or.inr, fun h => h.resolve_left tb_zero⟩
        refine ⟨ss.congr hr hw, fun k W a Q hf H hnew hk => wp_region_list (ok k W a Q hf (H.sub fun i hi => (hr i).1 hi) hnew fun k' W' a' hd' hf' => hk k' W' a' (hd'.congr hr hw) hf')⟩
      | true =>
        simp only [Bool.not_true, Bool.false_or, Bool.and_eq_true] at hd
        obtain ⟨s1, s2⟩ := draw_ok hcf hmo nn rfl rfl rfl hs hd.1 hd.2
        exact ⟨s1, fun k W a Q hf H hnew hk => s2 k W a Q id hf H hnew hk⟩
    | rangeFunc _ _ _ _ => cases e
    | scope c =>
      obtain ⟨s1, s2⟩ := jumps_ok ih1 c 100000 c f h n x nn (show jumps (run P tb' fuel) c 100000 (run P tb' fuel c f h n) = some x from e)
      exact ⟨s1, fun k W a Q hf H hnew hk => sw_in (s2 k W a Q hf H hnew hk)⟩
    | goto l => cases e; exact ⟨Ss.refl _ _, fun k W a Q hf _ _ hk => wp_goto (hk k W a (Sd.refl _ _ _ _) hf)⟩
    | refuse _ => cases e
/-- What a call of such values comes to, in whatever world. -/
theorem closed {tb' : Tb} (ht : TbOk P tb') (hmo : P.follows .mixedOrders = true) {fuel f : Nat} {args : List Value} (ha : args.all cok1 = true) {x : R5} (e : call0 P (run P tb' fuel) f args he12 0 = some x) (W : World) :
    (∀ a w, (callFunc f a).run P w = .ok (.enter f a) w) ∧ Calls P f args.toArray W fun r W' => ∃ u k', r = .returned u ∧ Sd he12 0 x.h x.n x.r x.w (fun _ => none) W k' W' ∧ VX k' x.v u := by
  obtain ⟨_, h2, h3⟩ := call0_ok (run_ok ht hmo fuel).1 (fun i _ => hget_new i) e
  refine ⟨h2, h3 _ W args (cokL_vx ha) ⟨fun i _ cs h => ?_, fun i j _ _ hi => ?_⟩ (fun _ _ _ => rfl)⟩
  · rw [hget_new] at h; cases h
  · exact absurd hi (not_live (hget_new i))
theorem ok_true {x : Option R5} (h : isTrue x = true) : ∃ y, x = some y ∧ y.v = .bool true := by
  unfold isTrue at h
  split at h
  · rename_i y
    split at h
    · rename_i b hb; subst h; exact ⟨y, rfl, hb⟩
    · cases h
  · cases h
theorem apartL_spec : ∀ {l : List Nat}, apartL l = true → ∀ (i j a : Nat), l[i]? = some a → l[j]? = some a → i = j
  | [], _, _, _, _, h, _ => by cases h
  | x :: l, h, i, j, a, hi, hj => by
    simp only [apartL] at h
    cases hc : l.any (Nat.beq x) with
    | true => rw [hc] at h; cases h
    | false =>
      rw [hc] at h
      have hx : ∀ y ∈ l, x ≠ y := fun y hy e => by
        have := List.any_eq_false.1 hc y hy
        rw [Nat.beq_eq] at this
        exact this e
      cases i with
      | zero => cases j with
        | zero => rfl
        | succ j => simp at hi hj; subst hi; exact absurd rfl (hx x (List.mem_of_getElem? hj))
      | succ i => cases j with
        | zero => simp at hi hj; subst hj; exact absurd rfl (hx x (List.mem_of_getElem? hi))
        | succ j => simp at hi hj; rw [apartL_spec h i j a hi hj]
theorem blocksOk_spec {h : HT} {g : Nat → Nat} : ∀ {is : List Nat} {bs : List (List Value)}, blocksOk h g is bs = true → is.length = bs.length ∧ ∀ (j i : Nat) (b : List Value), is[j]? = some i → bs[j]? = some b → hget h i = some (sL g b)
  | [], [], _ => ⟨rfl, fun j i b h => by cases h⟩
  | [], _ :: _, e => by cases e
  | _ :: _, [], e => by cases e
  | i :: is, b :: bs, e => by
    simp only [blocksOk] at e
    cases hc : hget h i with
    | none => rw [hc] at e; cases e
    | some cs =>
      rw [hc] at e
      simp only at e
      cases hl : leq cs (sL g b) with
      | false => rw [hl] at e; cases e
      | true =>
        rw [hl] at e
        obtain ⟨h1, h2⟩ := blocksOk_spec (is := is) (bs := bs) e
        refine ⟨by simp [h1], fun j i' b' hi hb => ?_⟩
        cases j with
        | zero => simp at hi hb; subst hi; subst hb; rw [hc, leq_eq hl]
        | succ j => exact h2 j i' b' (by simpa using hi) (by simpa using hb)
/-- An entry out of a run. -/
theorem entry {tb' : Tb} (ht : TbOk P tb') (hmo : P.follows .mixedOrders = true) {fuel : Nat} {ids : List Nat} {e : En} (h : entOk (call0 P (run P tb' fuel) e.f e.args he12 0) ids e = true) : EnOk P e := by
  unfold entOk at h
  split at h
  · rename_i x hx
    cases h1 : veq2 x.v (s2 (ix ids) e.v) with
    | false => rw [h1] at h; cases h
    | true =>
      rw [h1] at h
      cases h2 : (apartL ids && Nat.ble x.n 4096 && at2 e.v && e.bs.all (·.all at0) && e.args.all flat1) with
      | false => rw [h2] at h; cases h
      | true =>
        rw [h2] at h
        simp only [Bool.and_eq_true, Nat.ble_eq] at h2
        obtain ⟨⟨⟨⟨c1, c2⟩, c3⟩, c4⟩, c5⟩ := h2
        obtain ⟨l1, l2⟩ := blocksOk_spec h
        have hv := veq2_eq h1
        have hfl : e.args.all cok1 = true := by
          rw [List.all_eq_true] at c5 ⊢
          intro v hv
          have := c5 v hv
          cases v <;> first | rfl | cases this
        have cl := fun W => closed (fuel := fuel) ht hmo hfl hx W
        refine ⟨c3, fun b hb => List.all_eq_true.1 c4 b hb, c5, (cl default).1, fun W => (cl W).2.mono ?_⟩
        rintro r W' ⟨u, k', rfl, hd, hvx⟩
        have hnx : ∀ i, x.n ≤ i → k' i = none := fun i hi => hd.dom i (Or.inr hi)
        have hg : ∀ i p, k' (ix ids i) = some p → (fun i => k' (ix ids i)) i = some p := fun i p h => h
        have hlive : ∀ (j i : Nat) (b : List Value), ids[j]? = some i → e.bs[j]? = some b → tb (Nat.lor x.r x.w) i ∧ live x.h i := fun j i b hi hb => by
          have h3 := l2 j i b hi hb
          refine ⟨tb_or.2 (Or.inr ?_), ⟨_, h3⟩⟩
          refine Classical.byContradiction fun hn => ?_
          have h4 := (call0_ok (run_ok ht hmo fuel).1 (fun i _ => hget_new i) hx).1.same i hn
          rw [h3, hget_new] at h4
          cases h4
        have hix : ∀ (j i : Nat), ids[j]? = some i → ix ids j = i := fun j i h => by unfold ix; rw [h]; rfl
        have hnone : ∀ i, e.bs.length ≤ i → k' (ix ids i) = none := fun i hi => by
          have : ix ids i = 4096 := by unfold ix; rw [List.getElem?_eq_none (by omega)]; rfl
          rw [this]; exact hnx 4096 c2
        have hgi : ∀ i : Nat, i < e.bs.length → ∃ a b, ids[i]? = some a ∧ e.bs[i]? = some b := fun i hi => ⟨ids[i], e.bs[i], by simp [l1, hi], by simp [hi]⟩
        have hsm : ∀ i p, k' (ix ids i) = some p → i < e.bs.length := fun i p hp => by
          rcases Nat.lt_or_ge i e.bs.length with h' | h'
          · exact h'
          · rw [hnone i h'] at hp; cases hp
        refine ⟨u, fun i => k' (ix ids i), rfl, r2 hg c3 (by rw [← hv]; exact hvx), hnone, fun i cs hcs => ?_, fun i j b z b' z' hne hb hb' => ?_, fun b hb => hd.frm b hb (fun j z _ hl => absurd hl (not_live (hget_new j))), hd.size, hd.os, hd.tape, hd.output, hd.fz⟩
        · have hi : i < e.bs.length := (List.getElem?_eq_some_iff.1 hcs).1
          obtain ⟨a, b0, ha, hb0⟩ := hgi i hi
          obtain ⟨ht1, hl1⟩ := hlive i a cs ha hcs
          refine ⟨(hd.rep.rep a ht1 _ (l2 i a cs ha hcs)).mono (fun p hp => by show k' (ix ids i) = _; rw [hix i a ha]; exact hp) (fun _ _ _ _ => rfl) (fun us => rL hg (List.all_eq_true.1 c4 cs (List.mem_of_getElem? hcs))), fun b z e1 => ?_⟩
          have e1 : k' a = some (b, z) := by rw [← hix i a ha]; exact e1
          have han : a < x.n := by
            rcases Nat.lt_or_ge a x.n with h' | h'
            · exact h'
            · rw [hnx a h'] at e1; cases e1
          rcases hd.fresh a b _ (Nat.zero_le _) han hl1 e1 with h' | ⟨j, _, _, h', _⟩
          · exact h'
          · omega
        · have hi := hsm i _ hb
          have hj := hsm j _ hb'
          obtain ⟨a1, b1, ha1, hb1⟩ := hgi i hi
          obtain ⟨a2, b2, ha2, hb2⟩ := hgi j hj
          obtain ⟨t1, l1'⟩ := hlive i a1 b1 ha1 hb1
          obtain ⟨t2, l2'⟩ := hlive j a2 b2 ha2 hb2
          have hb3 : k' a1 = some (b, z) := by rw [← hix i a1 ha1]; exact hb
          have hb4 : k' a2 = some (b', z') := by rw [← hix j a2 ha2]; exact hb'
          exact hd.rep.inj a1 a2 t1 t2 l1' l2' (fun e => hne (apartL_spec c1 i j a1 ha1 (by rw [e]; exact ha2))) b z b' z' hb3 hb4
  · cases h
end
end E
end Go.Proofs.YtfmfeipeeedfpaaGreat
namespace Go.Proofs.YtfmfeipeeedfpaaGreat
namespace E
/-- math/bits.Add64. -/
def xadd (vs : List Value) : Option Value := match vs with
  | [.int .u64 x, .int .u64 y, .int .u64 c] => match x with
    | .ofNat x => match y with
      | .ofNat y => match c with
        | .ofNat c => bif Nat.ble c 1 then Go.CheckFast.force (Nat.add (Nat.add x y) c) fun s => Go.CheckFast.force (Nat.mod s 18446744073709551616) fun a => Go.CheckFast.force (Nat.div s 18446744073709551616) fun b => some (.tuple #[.int .u64 (.ofNat a), .int .u64 (.ofNat b)]) else none
        | _ => none
      | _ => none
    | _ => none
  | _ => none
def tbx : Tb := ⟨[], fun f vs => bif Nat.beq f 217 then xadd vs else none⟩
theorem tbx_ok : TbOk Tryz.prog tbx := by
  refine ⟨fun e h => (by cases h), fun f vs v h => ?_⟩
  obtain ⟨hf, h2⟩ := bif_some (show (bif Nat.beq f 217 then xadd vs else none) = some v from h)
  clear h
  have h := h2
  rw [Nat.beq_eq] at hf
  subst hf
  unfold xadd at h
  split at h
  · rename_i x y c
    split at h
    · rename_i x
      split at h
      · rename_i y
        split at h
        · rename_i c
          obtain ⟨hc, h⟩ := bif_some h
          rw [Nat.ble_eq] at hc
          simp only [Go.CheckFast.force_eq] at h
          cases h
          refine ⟨rfl, fun k => VX.tuple (cs := [_, _]) (us := [_, _]) ⟨_, _, rfl, VX.of0 rfl, _, _, rfl, VX.of0 rfl, rfl⟩, fun w => ?_⟩
          have := run_callFunc_extern (P := Tryz.prog) Tryz.func217 (by kernel_rfl) (by kernel_rfl) (by kernel_rfl) (e := add64Entry) (by kernel_rfl) #[.int .u64 (.ofNat x), .int .u64 (.ofNat y), .int .u64 (.ofNat c)] w
          have h2 := run_add64 (P := Tryz.prog) (.ofNat x) (.ofNat y) (.ofNat c) (Int.natCast_nonneg x) (Int.natCast_nonneg y) (Int.natCast_nonneg c) (by show (c : Int) ≤ 1; omega) w
          rw [this, h2]
          rfl
        · cases h
      · cases h
    · cases h
  · cases h
end E
end Go.Proofs.YtfmfeipeeedfpaaGreat
namespace Go.Proofs.YtfmfeipeeedfpaaGreat
namespace E
set_option maxRecDepth 100000 in
theorem lv_run : isTrue (call0 Tryz.prog (run Tryz.prog tbx 3000) 11 [] he12 0) = true := by kernel_rfl
theorem lv (W : World) : Calls Tryz.prog 11 #[] W fun r W' => r = .returned (.bool true) ∧ W.heap.size ≤ W'.heap.size ∧ W'.os = W.os ∧ Tp W' W ∧ W'.output = W.output ∧ (∀ b, b < W.heap.size → W'.heap[b]? = W.heap[b]?) ∧ ∀ a, W'.frozen? a = W.frozen? a := by
  obtain ⟨y, h1, h2⟩ := ok_true lv_run
  refine (closed tbx_ok rfl rfl h1 W).2.mono ?_
  rintro r W' ⟨u, k', rfl, hd, hv⟩
  rw [h2] at hv
  refine ⟨by rw [hv.bool_inv], hd.size, hd.os, hd.tape, hd.output, fun b hb => hd.frm b hb (fun j z _ hl => absurd hl (not_live (hget_new j))), hd.fz⟩
end E
end Go.Proofs.YtfmfeipeeedfpaaGreat
namespace Go.Proofs.YtfmfeipeeedfpaaGreat
open S Go.RowKit
theorem u_live (w : World) : Calls Tryz.prog 11 #[] w fun e W => e = .returned (.bool true) ∧ Mb w W := (E.lv w).mono (by
  rintro e W ⟨rfl, h1, h2, h3, h4, h5, _⟩
  exact ⟨rfl, ⟨h2, h3.1, h4, h1, h5⟩, h3.2⟩)
set_option maxRecDepth 20000 in
theorem u_fits {d : Nat} {x : Ex} {w : World} {b : Bool} (hb : decide (szX 60 x ≤ 2000) = b) (hL : LT w d x) : Calls Tryz.prog 10 #[.agg x.c.toArray] w fun e W => e = .returned (.bool b) ∧ Mb w W := by
  refine fn_pure [.agg (x.c.map rel1).toArray] Tryz.func10 rfl rfl rfl (run_ok (st mo ?_))
  refine ⟨_, fun nn => r_call (t := .int .i64 (szX 60 x)) rfl rfl Tryz.func28 (fun W M E => t_size 60 x W (by decide) ((hL.mono E).lx 60)), st mo ⟨fun h => st mo ?_, fun h => st mo ?_⟩⟩
  · show _ = _; rw [← hb, decide_eq_true h]
  · show _ = _; rw [← hb, decide_eq_false (by omega)]
set_option maxRecDepth 20000 in
theorem stays_n {d : Nat} {i : It} {e : Ev} (hu : XU d i.x) (w : World) (hL : LT w d i.x) (he : EvL w e) : Calls Tryz.prog 9 #[.agg i.c.toArray, e.v] w fun r W => r = .returned (.bool true) ∧ Mb w W := by
  refine fn_pure [.agg (i.c.map rel1).toArray, e.y] Tryz.func9 rfl rfl rfl (run_ok (st mo ?_))
  cases hf : decide (szX 60 i.x ≤ 2000) with
  | false =>
    refine ⟨_, fun nn => r_call (t := litF) rfl rfl Tryz.func10 (fun W M E => u_fits hf (hL.mono E)), st mo ?_⟩
    exact ⟨_, fun nn => r_call (t := litT) rfl rfl Tryz.func11 (fun W M E => u_live W), st mo rfl⟩
  | true =>
    refine ⟨_, fun nn => r_call (t := litT) rfl rfl Tryz.func10 (fun W M E => u_fits hf (hL.mono E)), st mo ?_⟩
    refine ⟨_, fun nn => r_call (t := litT) rfl rfl Tryz.func11 (fun W M E => u_live W), st mo ?_⟩
    refine ⟨_, fun nn => r_call (t := (evE e d i.x).y) rfl rfl Tryz.func12 (fun W M E => f_Eval hu W (hL.mono E) (he.mb M E)), st mo ?_⟩
    refine ⟨_, fun nn => r_call (t := .int .i64 0) rfl rfl Tryz.func27 (fun W M E => q_check' (fit_ev he hu) W), st mo ⟨fun _ => st mo ?_, fun h => absurd rfl h⟩⟩
    refine ⟨_, fun nn => r_call (t := (itE e d i).y) rfl rfl Tryz.func14 (fun W M E => f_Item hu W (hL.mono E) (he.mb M E)), st mo ?_⟩
    refine ⟨_, fun nn => r_call (t := .int .i64 0) rfl rfl Tryz.func27 (fun W M E => q_check' (fit_it he hu) W), st mo ⟨fun _ => st mo rfl, fun h => absurd rfl h⟩⟩
end Go.Proofs.YtfmfeipeeedfpaaGreat
namespace Go.Proofs.YtfmfeipeeedfpaaGreat
open Go.ChangeShapes Go.WideShapes Go.ChangeAt Go.RowKit
open S (Lies)
theorem LT.le {w : World} {d : Nat} {x : Ex} (h : LT w d x) : ∀ {e : Nat}, d ≤ e → LT w e x := by
  intro e he
  induction he with
  | refl => exact h
  | step _ ih => exact ih.up
theorem LT.xu {w : World} : ∀ {d : Nat} {x : Ex}, LT w d x → XU d x → XU (d + 1) x
  | 0, x, h, u => ⟨u, fun y hy => by rw [show x.a = [] from h] at hy; cases hy⟩
  | d + 1, x, h, u => ⟨u.1, fun y hy => by
    obtain ⟨i, hi⟩ := List.getElem?_of_mem hy
    exact (h.at hi).2.xu (u.2 y hy)⟩
theorem LT.leU {w : World} {d : Nat} {x : Ex} (h : LT w d x) (u : XU d x) : ∀ {e : Nat}, d ≤ e → LT w e x ∧ XU e x := by
  intro e he
  induction he with
  | refl => exact ⟨h, u⟩
  | step _ ih => exact ⟨ih.1.up, ih.1.xu ih.2⟩
namespace D
def dn00 : Dn := ⟨false, 0, 0⟩
theorem cl_int : Tryz.prog.cellsOf 3 = 1 := by kernel_rfl
theorem cl_bool : Tryz.prog.cellsOf 4 = 1 := by kernel_rfl
theorem cl_string : Tryz.prog.cellsOf 9 = 1 := by kernel_rfl
theorem cl_u64 : Tryz.prog.cellsOf 22 = 1 := by kernel_rfl
theorem cl_nat : Tryz.prog.cellsOf 24 = 4 := by kernel_rfl
theorem cl_dec : Tryz.prog.cellsOf 26 = 6 := by kernel_rfl
theorem cl_val : Tryz.prog.cellsOf 28 = 10 := by kernel_rfl
theorem cl_sx : Tryz.prog.cellsOf 29 = 1 := by kernel_rfl
theorem cl_ex : Tryz.prog.cellsOf 31 = 17 := by kernel_rfl
theorem cl_ty : Tryz.prog.cellsOf 42 = 2 := by kernel_rfl
theorem cl_it : Tryz.prog.cellsOf 44 = 23 := by kernel_rfl
theorem cl_st : Tryz.prog.cellsOf 146 = 18 := by kernel_rfl
theorem cl_ss : Tryz.prog.cellsOf 112 = 1 := by kernel_rfl
theorem cl_tb : Tryz.prog.cellsOf 114 = 2 := by kernel_rfl
theorem cl_stb : Tryz.prog.cellsOf 34 = 1 := by kernel_rfl
theorem cl_wd : Tryz.prog.cellsOf 62 = 5 := by kernel_rfl
theorem cl_sm : Tryz.prog.cellsOf 64 = 23 := by kernel_rfl
theorem cl_cl : Tryz.prog.cellsOf 66 = 24 := by kernel_rfl
theorem cl_ev : Tryz.prog.cellsOf 36 = 3 := by kernel_rfl
theorem cl_mn : Tryz.prog.cellsOf 32 = 1 := by kernel_rfl
theorem cl_mc : Tryz.prog.cellsOf 33 = 1 := by kernel_rfl
theorem cl_ck : Tryz.prog.cellsOf 53 = 2 := by kernel_rfl
/-- A slice's elements lie there. -/
def SL (W : World) (n : Nat) {α : Type} (cells : α → List Value) (pa : Option Addr) (L : List α) : Prop := L.length ≤ maxLen ∧ ∀ i o, L[i]? = some o → ∃ b off, pa = some ⟨b, off, none⟩ ∧ b < W.heap.size ∧ W.rangeAt b (off + i * n) (cells o)
theorem wf_i {n : Int} (h : (Lit.int .i64 n).wf = true) : -9223372036854775808 ≤ n ∧ n < 9223372036854775808 := by
  have h : (decide (IntKind.i64.min ≤ n) && decide (n ≤ IntKind.i64.max)) = true := h
  rw [Bool.and_eq_true, decide_eq_true_eq, decide_eq_true_eq] at h
  have e1 : IntKind.i64.min = -9223372036854775808 := by decide
  have e2 : IntKind.i64.max = 9223372036854775807 := by decide
  omega
theorem wf_u {n : Int} (h : (Lit.int .u64 n).wf = true) : U1 n := by
  have h : (decide (IntKind.u64.min ≤ n) && decide (n ≤ IntKind.u64.max)) = true := h
  rw [Bool.and_eq_true, decide_eq_true_eq, decide_eq_true_eq] at h
  have e1 : IntKind.u64.min = 0 := by decide
  have e2 : IntKind.u64.max = 18446744073709551615 := by decide
  unfold U1; omega
section
variable {H : Type} {enc : TypeId × Value → H} {W : World} {sp : Nat → Bool}
/-- A slice that came in, of elements that are read with less fuel. -/
theorem cut_sl {fuel : Nat} {x : DataW H × List MemPlace} {t e : TypeId} (hu : Tryz.prog.underlying t = some (.slice e)) {n : Nat} (hn : 0 < n) (hcl : Tryz.prog.cellsOf e = n) {α : Type} (cells : α → List Value) (dflt : α) (ok : α → Prop) (hlen : ∀ y, (cells y).length = n)
    (hcut : ∀ {m : Nat} {cs : List Value} {y : DataW H × List MemPlace}, m < fuel → DataW.trod enc Tryz.prog W 0 sp true m e cs = some y → ∃ z, ok z ∧ cs = cells z) {v : Value} (h : DataW.trod enc Tryz.prog W 0 sp true fuel t [v] = some x) :
    ∃ (L : List α) (pa : Option Addr) (cap : Nat), v = .slice pa L.length cap ∧ (∀ o ∈ L, ok o) ∧ SL W n cells pa L ∧ L.length ≤ cap := by
  rcases DataW.trod_slice hu h with ⟨hcs, _⟩ | ⟨a, len, cap, elems, rest, k, rfl, hcs, _, _, hlc, hcm, hlen2, hel, _, _⟩
  · simp only [List.cons.injEq, and_true] at hcs
    subst hcs
    exact ⟨[], none, 0, rfl, fun _ e => (by cases e), ⟨Nat.zero_le _, (fun _ _ e => by cases e)⟩, Nat.le_refl _⟩
  · simp only [List.cons.injEq, and_true] at hcs
    subst hcs
    have first : ∀ o : α, ∃ u, (cells o)[0]? = some u := fun o => ⟨(cells o)[0]'(by rw [hlen]; exact hn), List.getElem?_eq_getElem _⟩
    have el : ∀ i, i < len → ∃ cs' y, W.cells? 0 (a.add (i * Tryz.prog.cellsOf e)) (Tryz.prog.cellsOf e) = some cs' ∧ DataW.trod enc Tryz.prog W 0 sp true k e cs' = some y := fun i hi => by
      have h1 := hel i hi
      rw [List.getElem?_eq_getElem (by omega)] at h1
      cases h2 : W.cells? 0 (a.add (i * Tryz.prog.cellsOf e)) (Tryz.prog.cellsOf e) with
      | none => rw [h2] at h1; cases h1
      | some cs' => rw [h2] at h1; exact ⟨cs', _, rfl, h1⟩
    have key : ∀ i : Nat, ∃ S : α, i < len → ok S ∧ ∃ b off, some a = some (⟨b, off, none⟩ : Addr) ∧ b < W.heap.size ∧ W.rangeAt b (off + i * n) (cells S) := by
      intro i
      by_cases hi : i < len
      · obtain ⟨cs', y, hc, ht⟩ := el i hi
        obtain ⟨o, ho, rfl⟩ := hcut (Nat.lt_succ_self k) ht
        refine ⟨o, fun _ => ⟨ho, ?_⟩⟩
        rw [hcl] at hc
        have hb := World.cells?_block hc hn
        obtain ⟨_, _, hcell⟩ := World.cells?_some hc
        obtain ⟨b, off, spot⟩ := a
        have hs : spot = none := by
          obtain ⟨cs0, y0, hc0, ht0⟩ := el 0 (by omega)
          obtain ⟨o0, _, rfl⟩ := hcut (Nat.lt_succ_self k) ht0
          rw [hcl] at hc0
          have h0 := (World.cells?_some hc0).2.2 0 hn
          obtain ⟨u, hu0⟩ := first o0
          rw [hu0] at h0
          have := World.cell?_spot (show W.cell? (((⟨b, off, spot⟩ : Addr).add (0 * n)).add 0) = some u from h0)
          simpa [Addr.add] using this
        subst hs
        refine ⟨b, off, rfl, by simpa [Addr.add_mid] using hb, fun j v hv => ?_⟩
        have hj : j < n := by rw [← hlen o]; exact (List.getElem?_eq_some_iff.1 hv).1
        have := hcell j hj
        rw [Addr.add_mid, Addr.add_mid, hv] at this
        exact this
      · exact ⟨dflt, fun e => absurd e hi⟩
    obtain ⟨f, hf2⟩ := Classical.skolem.1 key
    refine ⟨(List.range len).map f, some a, cap, by simp, fun o ho => ?_, ⟨by simpa using Nat.le_trans hlc hcm, fun i o e => ?_⟩, by simpa using hlc⟩
    · obtain ⟨i, hi, rfl⟩ := List.mem_map.1 ho
      exact (hf2 i (by simpa using hi)).1
    · have hi : i < len := by have := (List.getElem?_eq_some_iff.1 e).1; simpa using this
      rw [List.getElem?_map, List.getElem?_range hi] at e
      cases e
      exact (hf2 i hi).2
set_option maxRecDepth 100000 in
theorem cut_arr {fuel : Nat} {cs : List Value} {x : DataW H × List MemPlace} (h : DataW.trod enc Tryz.prog W 0 sp true fuel 24 cs = some x) : ∃ n0 n1 n2 n3 : Int, U1 n0 ∧ U1 n1 ∧ U1 n2 ∧ U1 n3 ∧ cs = [.int .u64 n0, .int .u64 n1, .int .u64 n2, .int .u64 n3] := by
  obtain ⟨xs, m, rfl, _, hlen, hn, hi⟩ := DataW.trod_array Tryz.underlying24 h
  rw [cl_nat] at hlen
  obtain ⟨c0, c1, c2, c3, rfl⟩ : ∃ c0 c1 c2 c3, cs = [c0, c1, c2, c3] := by
    match cs, hlen with
    | [a0, a1, a2, a3], _ => exact ⟨a0, a1, a2, a3, rfl⟩
  obtain ⟨y0, y1, y2, y3, rfl⟩ : ∃ y0 y1 y2 y3, xs = [y0, y1, y2, y3] := by
    match xs, hn with
    | [a0, a1, a2, a3], _ => exact ⟨a0, a1, a2, a3, rfl⟩
  have i0 := hi 0 (by decide)
  have i1 := hi 1 (by decide)
  have i2 := hi 2 (by decide)
  have i3 := hi 3 (by decide)
  simp only [cl_u64] at i0 i1 i2 i3
  simp at i0 i1 i2 i3
  obtain ⟨x0, e0, _, f0⟩ := DataW.trod_int Tryz.underlying22 i0
  obtain ⟨x1, e1, _, f1⟩ := DataW.trod_int Tryz.underlying22 i1
  obtain ⟨x2, e2, _, f2⟩ := DataW.trod_int Tryz.underlying22 i2
  obtain ⟨x3, e3, _, f3⟩ := DataW.trod_int Tryz.underlying22 i3
  simp at e0 e1 e2 e3
  subst e0 e1 e2 e3
  exact ⟨x0, x1, x2, x3, wf_u f0, wf_u f1, wf_u f2, wf_u f3, rfl⟩
set_option maxRecDepth 100000 in
theorem cut_wd {fuel : Nat} {cs : List Value} {x : DataW H × List MemPlace} (h : DataW.trod enc Tryz.prog W 0 sp true fuel 62 cs = some x) : ∃ n0 n1 n2 n3 n4 : Int, U1 n0 ∧ U1 n1 ∧ U1 n2 ∧ U1 n3 ∧ U1 n4 ∧ cs = [.int .u64 n0, .int .u64 n1, .int .u64 n2, .int .u64 n3, .int .u64 n4] := by
  obtain ⟨xs, m, rfl, _, hlen, hn, hi⟩ := DataW.trod_array Tryz.underlying62 h
  rw [cl_wd] at hlen
  obtain ⟨c0, c1, c2, c3, c4, rfl⟩ : ∃ c0 c1 c2 c3 c4, cs = [c0, c1, c2, c3, c4] := by
    match cs, hlen with
    | [a0, a1, a2, a3, a4], _ => exact ⟨a0, a1, a2, a3, a4, rfl⟩
  obtain ⟨y0, y1, y2, y3, y4, rfl⟩ : ∃ y0 y1 y2 y3 y4, xs = [y0, y1, y2, y3, y4] := by
    match xs, hn with
    | [a0, a1, a2, a3, a4], _ => exact ⟨a0, a1, a2, a3, a4, rfl⟩
  have i0 := hi 0 (by decide)
  have i1 := hi 1 (by decide)
  have i2 := hi 2 (by decide)
  have i3 := hi 3 (by decide)
  have i4 := hi 4 (by decide)
  simp only [cl_u64] at i0 i1 i2 i3 i4
  simp at i0 i1 i2 i3 i4
  obtain ⟨x0, e0, _, f0⟩ := DataW.trod_int Tryz.underlying22 i0
  obtain ⟨x1, e1, _, f1⟩ := DataW.trod_int Tryz.underlying22 i1
  obtain ⟨x2, e2, _, f2⟩ := DataW.trod_int Tryz.underlying22 i2
  obtain ⟨x3, e3, _, f3⟩ := DataW.trod_int Tryz.underlying22 i3
  obtain ⟨x4, e4, _, f4⟩ := DataW.trod_int Tryz.underlying22 i4
  simp at e0 e1 e2 e3 e4
  subst e0 e1 e2 e3 e4
  exact ⟨x0, x1, x2, x3, x4, wf_u f0, wf_u f1, wf_u f2, wf_u f3, wf_u f4, rfl⟩
theorem cut_nat {fuel : Nat} {cs : List Value} {x : DataW H × List MemPlace} (h : DataW.trod enc Tryz.prog W 0 sp true fuel 24 cs = some x) : ∃ n : Int, (0 ≤ n ∧ n < MM) ∧ cs = [.int .u64 (l0 n), .int .u64 (l1 n), .int .u64 (l2 n), .int .u64 (l3 n)] := by
  obtain ⟨a, b, c, d, h0, h1, h2, h3, rfl⟩ := cut_arr h
  have u : U4 a b c d := ⟨h0, h1, h2, h3⟩
  exact ⟨vl a b c d, vl_bd u, by rw [l0_vl u, l1_vl u, l2_vl u, l3_vl u]⟩
set_option maxRecDepth 100000 in
theorem cut_dn {fuel : Nat} {cs : List Value} {x : DataW H × List MemPlace} (h : DataW.trod enc Tryz.prog W 0 sp true fuel 26 cs = some x) : ∃ d : Dn, d.ok ∧ cs = d.cells := by
  obtain ⟨xs, m, rfl, _, hl, hlen, hi⟩ := DataW.trod_struct Tryz.underlying26 h
  rw [cl_dec] at hl
  obtain ⟨c0, c1, c2, c3, c4, c5, rfl⟩ : ∃ c0 c1 c2 c3 c4 c5, cs = [c0, c1, c2, c3, c4, c5] := by
    match cs, hl with
    | [a0, a1, a2, a3, a4, a5], _ => exact ⟨a0, a1, a2, a3, a4, a5, rfl⟩
  obtain ⟨y0, y1, y2, rfl⟩ : ∃ y0 y1 y2, xs = [y0, y1, y2] := by
    match xs, hlen with
    | [a0, a1, a2], _ => exact ⟨a0, a1, a2, rfl⟩
  have i0 := hi 0 _ rfl
  have i1 := hi 1 _ rfl
  have i2 := hi 2 _ rfl
  simp [cl_bool, cl_nat, cl_int] at i0 i1 i2
  obtain ⟨b, e0, _⟩ := DataW.trod_bool Tryz.underlying4 i0
  obtain ⟨n, hn, e1⟩ := cut_nat i1
  obtain ⟨s, e2, _, f2⟩ := DataW.trod_int Tryz.underlying3 i2
  simp at e0 e1 e2
  obtain ⟨e1_0, e1_1, e1_2, e1_3⟩ := e1
  subst e0 e1_0 e1_1 e1_2 e1_3 e2
  exact ⟨⟨b, n, s⟩, hn, rfl⟩
set_option maxRecDepth 100000 in
theorem cut_vl {fuel : Nat} {cs : List Value} {x : DataW H × List MemPlace} (h : DataW.trod enc Tryz.prog W 0 sp true fuel 28 cs = some x) : ∃ v : VL, v.ok ∧ cs = v.cells := by
  obtain ⟨xs, m, rfl, _, hl, hlen, hi⟩ := DataW.trod_struct Tryz.underlying28 h
  rw [cl_val] at hl
  obtain ⟨c0, c1, c2, c3, c4, c5, c6, c7, c8, c9, rfl⟩ : ∃ c0 c1 c2 c3 c4 c5 c6 c7 c8 c9, cs = [c0, c1, c2, c3, c4, c5, c6, c7, c8, c9] := by
    match cs, hl with
    | [a0, a1, a2, a3, a4, a5, a6, a7, a8, a9], _ => exact ⟨a0, a1, a2, a3, a4, a5, a6, a7, a8, a9, rfl⟩
  obtain ⟨y0, y1, y2, y3, y4, rfl⟩ : ∃ y0 y1 y2 y3 y4, xs = [y0, y1, y2, y3, y4] := by
    match xs, hlen with
    | [a0, a1, a2, a3, a4], _ => exact ⟨a0, a1, a2, a3, a4, rfl⟩
  have i0 := hi 0 _ rfl
  have i1 := hi 1 _ rfl
  have i2 := hi 2 _ rfl
  have i3 := hi 3 _ rfl
  have i4 := hi 4 _ rfl
  simp [cl_int, cl_dec, cl_bool, cl_string] at i0 i1 i2 i3 i4
  obtain ⟨k, e0, _, f0⟩ := DataW.trod_int Tryz.underlying3 i0
  obtain ⟨d, hd, e1⟩ := cut_dn i1
  obtain ⟨f, e2, _⟩ := DataW.trod_bool Tryz.underlying4 i2
  obtain ⟨t, e3, _, _⟩ := DataW.trod_string Tryz.underlying9 i3
  obtain ⟨er, e4, _, f4⟩ := DataW.trod_int Tryz.underlying3 i4
  simp only [Dn.cells] at e1
  simp at e0 e1 e2 e3 e4
  obtain ⟨e1_0, e1_1, e1_2, e1_3, e1_4, e1_5⟩ := e1
  subst e0 e1_0 e1_1 e1_2 e1_3 e1_4 e1_5 e2 e3 e4
  exact ⟨⟨k, d.b, d.n, d.s, f, t, er⟩, hd, rfl⟩
set_option maxRecDepth 100000 in
theorem cut_st {fuel : Nat} {cs : List Value} {x : DataW H × List MemPlace} (h : DataW.trod enc Tryz.prog W 0 sp true fuel 146 cs = some x) : ∃ s : Stp, s.ok ∧ cs = s.cells := by
  obtain ⟨xs, m, rfl, _, hl, hlen, hi⟩ := DataW.trod_struct Tryz.underlying146 h
  rw [cl_st] at hl
  obtain ⟨c0, c1, c2, c3, c4, c5, c6, c7, c8, c9, c10, c11, c12, c13, c14, c15, c16, c17, rfl⟩ : ∃ c0 c1 c2 c3 c4 c5 c6 c7 c8 c9 c10 c11 c12 c13 c14 c15 c16 c17, cs = [c0, c1, c2, c3, c4, c5, c6, c7, c8, c9, c10, c11, c12, c13, c14, c15, c16, c17] := by
    match cs, hl with
    | [a0, a1, a2, a3, a4, a5, a6, a7, a8, a9, a10, a11, a12, a13, a14, a15, a16, a17], _ => exact ⟨a0, a1, a2, a3, a4, a5, a6, a7, a8, a9, a10, a11, a12, a13, a14, a15, a16, a17, rfl⟩
  obtain ⟨y0, y1, y2, rfl⟩ : ∃ y0 y1 y2, xs = [y0, y1, y2] := by
    match xs, hlen with
    | [a0, a1, a2], _ => exact ⟨a0, a1, a2, rfl⟩
  have i0 := hi 0 _ rfl
  have i1 := hi 1 _ rfl
  have i2 := hi 2 _ rfl
  simp [cl_dec] at i0 i1 i2
  obtain ⟨a, ha, e0⟩ := cut_dn i0
  obtain ⟨b, hb, e1⟩ := cut_dn i1
  obtain ⟨c, hc, e2⟩ := cut_dn i2
  simp only [Dn.cells] at e0 e1 e2
  simp at e0 e1 e2
  obtain ⟨e0_0, e0_1, e0_2, e0_3, e0_4, e0_5⟩ := e0
  obtain ⟨e1_0, e1_1, e1_2, e1_3, e1_4, e1_5⟩ := e1
  obtain ⟨e2_0, e2_1, e2_2, e2_3, e2_4, e2_5⟩ := e2
  subst e0_0 e0_1 e0_2 e0_3 e0_4 e0_5 e1_0 e1_1 e1_2 e1_3 e1_4 e1_5 e2_0 e2_1 e2_2 e2_3 e2_4 e2_5
  exact ⟨⟨a, b, c⟩, ⟨ha, hb, hc⟩, rfl⟩
set_option maxRecDepth 100000 in
theorem cut_tb {fuel : Nat} {cs : List Value} {x : DataW H × List MemPlace} (h : DataW.trod enc Tryz.prog W 0 sp true fuel 114 cs = some x) : ∃ t : Tb, TbL W t ∧ cs = t.cells := by
  obtain ⟨xs, m, rfl, _, hl, hlen, hi⟩ := DataW.trod_struct Tryz.underlying114 h
  rw [cl_tb] at hl
  obtain ⟨c0, c1, rfl⟩ : ∃ c0 c1, cs = [c0, c1] := by
    match cs, hl with
    | [a0, a1], _ => exact ⟨a0, a1, rfl⟩
  obtain ⟨y0, y1, rfl⟩ : ∃ y0 y1, xs = [y0, y1] := by
    match xs, hlen with
    | [a0, a1], _ => exact ⟨a0, a1, rfl⟩
  have i0 := hi 0 _ rfl
  have i1 := hi 1 _ rfl
  simp [cl_string, cl_ss] at i0 i1
  obtain ⟨nm, e0, _, _⟩ := DataW.trod_string Tryz.underlying9 i0
  obtain ⟨L, pa, cap, e1, hL, hS, _⟩ := cut_sl Tryz.underlying112 (n := 18) (by decide) cl_st Stp.cells ⟨dn00, dn00, dn00⟩ Stp.ok Stp.len (fun _ h => cut_st h) i1
  simp at e0
  subst e0 e1
  exact ⟨⟨nm, pa, cap, L⟩, ⟨fun i y hy => by
    obtain ⟨b, o, h1, _, h2⟩ := hS.2 i y hy
    exact ⟨b, o, h1, h2⟩, hL, hS.1⟩, rfl⟩
set_option maxRecDepth 100000 in
theorem cut_sm {fuel : Nat} {cs : List Value} {x : DataW H × List MemPlace} (h : DataW.trod enc Tryz.prog W 0 sp true fuel 64 cs = some x) : ∃ m : SM, m.ok ∧ cs = m.cells := by
  obtain ⟨xs, m, rfl, _, hl, hlen, hi⟩ := DataW.trod_struct Tryz.underlying64 h
  rw [cl_sm] at hl
  obtain ⟨c0, c1, c2, c3, c4, c5, c6, c7, c8, c9, c10, c11, c12, c13, c14, c15, c16, c17, c18, c19, c20, c21, c22, rfl⟩ : ∃ c0 c1 c2 c3 c4 c5 c6 c7 c8 c9 c10 c11 c12 c13 c14 c15 c16 c17 c18 c19 c20 c21 c22, cs = [c0, c1, c2, c3, c4, c5, c6, c7, c8, c9, c10, c11, c12, c13, c14, c15, c16, c17, c18, c19, c20, c21, c22] := by
    match cs, hl with
    | [a0, a1, a2, a3, a4, a5, a6, a7, a8, a9, a10, a11, a12, a13, a14, a15, a16, a17, a18, a19, a20, a21, a22], _ => exact ⟨a0, a1, a2, a3, a4, a5, a6, a7, a8, a9, a10, a11, a12, a13, a14, a15, a16, a17, a18, a19, a20, a21, a22, rfl⟩
  obtain ⟨y0, y1, y2, y3, y4, y5, y6, y7, y8, rfl⟩ : ∃ y0 y1 y2 y3 y4 y5 y6 y7 y8, xs = [y0, y1, y2, y3, y4, y5, y6, y7, y8] := by
    match xs, hlen with
    | [a0, a1, a2, a3, a4, a5, a6, a7, a8], _ => exact ⟨a0, a1, a2, a3, a4, a5, a6, a7, a8, rfl⟩
  have i0 := hi 0 _ rfl
  have i1 := hi 1 _ rfl
  have i2 := hi 2 _ rfl
  have i3 := hi 3 _ rfl
  have i4 := hi 4 _ rfl
  have i5 := hi 5 _ rfl
  have i6 := hi 6 _ rfl
  have i7 := hi 7 _ rfl
  have i8 := hi 8 _ rfl
  simp [cl_int, cl_wd, cl_bool, cl_dec] at i0 i1 i2 i3 i4 i5 i6 i7 i8
  obtain ⟨ro, e0, _, f0⟩ := DataW.trod_int Tryz.underlying3 i0
  obtain ⟨fi, e1, _, f1⟩ := DataW.trod_int Tryz.underlying3 i1
  obtain ⟨bl, e2, _, f2⟩ := DataW.trod_int Tryz.underlying3 i2
  obtain ⟨bd, e3, _, f3⟩ := DataW.trod_int Tryz.underlying3 i3
  obtain ⟨er, e4, _, f4⟩ := DataW.trod_int Tryz.underlying3 i4
  obtain ⟨t0, t1, t2, t3, t4, g0, g1, g2, g3, g4, e5⟩ := cut_wd i5
  obtain ⟨so, e6, _⟩ := DataW.trod_bool Tryz.underlying4 i6
  obtain ⟨mn, hmn, e7⟩ := cut_dn i7
  obtain ⟨mx, hmx, e8⟩ := cut_dn i8
  simp only [Dn.cells] at e7 e8
  simp at e0 e1 e2 e3 e4 e5 e6 e7 e8
  obtain ⟨e5_0, e5_1, e5_2, e5_3, e5_4⟩ := e5
  obtain ⟨e7_0, e7_1, e7_2, e7_3, e7_4, e7_5⟩ := e7
  obtain ⟨e8_0, e8_1, e8_2, e8_3, e8_4, e8_5⟩ := e8
  subst e0 e1 e2 e3 e4 e5_0 e5_1 e5_2 e5_3 e5_4 e6 e7_0 e7_1 e7_2 e7_3 e7_4 e7_5 e8_0 e8_1 e8_2 e8_3 e8_4 e8_5
  exact ⟨⟨ro, fi, bl, bd, er, t0, t1, t2, t3, t4, so, mn.b, mn.n, mn.s, mx.b, mx.n, mx.s⟩, ⟨wf_i f0, wf_i f1, g0, g1, g2, g3, g4, hmn, hmx⟩, rfl⟩
set_option maxRecDepth 100000 in
theorem cut_cl {fuel : Nat} {cs : List Value} {x : DataW H × List MemPlace} (h : DataW.trod enc Tryz.prog W 0 sp true fuel 66 cs = some x) : ∃ c : CL, c.m.ok ∧ cs = c.cells := by
  obtain ⟨xs, m, rfl, _, hl, hlen, hi⟩ := DataW.trod_struct Tryz.underlying66 h
  rw [cl_cl] at hl
  obtain ⟨c0, c1, c2, c3, c4, c5, c6, c7, c8, c9, c10, c11, c12, c13, c14, c15, c16, c17, c18, c19, c20, c21, c22, c23, rfl⟩ : ∃ c0 c1 c2 c3 c4 c5 c6 c7 c8 c9 c10 c11 c12 c13 c14 c15 c16 c17 c18 c19 c20 c21 c22 c23, cs = [c0, c1, c2, c3, c4, c5, c6, c7, c8, c9, c10, c11, c12, c13, c14, c15, c16, c17, c18, c19, c20, c21, c22, c23] := by
    match cs, hl with
    | [a0, a1, a2, a3, a4, a5, a6, a7, a8, a9, a10, a11, a12, a13, a14, a15, a16, a17, a18, a19, a20, a21, a22, a23], _ => exact ⟨a0, a1, a2, a3, a4, a5, a6, a7, a8, a9, a10, a11, a12, a13, a14, a15, a16, a17, a18, a19, a20, a21, a22, a23, rfl⟩
  obtain ⟨y0, y1, rfl⟩ : ∃ y0 y1, xs = [y0, y1] := by
    match xs, hlen with
    | [a0, a1], _ => exact ⟨a0, a1, rfl⟩
  have i0 := hi 0 _ rfl
  have i1 := hi 1 _ rfl
  simp [cl_sm, cl_int] at i0 i1
  obtain ⟨m, hm, e0⟩ := cut_sm i0
  obtain ⟨s, e1, _, f1⟩ := DataW.trod_int Tryz.underlying3 i1
  simp only [SM.cells] at e0
  simp at e0 e1
  obtain ⟨e0_0, e0_1, e0_2, e0_3, e0_4, e0_5, e0_6, e0_7, e0_8, e0_9, e0_10, e0_11, e0_12, e0_13, e0_14, e0_15, e0_16, e0_17, e0_18, e0_19, e0_20, e0_21, e0_22⟩ := e0
  subst e0_0 e0_1 e0_2 e0_3 e0_4 e0_5 e0_6 e0_7 e0_8 e0_9 e0_10 e0_11 e0_12 e0_13 e0_14 e0_15 e0_16 e0_17 e0_18 e0_19 e0_20 e0_21 e0_22 e1
  exact ⟨⟨m, s⟩, hm, rfl⟩
set_option maxRecDepth 100000 in
theorem cut_ex : ∀ (fuel : Nat) {cs : List Value} {x : DataW H × List MemPlace}, DataW.trod enc Tryz.prog W 0 sp true fuel 31 cs = some x → ∃ e : Ex, (LT W fuel e ∧ XU fuel e) ∧ cs = e.c := by
  intro fuel
  induction fuel using Nat.strongRecOn with
  | ind fuel ih =>
    intro cs x h
    obtain ⟨xs, m, rfl, _, hl, hlen, hi⟩ := DataW.trod_struct Tryz.underlying31 h
    rw [cl_ex] at hl
    obtain ⟨c0, c1, c2, c3, c4, c5, c6, c7, c8, c9, c10, c11, c12, c13, c14, c15, c16, rfl⟩ : ∃ c0 c1 c2 c3 c4 c5 c6 c7 c8 c9 c10 c11 c12 c13 c14 c15 c16, cs = [c0, c1, c2, c3, c4, c5, c6, c7, c8, c9, c10, c11, c12, c13, c14, c15, c16] := by
      match cs, hl with
      | [a0, a1, a2, a3, a4, a5, a6, a7, a8, a9, a10, a11, a12, a13, a14, a15, a16], _ => exact ⟨a0, a1, a2, a3, a4, a5, a6, a7, a8, a9, a10, a11, a12, a13, a14, a15, a16, rfl⟩
    obtain ⟨y0, y1, y2, y3, y4, y5, y6, y7, rfl⟩ : ∃ y0 y1 y2 y3 y4 y5 y6 y7, xs = [y0, y1, y2, y3, y4, y5, y6, y7] := by
      match xs, hlen with
      | [a0, a1, a2, a3, a4, a5, a6, a7], _ => exact ⟨a0, a1, a2, a3, a4, a5, a6, a7, rfl⟩
    have i0 := hi 0 _ rfl
    have i1 := hi 1 _ rfl
    have i2 := hi 2 _ rfl
    have i3 := hi 3 _ rfl
    have i4 := hi 4 _ rfl
    have i5 := hi 5 _ rfl
    have i6 := hi 6 _ rfl
    have i7 := hi 7 _ rfl
    simp [cl_int, cl_string, cl_val, cl_sx] at i0 i1 i2 i3 i4 i5 i6 i7
    obtain ⟨k, e0, _, f0⟩ := DataW.trod_int Tryz.underlying3 i0
    obtain ⟨op, e1, _, f1⟩ := DataW.trod_int Tryz.underlying3 i1
    obtain ⟨nm, e2, _, _⟩ := DataW.trod_string Tryz.underlying9 i2
    obtain ⟨se, e3, _, _⟩ := DataW.trod_string Tryz.underlying9 i3
    obtain ⟨v, hv, e4⟩ := cut_vl i4
    obtain ⟨sc, e5, _, f5⟩ := DataW.trod_int Tryz.underlying3 i5
    obtain ⟨po, e6, _, f6⟩ := DataW.trod_int Tryz.underlying3 i6
    obtain ⟨A, pa, cap, e7, hL, hS, _⟩ := cut_sl Tryz.underlying29 (n := 17) (by decide) cl_ex Ex.c (.mk 0 0 ⟨#[]⟩ ⟨#[]⟩ 0 false 0 0 0 0 0 false ⟨#[]⟩ 0 0 0 none 0 []) (fun z => LT W m z ∧ XU m z) (fun _ => rfl) (fun hm h => by obtain ⟨z, ⟨h1, h2⟩, h3⟩ := ih _ (by omega) h; exact ⟨z, h1.leU h2 (by omega), h3⟩) i7
    simp only [VL.cells] at e4
    simp at e0 e1 e2 e3 e4 e5 e6
    obtain ⟨e4_0, e4_1, e4_2, e4_3, e4_4, e4_5, e4_6, e4_7, e4_8, e4_9⟩ := e4
    subst e0 e1 e2 e3 e4_0 e4_1 e4_2 e4_3 e4_4 e4_5 e4_6 e4_7 e4_8 e4_9 e5 e6 e7
    refine ⟨.mk k op nm se v.k v.b (l0 v.n) (l1 v.n) (l2 v.n) (l3 v.n) v.s v.f v.t v.e sc po pa cap A, ⟨⟨hS.1, fun i y hy => ⟨?_, (hL y (List.mem_of_getElem? hy)).1⟩⟩, u4_lb v.n, fun y hy => (hL y hy).2⟩, rfl⟩
    obtain ⟨b, o, h1, _, h2⟩ := hS.2 i y hy
    exact ⟨b, o, h1, h2⟩
set_option maxRecDepth 100000 in
theorem cut_ty {fuel : Nat} {cs : List Value} {x : DataW H × List MemPlace} (h : DataW.trod enc Tryz.prog W 0 sp true fuel 42 cs = some x) : ∃ k s : Int, cs = [.int .i64 k, .int .i64 s] := by
  obtain ⟨xs, m, rfl, _, hl, hlen, hi⟩ := DataW.trod_struct Tryz.underlying42 h
  rw [cl_ty] at hl
  obtain ⟨c0, c1, rfl⟩ : ∃ c0 c1, cs = [c0, c1] := by
    match cs, hl with
    | [a0, a1], _ => exact ⟨a0, a1, rfl⟩
  obtain ⟨y0, y1, rfl⟩ : ∃ y0 y1, xs = [y0, y1] := by
    match xs, hlen with
    | [a0, a1], _ => exact ⟨a0, a1, rfl⟩
  have i0 := hi 0 _ rfl
  have i1 := hi 1 _ rfl
  simp [cl_int] at i0 i1
  obtain ⟨k, e0, _, f0⟩ := DataW.trod_int Tryz.underlying3 i0
  obtain ⟨s, e1, _, f1⟩ := DataW.trod_int Tryz.underlying3 i1
  simp at e0 e1
  subst e0 e1
  exact ⟨k, s, rfl⟩
set_option maxRecDepth 100000 in
theorem cut_it {fuel : Nat} {cs : List Value} {x : DataW H × List MemPlace} (h : DataW.trod enc Tryz.prog W 0 sp true fuel 44 cs = some x) : ∃ (d : Nat) (i : It), (LT W d i.x ∧ XU d i.x) ∧ cs = i.c := by
  obtain ⟨xs, m, rfl, _, hl, hlen, hi⟩ := DataW.trod_struct Tryz.underlying44 h
  rw [cl_it] at hl
  obtain ⟨c0, c1, c2, c3, c4, c5, c6, c7, c8, c9, c10, c11, c12, c13, c14, c15, c16, c17, c18, c19, c20, c21, c22, rfl⟩ : ∃ c0 c1 c2 c3 c4 c5 c6 c7 c8 c9 c10 c11 c12 c13 c14 c15 c16 c17 c18 c19 c20 c21 c22, cs = [c0, c1, c2, c3, c4, c5, c6, c7, c8, c9, c10, c11, c12, c13, c14, c15, c16, c17, c18, c19, c20, c21, c22] := by
    match cs, hl with
    | [a0, a1, a2, a3, a4, a5, a6, a7, a8, a9, a10, a11, a12, a13, a14, a15, a16, a17, a18, a19, a20, a21, a22], _ => exact ⟨a0, a1, a2, a3, a4, a5, a6, a7, a8, a9, a10, a11, a12, a13, a14, a15, a16, a17, a18, a19, a20, a21, a22, rfl⟩
  obtain ⟨y0, y1, y2, y3, y4, y5, rfl⟩ : ∃ y0 y1 y2 y3 y4 y5, xs = [y0, y1, y2, y3, y4, y5] := by
    match xs, hlen with
    | [a0, a1, a2, a3, a4, a5], _ => exact ⟨a0, a1, a2, a3, a4, a5, rfl⟩
  have i0 := hi 0 _ rfl
  have i1 := hi 1 _ rfl
  have i2 := hi 2 _ rfl
  have i3 := hi 3 _ rfl
  have i4 := hi 4 _ rfl
  have i5 := hi 5 _ rfl
  simp [cl_string, cl_int, cl_ty, cl_bool, cl_ex] at i0 i1 i2 i3 i4 i5
  obtain ⟨nm, e0, _, _⟩ := DataW.trod_string Tryz.underlying9 i0
  obtain ⟨k, e1, _, f1⟩ := DataW.trod_int Tryz.underlying3 i1
  obtain ⟨tk, ts, e2⟩ := cut_ty i2
  obtain ⟨nd, e3, _⟩ := DataW.trod_bool Tryz.underlying4 i3
  obtain ⟨pl, e4, _, f4⟩ := DataW.trod_int Tryz.underlying3 i4
  obtain ⟨z, hz, e5⟩ := cut_ex _ i5
  simp only [Ex.c] at e5
  simp at e0 e1 e2 e3 e4 e5
  obtain ⟨e2_0, e2_1⟩ := e2
  obtain ⟨e5_0, e5_1, e5_2, e5_3, e5_4, e5_5, e5_6, e5_7, e5_8, e5_9, e5_10, e5_11, e5_12, e5_13, e5_14, e5_15, e5_16⟩ := e5
  subst e0 e1 e2_0 e2_1 e3 e4 e5_0 e5_1 e5_2 e5_3 e5_4 e5_5 e5_6 e5_7 e5_8 e5_9 e5_10 e5_11 e5_12 e5_13 e5_14 e5_15 e5_16
  exact ⟨_, ⟨nm, k, tk, ts, nd, pl, z⟩, hz, rfl⟩
/-- Pairs of a map that came in. -/
theorem cut_map {fuel : Nat} {x : DataW H × List MemPlace} {t kt vt : TypeId} {κ β : Type} {ek : κ → Value} {ev : β → Value} {ok : β → Prop} (hu : Tryz.prog.underlying t = some (.map kt vt))
    (hk : ∀ v l, keyOf Tryz.prog kt v = some l → ∃ a, v = ek a) (hv : ∀ {n : Nat} {v : Value} {y : DataW H × List MemPlace}, v.formed Tryz.prog vt = true → DataW.trod enc Tryz.prog W 0 sp true n vt v.cells.toList = some y → ∃ b, ok b ∧ v = ev b) {v : Value}
    (h : DataW.trod enc Tryz.prog W 0 sp true fuel t [v] = some x) : ∃ (r : Option Nat) (al : List (κ × β)), v = .map r ∧ MapV W ek ev v al ∧ ∀ p ∈ al, ok p.2 := by
  rcases WideElems.open_map hu h with ⟨h1, _⟩ | ⟨b, es, clock, n, _, h1, hb, _, F, _⟩
  · simp at h1; subst h1
    exact ⟨none, [], rfl, Or.inl ⟨rfl, rfl⟩, fun _ q => by cases q⟩
  · simp at h1; subst h1
    have key : ∀ (l : List MapEntry), (∀ y ∈ l, ∃ z, WideElems.rd Tryz.prog kt (WideElems.elemAt enc Tryz.prog W 0 sp true n vt) y = some z) → ∃ al : List (κ × β), l.map (fun e => (e.key, e.val)) = prB ek ev al ∧ ∀ p ∈ al, ok p.2 := by
      intro l
      induction l with
      | nil => exact fun _ => ⟨[], rfl, fun _ q => by cases q⟩
      | cons e l ih =>
        intro hl
        obtain ⟨al, h2, h3⟩ := ih fun y hy => hl y (List.mem_cons_of_mem _ hy)
        obtain ⟨z, hz⟩ := hl e (List.mem_cons_self ..)
        obtain ⟨a, ha⟩ := hk _ _ (WideElems.rd_key hz)
        obtain ⟨bb, hb1, hb2⟩ : ∃ b, ok b ∧ e.val = ev b := by
          unfold WideElems.rd WideElems.elemAt at hz
          simp only [Option.bind_eq_some_iff, Option.map_eq_some_iff] at hz
          obtain ⟨_, _, y, hy, _⟩ := hz
          by_cases hf : e.val.formed Tryz.prog vt = true
          · rw [if_pos hf] at hy; exact hv hf hy
          · simp [hf] at hy
        refine ⟨(a, bb) :: al, by simp [h2, ha, hb2], fun p hp => ?_⟩
        rcases List.mem_cons.1 hp with rfl | hp
        · exact hb1
        · exact h3 p hp
    obtain ⟨al, h2, h3⟩ := key es.toList F.reads
    exact ⟨some b, al, rfl, Or.inr ⟨b, es, _, rfl, hb, h2⟩, h3⟩
end
end D
end Go.Proofs.YtfmfeipeeedfpaaGreat
namespace Go.Proofs.YtfmfeipeeedfpaaGreat
open Go.ChangeShapes Go.WideShapes Go.ChangeAt Go.RowKit
open S (Lies)
namespace D
set_option maxRecDepth 100000 in
theorem fm_agg {t : TypeId} {fs : Array Field} (hu : Tryz.prog.underlying t = some (.struct fs)) {v : Value} (h : v.formed Tryz.prog t = true) : ∃ cs, v = .agg cs := by
  cases v with
  | agg cs => exact ⟨cs, rfl⟩
  | _ => unfold Value.formed at h; rw [hu] at h; first | cases h | (simp at h)
set_option maxRecDepth 100000 in
theorem key9 (v : Value) (l : Lit) (h : keyOf Tryz.prog 9 v = some l) : ∃ s, v = es9 s := by
  unfold keyOf at h
  rw [Tryz.underlying9] at h
  dsimp only at h
  unfold mapKey at h
  rw [Tryz.underlying9] at h
  cases v with
  | string s => exact ⟨s, rfl⟩
  | _ => simp at h
set_option maxRecDepth 100000 in
theorem kl9 {d : Nat} {c : Value} {l : List Lit} (h : Tryz.prog.keyLits d 9 [c] = some l) : ∃ s, c = .string s := by
  cases d with
  | zero => simp [Program.keyLits] at h
  | succ d =>
    unfold Program.keyLits at h
    rw [Tryz.underlying9] at h
    cases c with
    | string s => exact ⟨s, rfl⟩
    | _ => simp at h
set_option maxRecDepth 100000 in
theorem key53 (v : Value) (l : Lit) (h : keyOf Tryz.prog 53 v = some l) : ∃ p, v = es53 p := by
  unfold keyOf at h
  rw [ht53] at h
  dsimp only at h
  split at h
  next hq =>
    have hf : v.formed Tryz.prog 53 = true := by simp only [Bool.and_eq_true] at hq; exact hq.2
    obtain ⟨cs, rfl⟩ := fm_agg ht53 hf
    have hs : cs.size = 2 := by
      unfold Value.formed at hf
      rw [ht53] at hf
      have : cs.size = Tryz.prog.cellsOf 53 := by simpa using hf
      rw [this, cl_ck]
    obtain ⟨c0, c1, rfl⟩ : ∃ c0 c1, cs = #[c0, c1] := by
      match cs, hs with
      | ⟨[a, b]⟩, _ => exact ⟨a, b, rfl⟩
    cases e : Tryz.prog.keyLits (Tryz.prog.types.size + 1) 53 (Value.agg #[c0, c1]).cells.toList with
    | none => rw [e] at h; cases h
    | some ls =>
      clear h
      unfold Program.keyLits at e
      rw [ht53] at e
      dsimp only at e
      have hfo := fo53
      have hcl : Tryz.prog.cellsOf 53 = 2 := cl_ck
      split at e
      · generalize (Tryz.prog.fieldsOf 53).toList = L at hfo e
        have hl : L.length = 2 := by have := congrArg List.length hfo; simpa using this
        match L, hl with
        | [f0, f1], _ =>
          simp at hfo
          obtain ⟨⟨a0, a1, a2⟩, ⟨b0, b1, b2⟩⟩ := hfo
          have hc9 : Tryz.prog.cellsOf 9 = 1 := cl_string
          have hce : (Value.agg #[c0, c1]).cells.toList = [c0, c1] := rfl
          rw [hce] at e
          simp only [List.mapM_cons, List.mapM_nil, a1, a2, b1, b2, hc9, List.drop_zero, List.take_succ_cons, List.take_zero, List.drop_succ_cons, Option.map_eq_some_iff, Option.bind_eq_bind, Option.bind_eq_some_iff] at e
          obtain ⟨_, ⟨l0, h0, _, ⟨l1, h1, _⟩, _⟩, _⟩ := e
          obtain ⟨s, rfl⟩ := kl9 h0
          obtain ⟨t, rfl⟩ := kl9 h1
          exact ⟨(s, t), rfl⟩
      · cases e
  next => cases h
section
variable {H : Type} {enc : TypeId × Value → H} {W : World} {sp : Nat → Bool}
theorem mv28 {n : Nat} {v : Value} {y : DataW H × List MemPlace} (hf : v.formed Tryz.prog 28 = true) (h : DataW.trod enc Tryz.prog W 0 sp true n 28 v.cells.toList = some y) : ∃ b : VL, b.ok ∧ v = b.v := by
  obtain ⟨cs, rfl⟩ := fm_agg Tryz.underlying28 hf
  obtain ⟨b, hb, e⟩ := cut_vl h
  exact ⟨b, hb, by rw [VL.v, ← e]; rfl⟩
theorem mv66 {n : Nat} {v : Value} {y : DataW H × List MemPlace} (hf : v.formed Tryz.prog 66 = true) (h : DataW.trod enc Tryz.prog W 0 sp true n 66 v.cells.toList = some y) : ∃ b : CL, b.m.ok ∧ v = b.v := by
  obtain ⟨cs, rfl⟩ := fm_agg Tryz.underlying66 hf
  obtain ⟨b, hb, e⟩ := cut_cl h
  exact ⟨b, hb, by rw [CL.v, ← e]; rfl⟩
set_option maxRecDepth 100000 in
theorem cut_ev {fuel : Nat} {cs : List Value} {x : DataW H × List MemPlace} (h : DataW.trod enc Tryz.prog W 0 sp true fuel 36 cs = some x) : ∃ e : Ev, EvL W e ∧ cs = e.cells := by
  obtain ⟨xs, m, rfl, _, hl, hlen, hi⟩ := DataW.trod_struct Tryz.underlying36 h
  rw [cl_ev] at hl
  obtain ⟨c0, c1, c2, rfl⟩ : ∃ c0 c1 c2, cs = [c0, c1, c2] := by
    match cs, hl with
    | [a0, a1, a2], _ => exact ⟨a0, a1, a2, rfl⟩
  obtain ⟨y0, y1, y2, rfl⟩ : ∃ y0 y1 y2, xs = [y0, y1, y2] := by
    match xs, hlen with
    | [a0, a1, a2], _ => exact ⟨a0, a1, a2, rfl⟩
  have i0 := hi 0 _ rfl
  have i1 := hi 1 _ rfl
  have i2 := hi 2 _ rfl
  simp [cl_mn, cl_mc, cl_stb] at i0 i1 i2
  obtain ⟨r0, N, rfl, hN, hN2⟩ := cut_map (ok := VL.ok) u32 key9 mv28 i0
  obtain ⟨r1, C, rfl, hC, hC2⟩ := cut_map (ok := fun c : CL => c.m.ok) u33 key53 mv66 i1
  obtain ⟨L, pa, cap, rfl, hL, hS, _⟩ := cut_sl Tryz.underlying34 (n := 2) (by decide) cl_tb Tb.cells ⟨⟨#[]⟩, none, 0, []⟩ (TbL W) (fun _ => rfl) (fun _ h => cut_tb h) i2
  exact ⟨⟨r0, r1, pa, cap, N, C, L⟩, ⟨hN, hC, hN2, hC2, fun i y hy => by
    obtain ⟨b, o, h1, _, h2⟩ := hS.2 i y hy
    exact ⟨b, o, h1, h2⟩, hL, hS.1⟩, rfl⟩
end
end D
open D
section
variable {H : Type} {enc : TypeId × Value → H} {W : World} {base : Nat} {v : Value} {d : DataW H} {p : List MemPlace}
set_option maxRecDepth 100000 in
theorem open_ev (hv : Value.okWide Tryz.prog W .any base 36 v) (h : DataW.Trod enc Tryz.prog W 0 (fun _ => true) true 36 v d p) : ∃ e : Ev, EvL W e ∧ v = e.v := by
  obtain ⟨a, rfl, _⟩ := okWide_struct Tryz.underlying36 hv
  obtain ⟨fuel, hf⟩ := h
  obtain ⟨e, he, h1⟩ := cut_ev hf
  exact ⟨e, he, by rw [Ev.v, ← h1]; simp [Value.cells]⟩
set_option maxRecDepth 100000 in
theorem open_it (hv : Value.okWide Tryz.prog W .any base 44 v) (h : DataW.Trod enc Tryz.prog W 0 (fun _ => true) true 44 v d p) : ∃ (n : Nat) (i : It), (LT W n i.x ∧ XU n i.x) ∧ v = .agg i.c.toArray := by
  obtain ⟨a, rfl, _⟩ := okWide_struct Tryz.underlying44 hv
  obtain ⟨fuel, hf⟩ := h
  obtain ⟨n, i, hi, h1⟩ := cut_it hf
  exact ⟨n, i, hi, by rw [← h1]; simp [Value.cells]⟩
set_option maxRecDepth 100000 in
theorem open_ex (hv : Value.okWide Tryz.prog W .any base 31 v) (h : DataW.Trod enc Tryz.prog W 0 (fun _ => true) true 31 v d p) : ∃ (n : Nat) (x : Ex), (LT W n x ∧ XU n x) ∧ v = .agg x.c.toArray := by
  obtain ⟨a, rfl, _⟩ := okWide_struct Tryz.underlying31 hv
  obtain ⟨fuel, hf⟩ := h
  obtain ⟨x, hx, h1⟩ := cut_ex fuel hf
  exact ⟨fuel, x, hx, by rw [← h1]; simp [Value.cells]⟩
end
theorem laidOut : laidOutB Tryz.prog = true := by kernel_rfl
/-- What came in reads as it did, where its places are the same. -/
theorem trodAll_stays {H : Type} {enc : TypeId × Value → H} {W W' : World} {sp' : Nat → Bool} : ∀ {ts : List TypeId} {vs : List Value} {ds : List (DataW H)} {ps : List MemPlace}, (∀ t ∈ ts, Tryz.prog.readableRec t = true ∧ t < Tryz.prog.types.size) → DataW.TrodAll enc Tryz.prog W 0 (fun _ => true) true ts vs ds ps → (∀ p ∈ ps, W.sameAt W' p) → (∀ p ∈ ps, sp' p.block = true) → DataW.TrodAll enc Tryz.prog W' 0 sp' true ts vs ds ps
  | [], [], [], _, _, h, _, _ => h
  | _ :: _, _ :: _, _ :: _, _, hT, ⟨p, q, h1, h2, e⟩, hm, hs => ⟨p, q, WideElems.Trod_stays laidOut (hT _ (List.mem_cons.2 (Or.inl rfl))).1 (hT _ (List.mem_cons.2 (Or.inl rfl))).2 h1 (fun x hx => hm x (by rw [e]; exact List.mem_append_left _ hx)) (fun x hx => hs x (by rw [e]; exact List.mem_append_left _ hx)),
      trodAll_stays (fun t ht => hT t (List.mem_cons.2 (Or.inr ht))) h2 (fun x hx => hm x (by rw [e]; exact List.mem_append_right _ hx)) (fun x hx => hs x (by rw [e]; exact List.mem_append_right _ hx)), e⟩
/-- The end of a row: what was there has not turned. -/
theorem post_mw {H : Type} {enc : TypeId × Value → H} {P : Program} {f : Func} {s : ChangeSpec} {apart fresh handsOn : Bool} {W W' : World} {args : Array Value} {v : Value} {ds gs : List (DataW H)} {p : List MemPlace}
    (hW : DataW.Whole enc P f.params.toList s.vars apart W args.toList ds gs p)
    (hres : ∀ (b : Nat) (sp : Nat → Bool) (hd : Bool), DataW.TrodAll enc P W' b sp hd f.resultTypes.toList (v.resultList f.resultTypes.size) (s.fn H (ds ++ gs)).results [])
    (hargs : ∀ sp : Nat → Bool, (∀ x ∈ p, sp x.block = true) → DataW.TrodAll enc P W' 0 sp true f.params.toList args.toList (s.fn H (ds ++ gs)).args p)
    (hvars : ∀ sp : Nat → Bool, DataW.TrodVars enc P W' sp s.vars (s.fn H (ds ++ gs)).vars []) (hk : Below W.heap.size W W') :
    s.post enc P f apart fresh handsOn false W args v W' :=
  ⟨ds, gs, p, [], p, [], hW, hres _ _ _, hargs _ (fun x hx => by simpa using hW.lt x hx), hvars _, World.keptBut_mono (fun x hx => ⟨hx, Or.inr (Or.inl hx)⟩) (Below.frame hk (· ∈ p)), fun h => by cases h⟩
end Go.Proofs.YtfmfeipeeedfpaaGreat
namespace Go.Proofs.YtfmfeipeeedfpaaGreat
open Go.ChangeShapes Go.WideShapes Go.ChangeAt Go.RowKit
open S (Lies)
open D
section
variable {H : Type} {enc : TypeId × Value → H} {W : World} {sp : Nat → Bool}
theorem bulk_mem {d : DataW H} : ∀ {l : List (DataW H)}, d ∈ l → Rows.uptoBulk d ≤ Rows.uptoBulkAll l
  | x :: l, h => by
    simp only [Rows.uptoBulkAll]
    rcases List.mem_cons.1 h with rfl | h
    · omega
    · have := bulk_mem h; omega
theorem bulk_sum {d : Nat} : ∀ (L : List Ex) (E : List (DataW H)) (b : Nat), E.length = L.length → (∀ (i : Nat) (a : Ex) (z : DataW H), L[i]? = some a → E[i]? = some z → nds d a ≤ Rows.uptoBulk z) → L.foldl (fun n a => n + nds d a) b ≤ b + Rows.uptoBulkAll E
  | [], _, b, _, _ => by simp
  | a :: L, [], b, h, _ => by simp at h
  | a :: L, z :: E, b, h, hb => by
    have h1 := hb 0 a z rfl rfl
    have h2 := bulk_sum L E (b + nds d a) (by simpa using h) (fun i x y hx hy => hb (i + 1) x y (by simpa using hx) (by simpa using hy))
    simp only [List.foldl_cons, Rows.uptoBulkAll]
    omega
/-- A slice that was read: its elements were, and its bulk is theirs. -/
theorem bk_sl {fuel : Nat} {x : DataW H × List MemPlace} {t e : TypeId} (hu : Tryz.prog.underlying t = some (.slice e)) {n : Nat} (hcl : Tryz.prog.cellsOf e = n) {α : Type} {cells : α → List Value} (hlen : ∀ y, (cells y).length = n)
    {pa : Option Addr} {L : List α} {cap : Nat} (hS : ∀ i o, L[i]? = some o → ∃ b off, pa = some ⟨b, off, none⟩ ∧ Lies W b (off + i * n) (cells o)) (h : DataW.trod enc Tryz.prog W 0 sp true fuel t [.slice pa L.length cap] = some x) :
    ∃ E : List (DataW H), E.length = L.length ∧ Rows.uptoBulkAll E ≤ Rows.uptoBulk x.1 ∧ ∀ (i : Nat) (o : α) (d : DataW H), L[i]? = some o → E[i]? = some d → ∃ m y, m < fuel ∧ DataW.trod enc Tryz.prog W 0 sp true m e (cells o) = some y ∧ y.1 = d := by
  rcases DataW.trod_slice hu h with ⟨hcs, _⟩ | ⟨a, len, cap', elems, rest, k, rfl, hcs, hx, _, _, _, hlen2, hel, _, _⟩
  · simp only [List.cons.injEq, Value.slice.injEq, and_true] at hcs
    have h0 : L = [] := List.length_eq_zero_iff.1 hcs.2.1
    subst h0
    exact ⟨[], rfl, by simp [Rows.uptoBulkAll], fun i o d hi => by simp at hi⟩
  · simp only [List.cons.injEq, Value.slice.injEq, and_true] at hcs
    obtain ⟨rfl, rfl, rfl⟩ := hcs
    refine ⟨elems.map (·.1), by simp; omega, ?_, fun i o d hi hd => ?_⟩
    · rw [hx]; simp only [Rows.uptoBulk]; omega
    · have hil : i < L.length := lt_of_get hi
      have h1 := hel i hil
      obtain ⟨y, hy⟩ := get_of_lt (show i < elems.length by omega)
      rw [List.getElem?_map, hy] at hd
      rw [hy, hcl] at h1
      cases h2 : W.cells? 0 (a.add (i * n)) n with
      | none => rw [h2] at h1; cases h1
      | some cs =>
        rw [h2] at h1
        obtain ⟨_, hcn, hcc⟩ := World.cells?_some h2
        obtain ⟨b, off, e1, hr⟩ := hS i o hi
        cases e1
        have e2 : cs = cells o := by
          refine List.ext_getElem? (fun j => ?_)
          rcases Nat.lt_or_ge j n with q | q
          · rw [← hcc j q]
            obtain ⟨v, hv⟩ := get_of_lt (show j < (cells o).length by rw [hlen]; exact q)
            rw [hv, Addr.add_mid, Addr.add_mid]
            exact hr j v hv
          · rw [List.getElem?_eq_none (by omega), List.getElem?_eq_none (by rw [hlen]; omega)]
        subst e2
        exact ⟨k, y, Nat.lt_succ_self _, h1, by simpa using hd⟩
/-- A field of a struct that was read. -/
theorem bk_fd {fuel : Nat} {cs : List Value} {x : DataW H × List MemPlace} {t : TypeId} {fs : Array Field} (hu : Tryz.prog.underlying t = some (.struct fs)) (h : DataW.trod enc Tryz.prog W 0 sp true fuel t cs = some x) (j T O : Nat) {N : Nat} (hT : (fs[j]?).map (fun f => (f.type, f.offset)) = some (T, O)) (hN : Tryz.prog.cellsOf T = N) :
    ∃ m y, m < fuel ∧ DataW.trod enc Tryz.prog W 0 sp true m T ((cs.drop O).take N) = some y ∧ Rows.uptoBulk y.1 + 1 ≤ Rows.uptoBulk x.1 := by
  obtain ⟨f, hf, e⟩ := Option.map_eq_some_iff.1 hT
  cases e
  subst hN
  obtain ⟨xs, m, rfl, hx, _, hlen, hi⟩ := DataW.trod_struct hu h
  have h1 := hi j f hf
  have hj : j < fs.size := (Array.getElem?_eq_some_iff.1 hf).1
  obtain ⟨y, hy⟩ := get_of_lt (show j < xs.length by omega)
  rw [hy] at h1
  refine ⟨m, y, Nat.lt_succ_self _, h1, ?_⟩
  have h2 : y.1 ∈ xs.map (·.1) := List.mem_map_of_mem (List.mem_of_getElem? hy)
  have h3 := bulk_mem h2
  rw [hx]
  simp only [Rows.uptoBulk]
  omega
theorem nds_bulk : ∀ (fuel d : Nat) {e : Ex} {x : DataW H × List MemPlace}, LT W d e → DataW.trod enc Tryz.prog W 0 sp true fuel 31 e.c = some x → nds d e ≤ Rows.uptoBulk x.1 := by
  intro fuel
  induction fuel using Nat.strongRecOn with
  | ind fuel ih =>
    intro d e x hL h
    obtain ⟨m, y, hm, hy, hyz⟩ := bk_fd Tryz.underlying31 h 7 29 16 rfl cl_sx
    cases d with
    | zero => show 1 ≤ _; omega
    | succ d =>
    obtain ⟨E, h1, h2, h3⟩ := bk_sl Tryz.underlying29 cl_ex (fun _ => rfl) (fun i o ho => (hL.2 i o ho).1) (cap := e.cl) hy
    have h4 := bulk_sum (d := d) e.a E 1 h1 (fun i a z ha hd => by
      obtain ⟨m2, y2, hm2, hy2, rfl⟩ := h3 i a z ha hd
      exact ih m2 (by omega) d (hL.2 i a ha).2 hy2)
    show e.a.foldl (fun n y => n + nds d y) 1 ≤ _
    omega
variable {base : Nat} {v : Value} {d : DataW H} {p : List MemPlace}
set_option maxRecDepth 100000 in
theorem open_exB (hv : Value.okWide Tryz.prog W .any base 31 v) (h : DataW.Trod enc Tryz.prog W 0 (fun _ => true) true 31 v d p) : ∃ (n : Nat) (x : Ex), (LT W n x ∧ XU n x) ∧ nds n x ≤ Rows.uptoBulk d ∧ v = .agg x.c.toArray := by
  obtain ⟨a, rfl, _⟩ := okWide_struct Tryz.underlying31 hv
  obtain ⟨fuel, hf⟩ := h
  obtain ⟨x, hx, e⟩ := cut_ex fuel hf
  refine ⟨fuel, x, hx, ?_, by rw [← e]; simp [Value.cells]⟩
  rw [e] at hf
  exact nds_bulk fuel fuel hx.1 hf
end
end Go.Proofs.YtfmfeipeeedfpaaGreat
namespace Go.Proofs.YtfmfeipeeedfpaaGreat
open S
set_option maxRecDepth 20000 in
theorem t_pick (x : Ex) (w : World) : Calls Tryz.prog 47 #[.agg x.c.toArray] w fun e W => e = .returned (.tuple #[.string x.nm, .bool (decide (x.k = 2))]) ∧ Mb w W := by
  by_cases h : x.k = 2
  · rw [decide_eq_true h]
    exact fn_pure [.agg (x.c.map rel1).toArray] Tryz.func47 rfl rfl rfl (run_ok (st mo ⟨fun _ => st mo ⟨dk, st mo rfl⟩, fun h' => absurd h h'⟩))
  · rw [decide_eq_false h]
    exact fn_pure [.agg (x.c.map rel1).toArray] Tryz.func47 rfl rfl rfl (run_ok (st mo ⟨fun h' => absurd h' h, fun _ => st mo ⟨dk, st mo rfl⟩⟩))
def kxN (x : Ex) : Option ByteArray := if x.k = 2 then some x.nm else none
abbrev p0 (i : Nat) : Value := .pointer (some ⟨i, 0, none⟩)
abbrev AL := List (ByteArray × Int)
def lvN (b : Nat) (al : AL) : Value := match al with
  | [] => .slice none 0 0
  | _ :: l => .slice (some ⟨b, 0, none⟩) (l.length + 1) 1
def c5N (al : AL) (jk : List Value) : List Value := (match al with
  | [] => jk
  | _ :: _ => al.map fun (p : ByteArray × Int) => Value.string p.1).map rel1
abbrev fN : Value := .func (.func 47) #[] [].toArray
abbrev lN : Value := .func (.func 80) #[] [p0 0, p0 1, p0 2, p0 3].toArray
def hN (al : AL) (jk : List Value) : HT := [(0, some [fN]), (1, some [.map (some 4)]), (2, some [lvN 5 al]), (3, some [lN]), (4 + 4096, none), (4, some (mpl (prs es9 al))), (5 + 4096, none), (5, some (c5N al jk))]
theorem fN_fit {σ : List Nat} : fitL σ [fN] [fN] := fitL_cons (ff rfl) rfl
theorem lN_fit {σ : List Nat} (h0 : σ[0]? = some 0 := by rfl) (h1 : σ[1]? = some 1 := by rfl) (h2 : σ[2]? = some 2 := by rfl) (h3 : σ[3]? = some 3 := by rfl) : fitL σ [lN] [lN] := fitL_cons (ff (fitL_cons (fp h0) (fitL_cons (fp h1) (fitL_cons (fp h2) (fitL_cons (fp h3) rfl))))) rfl
theorem lv_fit {σ : List Nat} {b c : Nat} {al bl : AL} (e : al = bl := by rfl) (h : σ[c]? = some b := by rfl) : fitL σ [lvN b al] [lvN c bl] := by
  subst e
  refine fitL_cons ?_ rfl
  cases al with
  | nil => exact fv
  | cons q al => exact fs h
theorem fN_un {τ : List Nat} : unL τ [fN] [fN] := unL_cons (uf rfl) rfl
theorem lN_un {τ : List Nat} (h0 : τ[0]? = some 0 := by rfl) (h1 : τ[1]? = some 1 := by rfl) (h2 : τ[2]? = some 2 := by rfl) (h3 : τ[3]? = some 3 := by rfl) : unL τ [lN] [lN] := unL_cons (uf (unL_cons (S.up h0) (unL_cons (S.up h1) (unL_cons (S.up h2) (unL_cons (S.up h3) rfl))))) rfl
theorem lv_un {τ : List Nat} {b c : Nat} {al : AL} (h : τ[c]? = some b := by rfl) : unL τ [lvN c al] [lvN b al] := by
  refine unL_cons ?_ rfl
  cases al with
  | nil => exact uv
  | cons q al => exact us h
def LkC (d : Nat) : Prop := ∀ (X : World) (x : Ex) (al : AL) (jk : List Value) (c : Nat), LT X d x → Iv al c → c + nds d x ≤ 1000000000 → Ctr Tryz.prog X 80 [.agg (x.c.map rel1).toArray, p0 0, p0 1, p0 2, p0 3] (hN al jk) 6 4 (.tuple #[]) (hN (gth kxN d x al) jk) 6
theorem xcell {X' X : World} (h : Xf X' X) (a : Addr) (u : Value) (hc : X.cell? a = some u) : X'.cell? a = some u := by
  unfold World.cell? at hc ⊢
  split at hc
  · rename_i c ty fz hx
    have : (Obj.cells c ty fz) ≠ hole X := fun e => by
      unfold hole at e
      cases e
      split at hc <;> simp at hc
    rw [(h.2 _ _ hx this).1]; exact hc
  · cases hc
abbrev T0 (x : Ex) (al : AL) (jk : List Value) (X : World) : St := ⟨⟨40, [(4, p0 3), (5, p0 6)]⟩, (6, some (x.c.map rel1)) :: hN al jk, 7, X⟩
set_option maxRecDepth 20000 in
theorem look_t {d : Nat} (ih : ∀ d', d' + 1 = d → LkC d') {w : World} {l : Nat → Nat × Nat} {X : World} {x : Ex} {al : AL} {jk : List Value} {c : Nat} (hL : LT X d x) (hi : Iv al c) (hb : c + x.a.foldl (fun n y => n + nds (d - 1) y) 0 ≤ 1000000000) :
    Rn Tryz.prog ⟨w, 4, l⟩ (retC Tryz.prog Tryz.f80 X 4 (.tuple #[]) (hN (x.a.foldl (fun s y => gth kxN (d - 1) y s) al) jk) 6) (cf (T0 x al jk X) [co (sndC (sndC (Tryz.f80.body.getD .skip)))]) := by
  refine st mo (st mo ?_)
  refine w_loop (fun i : Nat => ⟨⟨40, [(4, p0 3), (5, p0 6), (30, raw (.slice x.p x.a.length x.cl)), (31, .int .i64 (x.a.length : Int)), (32, .int .i64 (i : Int))]⟩, (6, some (x.c.map rel1)) :: hN ((x.a.take i).foldl (fun s y => gth kxN (d - 1) y s) al) jk, 7, X⟩)
    (fun i => i ≤ x.a.length ∧ Iv ((x.a.take i).foldl (fun s y => gth kxN (d - 1) y s) al) (c + (x.a.take i).foldl (fun n y => n + nds (d - 1) y) 0)) (fun i => x.a.length - i) 0 ⟨by omega, by simpa using hi⟩ [0, 1, 2, 3, 4, 5, 6] ⟨rfl, ⟨fp, fp, fv, fv, fv, trivial⟩, ⟨flr rfl, fN_fit, fitL_cons fm rfl, lv_fit, lN_fit, trivial, fml, trivial, flr rfl, trivial⟩, xf, rfl, rfl⟩ ?_
  intro i ⟨hil0, hiv⟩
  have hlen := hL.len
  generalize hal : (x.a.take i).foldl (fun s y => gth kxN (d - 1) y s) al = ali at hiv ⊢
  refine st mo ⟨fun hlt => st mo ?_, fun hge => st mo (st mo ?_)⟩
  · have hil : i < x.a.length := by omega
    obtain ⟨y, hy⟩ : ∃ y, x.a[i]? = some y := ⟨_, List.getElem?_eq_getElem hil⟩
    cases d with
    | zero => rw [show x.a = [] from hL] at hy; cases hy
    | succ d =>
    obtain ⟨⟨b, o, h4, h5⟩, h8⟩ := hL.at hy
    refine ⟨b, o, i, h4, rfl, hil, st mo ⟨y.c, rfl, h5, st mo ?_⟩⟩
    have hstep : (x.a.take (i + 1)).foldl (fun n y => n + nds d y) 0 = (x.a.take i).foldl (fun n y => n + nds d y) 0 + nds d y := by rw [List.take_add_one, hy, List.foldl_append]; rfl
    have hmono : (x.a.take (i + 1)).foldl (fun n y => n + nds d y) 0 ≤ x.a.foldl (fun n y => n + nds d y) 0 := by
      have := fold_nds (d := d) (x.a.drop (i + 1)) ((x.a.take (i + 1)).foldl (fun n y => n + nds d y) 0)
      rw [← List.foldl_append, List.take_append_drop] at this
      omega
    have hb' : c + x.a.foldl (fun n y => n + nds d y) 0 ≤ 1000000000 := hb
    have hiv : Iv ali (c + (x.a.take i).foldl (fun n y => n + nds d y) 0) := hiv
    refine ⟨_, fun nn => r_c (tc := .tuple #[]) [0, 1, 2, 3, 4, 5] [some [fN], some [.map (some 8)], some [lvN 9 (gth kxN d y ali)], some [lN], some (mpl (prs es9 (gth kxN d y ali))), some (c5N (gth kxN d y ali) jk)] [8, 9] rfl rfl
      (ih d rfl X y ali jk _ h8 hiv (by omega)) (fitL_cons fv (fitL_cons fp (fitL_cons fp (fitL_cons fp (fitL_cons fp rfl))))) ⟨fN_fit, fitL_cons fm rfl, lv_fit, lN_fit, trivial, fml, trivial, flr rfl, trivial⟩ ut0 ⟨fN_un, unL_cons um rfl, lv_un, lN_un, uml, ulr rfl, trivial⟩, st mo ⟨_, wz (i + 1) rfl, st mo ?_⟩⟩
    have hal2 : gth kxN d y ali = (x.a.take (i + 1)).foldl (fun s y => gth kxN d y s) al := by rw [List.take_add_one, hy, List.foldl_append, ← hal]; rfl
    refine ⟨i + 1, ⟨hil, ?_⟩, by dsimp; omega, [0, 1, 2, 3, 8, 9, 6], rfl, ⟨fp, fp, fv, fv, fv, trivial⟩, ⟨flr rfl, fN_fit, fitL_cons fm rfl, lv_fit hal2, lN_fit, trivial, fml (by rw [hal2]; rfl), trivial, flr (by rw [hal2]; rfl), trivial⟩, xf, rfl, rfl⟩
    show Iv ((x.a.take (i + 1)).foldl (fun s y => gth kxN d y s) al) (c + (x.a.take (i + 1)).foldl (fun n y => n + nds d y) 0)
    rw [hstep, ← hal2, ← Nat.add_assoc]
    exact hiv.gth
  · have : i = x.a.length := by omega
    subst this
    rw [List.take_length] at hal
    refine ⟨rfl, [0, 1, 2, 3, 4, 5], ft0, ⟨fN_fit, fitL_cons fm rfl, lv_fit hal.symm, lN_fit, trivial, fml (by rw [hal]), trivial, flr (by rw [hal]; rfl), trivial⟩, rfl, rfl⟩
theorem stp_seen {al : AL} {a : ByteArray} (h : nof al a ≠ 0) : (∀ b, lvN b al = lvN b (stp al a)) ∧ ∀ jk, c5N al jk = c5N (stp al a) jk := by
  have hs : (lkq al a).isSome = true := by
    unfold nof at h
    cases e : lkq al a with
    | none => rw [e] at h; exact absurd rfl h
    | some v => rfl
  have hl := putq_len al a (nof al a + 1)
  have hf := putq_fst al a (nof al a + 1)
  rw [if_pos hs] at hl hf
  unfold stp
  cases al with
  | nil => cases hs
  | cons q al =>
    cases hp : putq (q :: al) a (nof (q :: al) a + 1) with
    | nil => rw [hp] at hl; cases hl
    | cons r bl =>
      rw [hp] at hl hf
      simp only [List.length_cons] at hl
      have hm : (q :: al).map (fun p : ByteArray × Int => Value.string p.1) = (r :: bl).map (fun p : ByteArray × Int => Value.string p.1) := by
        have := congrArg (List.map Value.string) hf
        rw [List.map_map, List.map_map] at this
        exact this.symm
      exact ⟨fun b => by simp only [lvN]; rw [show bl.length + 1 = al.length + 1 from hl], fun jk => by simp only [c5N]; rw [hm]⟩
theorem stp_new {al : AL} {a : ByteArray} (h : lkq al a = none) : stp al a = al ++ [(a, 1)] := by
  unfold stp nof
  rw [h]
  exact putq_none al a _ h
set_option maxRecDepth 20000 in
theorem look_s {d : Nat} (ih : ∀ d', d' + 1 = d → LkC d') : LkC d := fun X x al jk c hL hi hb => by
  have hg : gth kxN d x al = x.a.foldl (fun s y => gth kxN (d - 1) y s) (one kxN x al) := by
    cases d with
    | zero => rw [show x.a = [] from hL]; rfl
    | succ d => rfl
  have hb1 : c + 1 + x.a.foldl (fun n y => n + nds (d - 1) y) 0 ≤ 1000000000 := by
    cases d with
    | zero => rw [show x.a = [] from hL]; exact hb
    | succ d =>
      have h9 : c + x.a.foldl (fun n y => n + nds d y) 1 ≤ 1000000000 := hb
      rw [fold_nds x.a 1] at h9
      show c + 1 + x.a.foldl (fun n y => n + nds d y) 0 ≤ _
      omega
  rw [hg]
  have hn := hi.nof x.nm
  have hil := hi.l
  refine fn_c _ Tryz.func80 rfl rfl rfl rfl (fun w l X' hX => run_ok (st mo ?_))
  have tail := fun (al : AL) (hi : Iv al (c + 1)) => look_t (jk := jk) ih (w := w) (l := l) (hL.mono (xcell hX)) hi hb1
  refine ⟨_, fun nn => r_callF (t := .tuple #[.string x.nm, .bool (decide (x.k = 2))]) rfl rfl Tryz.func47 (fun W M E => t_pick x W), st mo ?_⟩
  refine ⟨fun h2 => ?_, fun h2 => ?_⟩
  · have e1 : one kxN x al = stp al x.nm := by unfold one kxN; rw [if_pos (of_decide_eq_true h2)]
    rw [e1]
    have tl := tail _ (hi.stp x.nm)
    refine st mo ⟨_, fun nn => r_lk (al := al) (a := x.nm) kt9 Tryz.underlying72 rfl rfl, st mo ?_⟩
    refine ⟨fun h0 => ?_, fun h1 => ?_⟩
    · have hno := hn.2.2 h0
      rcases al with _ | ⟨q, al⟩
      · refine st mo ⟨1, [.string x.nm], _, put_own rfl rfl rfl rfl rfl, by omega, by omega, st mo ?_⟩
        refine ⟨_, fun nn => r_lk (al := ([] : AL)) (a := x.nm) kt9 Tryz.underlying72 rfl rfl, st mo ⟨_, wi, st mo ⟨_, fun nn => r_mp (al := ([] : AL)) (a := x.nm) kt9 Tryz.underlying72 nn rfl rfl, ?_⟩⟩⟩
        exact rn_fit (T0 x (stp [] x.nm) jk X') [0, 1, 2, 3, 4, 8, 6] ⟨rfl, ⟨fp, fp, trivial⟩, ⟨flr rfl, fN_fit, fitL_cons fm rfl, fitL_cons fs rfl, lN_fit, trivial, fml, trivial, flr rfl, trivial⟩, xf, rfl, rfl⟩ tl
      · refine st mo ⟨?_, 1, [.string x.nm], _, put_own rfl rfl rfl rfl rfl, ?_, _, rfl, st mo ?_⟩
        · show (c5N (q :: al) jk).length = (al.length + 1) * 1
          simp [c5N]
        · simp only [List.length_cons] at hil; omega
        refine ⟨_, fun nn => r_lk (al := q :: al) (a := x.nm) kt9 Tryz.underlying72 rfl rfl, st mo ⟨_, wi, st mo ⟨_, fun nn => r_mp (al := q :: al) (a := x.nm) kt9 Tryz.underlying72 nn rfl rfl, ?_⟩⟩⟩
        rw [stp_new hno] at tl ⊢
        refine rn_fit (T0 x ((q :: al) ++ [(x.nm, 1)]) jk X') [0, 1, 2, 3, 4, 8, 6] ⟨rfl, ⟨fp, fp, trivial⟩, ⟨flr rfl, fN_fit, fitL_cons fm rfl, ?_, lN_fit, trivial, fml ?_, trivial, flr ?_, trivial⟩, xf, rfl, rfl⟩ tl
        · refine fitL_cons ?_ rfl
          show S.fitV _ _ (.slice (some ⟨5, 0, none⟩) ((al ++ [(x.nm, 1)]).length + 1) 1)
          rw [show (al ++ [(x.nm, (1 : Int))]).length + 1 = (al.length + 1) + 1 by simp]
          exact fs
        · rw [h0, putq_none _ _ _ hno]; rfl
        · simp [c5N, rel1]
    · refine st mo ⟨_, fun nn => r_lk (al := al) (a := x.nm) kt9 Tryz.underlying72 rfl rfl, st mo ⟨_, wi, st mo ⟨_, fun nn => r_mp (al := al) (a := x.nm) kt9 Tryz.underlying72 nn rfl rfl, ?_⟩⟩⟩
      obtain ⟨q1, q2⟩ := stp_seen h1
      exact rn_fit (T0 x (stp al x.nm) jk X') [0, 1, 2, 3, 4, 5, 6] ⟨rfl, ⟨fp, fp, trivial⟩, ⟨flr rfl, fN_fit, fitL_cons fm rfl, by rw [← q1 5]; exact lv_fit, lN_fit, trivial, fml, trivial, flr (q2 jk), trivial⟩, xf, rfl, rfl⟩ tl
  · have e1 : one kxN x al = al := by unfold one kxN; rw [if_neg (of_decide_eq_false h2)]
    rw [e1]
    have tl := tail _ (hi.up (by omega))
    refine adv_ok mo 1 _ ?_
    exact rn_fit (T0 x al jk X') [0, 1, 2, 3, 4, 5, 6] ⟨rfl, ⟨fp, fp, trivial⟩, ⟨flr rfl, fN_fit, fitL_cons fm rfl, lv_fit, lN_fit, trivial, fml, trivial, flr rfl, trivial⟩, xf, rfl, rfl⟩ tl
theorem look_n (d : Nat) : LkC d := by
  induction d with
  | zero => exact look_s fun d' h => (by omega)
  | succ d ih => exact look_s fun d' h => by cases h; exact ih
end Go.Proofs.YtfmfeipeeedfpaaGreat
namespace Go.Proofs.YtfmfeipeeedfpaaGreat
open S
/-- A list of names as a slice of its own: nothing, or a block. -/
def hRf (al : AL) : HT := match al with
  | [] => []
  | _ :: _ => [(0 + 4096, none), (0, some ((al.map fun p => Value.string p.1).map rel1))]
def nR (al : AL) : Nat := match al with
  | [] => 0
  | _ :: _ => 1
set_option maxRecDepth 20000 in
theorem gat_n (d : Nat) (X : World) (x : Ex) (hL : LT X d x) (hb : nds d x ≤ 1000000000) : Ctr Tryz.prog X 46 [.agg (x.c.map rel1).toArray, fN] [] 0 0 (lvN 0 (gth kxN d x [])) (hRf (gth kxN d x [])) (nR (gth kxN d x [])) := by
  refine fn_c _ Tryz.func46 rfl rfl rfl rfl (fun w l X' hX => run_ok (st mo ?_))
  refine ⟨_, fun nn => r_mk, st mo ?_⟩
  refine ⟨_, fun nn => r_c (tc := .tuple #[]) [1, 4, 2, 5, 3, 0] [some [fN], some [.map (some 6)], some [lvN 7 (gth kxN d x [])], some [.func (.func 80) #[] [p0 1, p0 4, p0 2, p0 5].toArray], some (mpl (prs es9 (gth kxN d x []))), some (c5N (gth kxN d x []) x.c)] [6, 7] rfl rfl
      (look_n d X' x [] x.c 0 (hL.mono (xcell hX)) ⟨fun _ h => (by cases h), Nat.le_refl _⟩ (by omega)) (fitL_cons fv (fitL_cons fp (fitL_cons fp (fitL_cons fp (fitL_cons fp rfl))))) ⟨fN_fit, fitL_cons fm rfl, fitL_cons fv rfl, fitL_cons (ff (fitL_cons fp (fitL_cons fp (fitL_cons fp (fitL_cons fp rfl))))) rfl, trivial, fml, trivial, flr rfl, trivial⟩ ut0 ⟨fN_un, unL_cons um rfl, lv_un, unL_cons (uf (unL_cons S.up (unL_cons S.up (unL_cons S.up (unL_cons S.up rfl))))) rfl, uml, ulr rfl, trivial⟩, st mo ?_⟩
  generalize gth kxN d x [] = al
  rcases al with _ | ⟨q, al⟩
  · exact ⟨rfl, [], fv, trivial, rfl, rfl⟩
  · exact ⟨rfl, [7], fs, ⟨trivial, flr rfl, trivial⟩, rfl, rfl⟩
end Go.Proofs.YtfmfeipeeedfpaaGreat
namespace Go.Proofs.YtfmfeipeeedfpaaGreat
namespace S
/-- All orders. -/
def ords (ops : Array Oper) : Nat → Array Bool → List (List Nat)
  | 0, _ => [[]]
  | m + 1, listed => match Region.ready .any ops listed with
    | [] => [[]]
    | rs => rs.flatMap fun i => (ords ops m (listed.setIfInBounds i true)).map (i :: ·)
theorem ords_mem (ops : Array Oper) : ∀ (fuel t : Nat) (listed : Array Bool), Region.linearise.go .any ops fuel t listed [] ∈ ords ops fuel listed
  | 0, t, listed => by simp [Region.linearise.go, ords]
  | fuel + 1, t, listed => by
    simp only [Region.linearise.go, ords]
    change (match (Region.ready .any ops listed)[t % (Region.ready .any ops listed).length]? with
      | some i => Region.linearise.go .any ops fuel (t / (Region.ready .any ops listed).length) (listed.setIfInBounds i true) [i]
      | none => [].reverse) ∈ _
    cases hr : Region.ready .any ops listed with
    | nil => simp
    | cons x xs =>
      have hlt : t % (x :: xs).length < (x :: xs).length := Nat.mod_lt _ (by simp)
      rw [List.getElem?_eq_getElem hlt]
      simp only
      rw [linearise_go_acc, List.reverse_singleton, List.singleton_append]
      refine List.mem_flatMap.2 ⟨_, List.getElem_mem hlt, List.mem_map.2 ⟨_, ords_mem ops fuel _ _, rfl⟩⟩
theorem wpOps_of_list {P : Program} {ops : Array Oper} {Q : Exit → Act → World → Prop} : ∀ (l : List Nat) (a : Act) (w : World), wpList P ops Q (l.filterMap (ops[·]?)) a w → wpOps P ops Q l a w
  | [], a, w, h => h
  | i :: l, a, w, h => by
    rw [wpOps_cons]
    unfold wpOp
    cases ho : ops[i]? with
    | none => simp only [List.filterMap_cons, ho] at h; exact wpOps_of_list l a w h
    | some o =>
      simp only [List.filterMap_cons, ho] at h
      unfold wpList at h
      simp only
      by_cases hw : Region.wanted o (yielded ops a.tmps) = true
      · rw [if_pos hw] at h ⊢
        exact h.imp (Oper.wp_mono (fun a w => wpOps_of_list l a w)) id
      · rw [if_neg hw] at h ⊢
        exact wpOps_of_list l _ w h
section
variable {P : Program} {w0 : B0} {C : Exit → St → Prop}
theorem rn_any (hmo : P.follows .mixedOrders = true) {ops ops0 : Array Oper} {id : Nat} {f : FT} {h : HT} {n r w : Nat} {l : List (Nat × Nat)} {X : World} {stk : List It} (L : List (List Nat)) (hh : ∀ o ∈ L, Rn P w0 C ⟨ops, o.filterMap (ops[·]?), false, ⟨f, h, n, 0, 0, []⟩, X, stk⟩) (hL : ords ops ops.size (Array.replicate ops.size false) = L := by kernel_rfl) : Rn P w0 C ⟨ops0, [], false, ⟨f, h, n, r, w, l⟩, X, co (.region id ops true) :: stk⟩ := by
  intro nn
  refine ⟨_, rfl, fun h => (by cases h), ?_⟩
  show WC P w0 (.region id ops true) ⟨f, h, n, X⟩ (RnE P w0 C stk)
  intro Q k W a Rl' hK
  refine wp_region_draw fun t => ?_
  simp only [Region.schedule, hmo, Bool.true_or, if_true]
  refine wpOps_of_list _ _ _ ?_
  obtain ⟨s', hs, _, e⟩ := hh _ (hL ▸ ords_mem ops ops.size t _) nn
  have am' : Am w0 X k { W with drawn := W.drawn + 1 } := Am.drew k W Rl'.am
  have Rl2 : Rl w0 ⟨f, h, n, X⟩ k { W with drawn := W.drawn + 1 } a := ⟨Rl'.fr, ⟨fun i hi cs hc => Rl'.hr.rep i hi cs hc, Rl'.hr.inj⟩, Rl'.nn, Rl'.nk, am'⟩
  obtain ⟨r', w', h1, h2, ss, ok⟩ := list_ok (Am.stable w0 X) _ ⟨f, h, n, 0, 0, []⟩ s' nn hs
  exact ok k _ a Q am' Rl2.fr (Rl2.hr.all Rl2.nn _) (fun i h1 _ => Rl2.nk i h1) fun k' W' a' hd hf => hK _ _ k' W' a' (Rl2.step ss hd hf) e
end
end S
end Go.Proofs.YtfmfeipeeedfpaaGreat
namespace Go.Proofs.YtfmfeipeeedfpaaGreat
open S
/-- The column that an aggregate asks for. -/
def colK (x : Ex) : ByteArray × ByteArray := if x.op = 16 then (x.sc, ⟨#[]⟩) else (x.sc, x.nm)
set_option maxRecDepth 20000 in
theorem t_colm (x : Ex) (w : World) : Calls Tryz.prog 52 #[.agg x.c.toArray] w fun e W => e = .returned (es53 (colK x)) ∧ Mb w W := by
  unfold colK
  by_cases h : x.op = 16
  · rw [if_pos h]
    exact fn_pure [.agg (x.c.map rel1).toArray] Tryz.func52 rfl rfl rfl (run_ok (st mo ⟨fun _ => st mo rfl, fun h' => absurd h h'⟩))
  · rw [if_neg h]
    exact fn_pure [.agg (x.c.map rel1).toArray] Tryz.func52 rfl rfl rfl (run_ok (st mo ⟨fun h' => absurd h' h, fun _ => st mo rfl⟩))
set_option maxRecDepth 20000 in
theorem t_pickC (x : Ex) (w : World) : Calls Tryz.prog 51 #[.agg x.c.toArray] w fun e W => e = .returned (.tuple #[es53 (colK x), .bool (decide (x.k = 10))]) ∧ Mb w W := by
  by_cases h : x.k = 10
  · rw [decide_eq_true h]
    exact fn_pure [.agg (x.c.map rel1).toArray] Tryz.func51 rfl rfl rfl (run_ok (st mo ⟨_, fun nn => r_call (t := es53 (colK x)) rfl rfl Tryz.func52 (fun W M E => t_colm x W), st mo ⟨fun _ => st mo ⟨dk, st mo rfl⟩, fun h' => absurd h h'⟩⟩))
  · rw [decide_eq_false h]
    exact fn_pure [.agg (x.c.map rel1).toArray] Tryz.func51 rfl rfl rfl (run_ok (st mo ⟨_, fun nn => r_call (t := es53 (colK x)) rfl rfl Tryz.func52 (fun W M E => t_colm x W), st mo ⟨fun h' => absurd h' h, fun _ => st mo ⟨dk, st mo rfl⟩⟩⟩))
def kxC (x : Ex) : Option (ByteArray × ByteArray) := if x.k = 10 then some (colK x) else none
abbrev CLf := List ((ByteArray × ByteArray) × Int)
def lvC (b : Nat) (al : CLf) : Value := match al with
  | [] => .slice none 0 0
  | _ :: l => .slice (some ⟨b, 0, none⟩) (l.length + 1) 2
def c5C (al : CLf) (jk : List Value) : List Value := (match al with
  | [] => jk
  | _ :: _ => al.flatMap fun (p : (ByteArray × ByteArray) × Int) => [Value.string p.1.1, Value.string p.1.2]).map rel1
abbrev fC : Value := .func (.func 51) #[] [].toArray
abbrev lC : Value := .func (.func 84) #[] [p0 0, p0 1, p0 2, p0 3].toArray
def hC (al : CLf) (jk : List Value) : HT := [(0, some [fC]), (1, some [.map (some 4)]), (2, some [lvC 5 al]), (3, some [lC]), (4 + 4096, none), (4, some (mpl (prs es53 al))), (5 + 4096, none), (5, some (c5C al jk))]
theorem fC_fit {σ : List Nat} : fitL σ [fC] [fC] := fitL_cons (ff rfl) rfl
theorem lC_fit {σ : List Nat} (h0 : σ[0]? = some 0 := by rfl) (h1 : σ[1]? = some 1 := by rfl) (h2 : σ[2]? = some 2 := by rfl) (h3 : σ[3]? = some 3 := by rfl) : fitL σ [lC] [lC] := fitL_cons (ff (fitL_cons (fp h0) (fitL_cons (fp h1) (fitL_cons (fp h2) (fitL_cons (fp h3) rfl))))) rfl
theorem lvC_fit {σ : List Nat} {b c : Nat} {al bl : CLf} (e : al = bl := by rfl) (h : σ[c]? = some b := by rfl) : fitL σ [lvC b al] [lvC c bl] := by
  subst e
  refine fitL_cons ?_ rfl
  cases al with
  | nil => exact fv
  | cons q al => exact fs h
theorem fC_un {τ : List Nat} : unL τ [fC] [fC] := unL_cons (uf rfl) rfl
theorem lC_un {τ : List Nat} (h0 : τ[0]? = some 0 := by rfl) (h1 : τ[1]? = some 1 := by rfl) (h2 : τ[2]? = some 2 := by rfl) (h3 : τ[3]? = some 3 := by rfl) : unL τ [lC] [lC] := unL_cons (uf (unL_cons (S.up h0) (unL_cons (S.up h1) (unL_cons (S.up h2) (unL_cons (S.up h3) rfl))))) rfl
theorem lvC_un {τ : List Nat} {b c : Nat} {al : CLf} (h : τ[c]? = some b := by rfl) : unL τ [lvC c al] [lvC b al] := by
  refine unL_cons ?_ rfl
  cases al with
  | nil => exact uv
  | cons q al => exact us h
def LcC (d : Nat) : Prop := ∀ (X : World) (x : Ex) (al : CLf) (jk : List Value) (c : Nat), LT X d x → Iv al c → c + nds d x ≤ 1000000000 → Ctr Tryz.prog X 84 [.agg (x.c.map rel1).toArray, p0 0, p0 1, p0 2, p0 3] (hC al jk) 6 4 (.tuple #[]) (hC (gth kxC d x al) jk) 6
abbrev T1 (x : Ex) (al : CLf) (jk : List Value) (X : World) : St := ⟨⟨42, [(4, p0 3), (5, p0 6)]⟩, (6, some (x.c.map rel1)) :: hC al jk, 7, X⟩
set_option maxRecDepth 20000 in
theorem lcol_t {d : Nat} (ih : ∀ d', d' + 1 = d → LcC d') {w : World} {l : Nat → Nat × Nat} {X : World} {x : Ex} {al : CLf} {jk : List Value} {c : Nat} (hL : LT X d x) (hi : Iv al c) (hb : c + x.a.foldl (fun n y => n + nds (d - 1) y) 0 ≤ 1000000000) :
    Rn Tryz.prog ⟨w, 4, l⟩ (retC Tryz.prog Tryz.f84 X 4 (.tuple #[]) (hC (x.a.foldl (fun s y => gth kxC (d - 1) y s) al) jk) 6) (cf (T1 x al jk X) [co (sndC (sndC (Tryz.f84.body.getD .skip)))]) := by
  refine st mo (st mo ?_)
  refine w_loop (fun i : Nat => ⟨⟨42, [(4, p0 3), (5, p0 6), (32, raw (.slice x.p x.a.length x.cl)), (33, .int .i64 (x.a.length : Int)), (34, .int .i64 (i : Int))]⟩, (6, some (x.c.map rel1)) :: hC ((x.a.take i).foldl (fun s y => gth kxC (d - 1) y s) al) jk, 7, X⟩)
    (fun i => i ≤ x.a.length ∧ Iv ((x.a.take i).foldl (fun s y => gth kxC (d - 1) y s) al) (c + (x.a.take i).foldl (fun n y => n + nds (d - 1) y) 0)) (fun i => x.a.length - i) 0 ⟨by omega, by simpa using hi⟩ [0, 1, 2, 3, 4, 5, 6] ⟨rfl, ⟨fp, fp, fv, fv, fv, trivial⟩, ⟨flr rfl, fC_fit, fitL_cons fm rfl, lvC_fit, lC_fit, trivial, fml, trivial, flr rfl, trivial⟩, xf, rfl, rfl⟩ ?_
  intro i ⟨hil0, hiv⟩
  have hlen := hL.len
  generalize hal : (x.a.take i).foldl (fun s y => gth kxC (d - 1) y s) al = ali at hiv ⊢
  refine st mo ⟨fun hlt => st mo ?_, fun hge => st mo (st mo ?_)⟩
  · have hil : i < x.a.length := by omega
    obtain ⟨y, hy⟩ : ∃ y, x.a[i]? = some y := ⟨_, List.getElem?_eq_getElem hil⟩
    cases d with
    | zero => rw [show x.a = [] from hL] at hy; cases hy
    | succ d =>
    obtain ⟨⟨b, o, h4, h5⟩, h8⟩ := hL.at hy
    refine ⟨b, o, i, h4, rfl, hil, st mo ⟨y.c, rfl, h5, st mo ?_⟩⟩
    have hstep : (x.a.take (i + 1)).foldl (fun n y => n + nds d y) 0 = (x.a.take i).foldl (fun n y => n + nds d y) 0 + nds d y := by rw [List.take_add_one, hy, List.foldl_append]; rfl
    have hmono : (x.a.take (i + 1)).foldl (fun n y => n + nds d y) 0 ≤ x.a.foldl (fun n y => n + nds d y) 0 := by
      have := fold_nds (d := d) (x.a.drop (i + 1)) ((x.a.take (i + 1)).foldl (fun n y => n + nds d y) 0)
      rw [← List.foldl_append, List.take_append_drop] at this
      omega
    have hb' : c + x.a.foldl (fun n y => n + nds d y) 0 ≤ 1000000000 := hb
    have hiv : Iv ali (c + (x.a.take i).foldl (fun n y => n + nds d y) 0) := hiv
    refine ⟨_, fun nn => r_c (tc := .tuple #[]) [0, 1, 2, 3, 4, 5] [some [fC], some [.map (some 8)], some [lvC 9 (gth kxC d y ali)], some [lC], some (mpl (prs es53 (gth kxC d y ali))), some (c5C (gth kxC d y ali) jk)] [8, 9] rfl rfl
      (ih d rfl X y ali jk _ h8 hiv (by omega)) (fitL_cons fv (fitL_cons fp (fitL_cons fp (fitL_cons fp (fitL_cons fp rfl))))) ⟨fC_fit, fitL_cons fm rfl, lvC_fit, lC_fit, trivial, fml, trivial, flr rfl, trivial⟩ ut0 ⟨fC_un, unL_cons um rfl, lvC_un, lC_un, uml, ulr rfl, trivial⟩, st mo ⟨_, wz (i + 1) rfl, st mo ?_⟩⟩
    have hal2 : gth kxC d y ali = (x.a.take (i + 1)).foldl (fun s y => gth kxC d y s) al := by rw [List.take_add_one, hy, List.foldl_append, ← hal]; rfl
    refine ⟨i + 1, ⟨hil, ?_⟩, by dsimp; omega, [0, 1, 2, 3, 8, 9, 6], rfl, ⟨fp, fp, fv, fv, fv, trivial⟩, ⟨flr rfl, fC_fit, fitL_cons fm rfl, lvC_fit hal2, lC_fit, trivial, fml (by rw [hal2]; rfl), trivial, flr (by rw [hal2]; rfl), trivial⟩, xf, rfl, rfl⟩
    show Iv ((x.a.take (i + 1)).foldl (fun s y => gth kxC d y s) al) (c + (x.a.take (i + 1)).foldl (fun n y => n + nds d y) 0)
    rw [hstep, ← hal2, ← Nat.add_assoc]
    exact hiv.gth
  · have : i = x.a.length := by omega
    subst this
    rw [List.take_length] at hal
    refine ⟨rfl, [0, 1, 2, 3, 4, 5], ft0, ⟨fC_fit, fitL_cons fm rfl, lvC_fit hal.symm, lC_fit, trivial, fml (by rw [hal]), trivial, flr (by rw [hal]; rfl), trivial⟩, rfl, rfl⟩
theorem stp_seenC {al : CLf} {a : ByteArray × ByteArray} (h : nof al a ≠ 0) : (∀ b, lvC b al = lvC b (stp al a)) ∧ ∀ jk, c5C al jk = c5C (stp al a) jk := by
  have hs : (lkq al a).isSome = true := by
    unfold nof at h
    cases e : lkq al a with
    | none => rw [e] at h; exact absurd rfl h
    | some v => rfl
  have hl := putq_len al a (nof al a + 1)
  have hf := putq_fst al a (nof al a + 1)
  rw [if_pos hs] at hl hf
  unfold stp
  cases al with
  | nil => cases hs
  | cons q al =>
    cases hp : putq (q :: al) a (nof (q :: al) a + 1) with
    | nil => rw [hp] at hl; cases hl
    | cons r bl =>
      rw [hp] at hl hf
      simp only [List.length_cons] at hl
      have hm : (q :: al).flatMap (fun p : (ByteArray × ByteArray) × Int => [Value.string p.1.1, Value.string p.1.2]) = (r :: bl).flatMap (fun p : (ByteArray × ByteArray) × Int => [Value.string p.1.1, Value.string p.1.2]) := by
        have := congrArg (List.flatMap fun p : ByteArray × ByteArray => [Value.string p.1, Value.string p.2]) hf
        rw [List.flatMap_map, List.flatMap_map] at this
        exact this.symm
      exact ⟨fun b => by simp only [lvC]; rw [show bl.length + 1 = al.length + 1 from hl], fun jk => by simp only [c5C]; rw [hm]⟩
theorem stp_newC {al : CLf} {a : ByteArray × ByteArray} (h : lkq al a = none) : stp al a = al ++ [(a, 1)] := by
  unfold stp nof
  rw [h]
  exact putq_none al a _ h
theorem pof_lt {κ : Type} [DecidableEq κ] : ∀ (al : List (κ × Int)) (a : κ) (x : Int), pof al a < (putq al a x).length
  | [], a, x => by simp [pof, putq]
  | (b, u) :: r, a, x => by
    by_cases e : b = a
    · simp [pof, putq, e]
    · simp only [pof, putq, if_neg e, List.length_cons]; have := pof_lt r a x; omega
theorem c5C_len (q : (ByteArray × ByteArray) × Int) (al : CLf) (jk : List Value) : (c5C (q :: al) jk).length = (al.length + 1) * 2 := by
  have key : ∀ l : CLf, (l.flatMap fun (p : (ByteArray × ByteArray) × Int) => [Value.string p.1.1, Value.string p.1.2]).length = l.length * 2 := by
    intro l
    induction l with
    | nil => rfl
    | cons p l ih => simp only [List.flatMap_cons, List.length_append, ih, List.length_cons, List.length_nil]; omega
  simp only [c5C, List.length_map]
  exact key (q :: al)
theorem nof_put {κ : Type} [DecidableEq κ] (al : List (κ × Int)) (a : κ) : nof (putq al a (nof al a)) a = nof al a := by
  show (lkq (putq al a (nof al a)) a).getD 0 = _
  rw [lkq_put, if_pos rfl]; rfl
abbrev T2 (x : Ex) (al bl : CLf) (jk : List Value) (X : World) : St := ⟨⟨42, [(2, p0 1), (4, p0 3), (5, p0 6), (6, p0 7)]⟩, (6, some (x.c.map rel1)) :: (7, some [.string (colK x).1, .string (colK x).2]) :: [(0, some [fC]), (1, some [.map (some 4)]), (2, some [lvC 5 bl]), (3, some [lC]), (4 + 4096, none), (4, some (mpl (prs es53 al))), (5 + 4096, none), (5, some (c5C bl jk))], 8, X⟩
/-- The code at a place: the first part, the last part. -/
def fstC (c : Code) : Code := match c with
  | .seq a _ => a
  | c => c
def thenC (c : Code) : Code := match c with
  | .cond _ a _ => a
  | c => c
set_option maxRecDepth 20000 in
theorem lcol_5 {w : World} {l : Nat → Nat × Nat} {X : World} {x : Ex} {al : CLf} {jk : List Value} {c : Nat} (hi : Iv al c) (hc : c ≤ 1000000000) {C : Exit → St → Prop} {c5 : Code} {stk : List S.It} (h5 : c5 = sndC (thenC (sndC (sndC (fstC (sndC (Tryz.f84.body.getD .skip)))))))
    (tl : Rn Tryz.prog ⟨w, 4, l⟩ C (cf (T1 x (stp al (colK x)) jk X) stk)) (hs : ∃ c' l', stk = co c' :: l') : Rn Tryz.prog ⟨w, 4, l⟩ C (cf (T2 x al (stp al (colK x)) jk X) (co c5 :: stk)) := by
  subst h5
  obtain ⟨c', l', rfl⟩ := hs
  have hn := hi.nof (colK x)
  have hn2 := nof_put al (colK x)
  refine rn_any mo [[0, 1, 2, 3, 4, 5, 6], [0, 1, 2, 4, 3, 5, 6], [0, 1, 2, 4, 5, 3, 6], [0, 1, 4, 2, 3, 5, 6], [0, 1, 4, 2, 5, 3, 6], [0, 1, 4, 5, 2, 3, 6], [1, 0, 2, 3, 4, 5, 6], [1, 0, 2, 4, 3, 5, 6], [1, 0, 2, 4, 5, 3, 6], [1, 0, 4, 2, 3, 5, 6], [1, 0, 4, 2, 5, 3, 6], [1, 0, 4, 5, 2, 3, 6]] ?_
  intro o ho
  simp only [List.mem_cons, List.not_mem_nil, or_false] at ho
  rcases ho with rfl | rfl | rfl | rfl | rfl | rfl | rfl | rfl | rfl | rfl | rfl | rfl
  · refine st mo ⟨_, fun nn => r_lk (al := al) (a := colK x) kt53 Tryz.underlying123 rfl rfl, st mo ⟨_, wi, st mo ⟨_, fun nn => r_en (al := al) (a := colK x) kt53 Tryz.underlying123 nn rfl rfl, st mo ⟨_, fun nn => r_es (j := pof al (colK x)) nn (pof_lt _ _ _) rfl, ?_⟩⟩⟩⟩
    exact rn_fit (T1 x (stp al (colK x)) jk X) [0, 1, 2, 3, 4, 5, 6] ⟨rfl, ⟨fp, fp, trivial⟩, ⟨flr rfl, fC_fit, fitL_cons fm rfl, lvC_fit, lC_fit, trivial, fml (by rw [put_put]; rfl), trivial, flr rfl, trivial⟩, xf, rfl, rfl⟩ tl
  · refine st mo ⟨_, fun nn => r_lk (al := al) (a := colK x) kt53 Tryz.underlying123 rfl rfl, st mo ⟨_, fun nn => r_en (al := al) (a := colK x) kt53 Tryz.underlying123 nn rfl rfl, st mo ⟨_, wi, st mo ⟨_, fun nn => r_es (j := pof al (colK x)) nn (pof_lt _ _ _) rfl, ?_⟩⟩⟩⟩
    exact rn_fit (T1 x (stp al (colK x)) jk X) [0, 1, 2, 3, 4, 5, 6] ⟨rfl, ⟨fp, fp, trivial⟩, ⟨flr rfl, fC_fit, fitL_cons fm rfl, lvC_fit, lC_fit, trivial, fml (by rw [put_put]; rfl), trivial, flr rfl, trivial⟩, xf, rfl, rfl⟩ tl
  · refine st mo ⟨_, fun nn => r_lk (al := al) (a := colK x) kt53 Tryz.underlying123 rfl rfl, st mo ⟨_, fun nn => r_en (al := al) (a := colK x) kt53 Tryz.underlying123 nn rfl rfl, st mo ⟨_, wi, st mo ⟨_, fun nn => r_es (j := pof al (colK x)) nn (pof_lt _ _ _) rfl, ?_⟩⟩⟩⟩
    exact rn_fit (T1 x (stp al (colK x)) jk X) [0, 1, 2, 3, 4, 5, 6] ⟨rfl, ⟨fp, fp, trivial⟩, ⟨flr rfl, fC_fit, fitL_cons fm rfl, lvC_fit, lC_fit, trivial, fml (by rw [put_put]; rfl), trivial, flr rfl, trivial⟩, xf, rfl, rfl⟩ tl
  · refine st mo ⟨_, fun nn => r_en (al := al) (a := colK x) kt53 Tryz.underlying123 nn rfl rfl, st mo ⟨_, fun nn => r_lk (al := putq al (colK x) (nof al (colK x))) (a := colK x) kt53 Tryz.underlying123 rfl rfl, st mo ⟨_, wi, st mo ⟨_, fun nn => r_es (j := pof al (colK x)) nn (pof_lt _ _ _) rfl, ?_⟩⟩⟩⟩
    exact rn_fit (T1 x (stp al (colK x)) jk X) [0, 1, 2, 3, 4, 5, 6] ⟨rfl, ⟨fp, fp, trivial⟩, ⟨flr rfl, fC_fit, fitL_cons fm rfl, lvC_fit, lC_fit, trivial, fml (by rw [put_put, nof_put]; rfl), trivial, flr rfl, trivial⟩, xf, rfl, rfl⟩ tl
  · refine st mo ⟨_, fun nn => r_en (al := al) (a := colK x) kt53 Tryz.underlying123 nn rfl rfl, st mo ⟨_, fun nn => r_lk (al := putq al (colK x) (nof al (colK x))) (a := colK x) kt53 Tryz.underlying123 rfl rfl, st mo ⟨_, wi, st mo ⟨_, fun nn => r_es (j := pof al (colK x)) nn (pof_lt _ _ _) rfl, ?_⟩⟩⟩⟩
    exact rn_fit (T1 x (stp al (colK x)) jk X) [0, 1, 2, 3, 4, 5, 6] ⟨rfl, ⟨fp, fp, trivial⟩, ⟨flr rfl, fC_fit, fitL_cons fm rfl, lvC_fit, lC_fit, trivial, fml (by rw [put_put, nof_put]; rfl), trivial, flr rfl, trivial⟩, xf, rfl, rfl⟩ tl
  · refine st mo ⟨_, fun nn => r_en (al := al) (a := colK x) kt53 Tryz.underlying123 nn rfl rfl, st mo ⟨_, fun nn => r_lk (al := putq al (colK x) (nof al (colK x))) (a := colK x) kt53 Tryz.underlying123 rfl rfl, st mo ⟨_, wi, st mo ⟨_, fun nn => r_es (j := pof al (colK x)) nn (pof_lt _ _ _) rfl, ?_⟩⟩⟩⟩
    exact rn_fit (T1 x (stp al (colK x)) jk X) [0, 1, 2, 3, 4, 5, 6] ⟨rfl, ⟨fp, fp, trivial⟩, ⟨flr rfl, fC_fit, fitL_cons fm rfl, lvC_fit, lC_fit, trivial, fml (by rw [put_put, nof_put]; rfl), trivial, flr rfl, trivial⟩, xf, rfl, rfl⟩ tl
  · refine st mo ⟨_, fun nn => r_lk (al := al) (a := colK x) kt53 Tryz.underlying123 rfl rfl, st mo ⟨_, wi, st mo ⟨_, fun nn => r_en (al := al) (a := colK x) kt53 Tryz.underlying123 nn rfl rfl, st mo ⟨_, fun nn => r_es (j := pof al (colK x)) nn (pof_lt _ _ _) rfl, ?_⟩⟩⟩⟩
    exact rn_fit (T1 x (stp al (colK x)) jk X) [0, 1, 2, 3, 4, 5, 6] ⟨rfl, ⟨fp, fp, trivial⟩, ⟨flr rfl, fC_fit, fitL_cons fm rfl, lvC_fit, lC_fit, trivial, fml (by rw [put_put]; rfl), trivial, flr rfl, trivial⟩, xf, rfl, rfl⟩ tl
  · refine st mo ⟨_, fun nn => r_lk (al := al) (a := colK x) kt53 Tryz.underlying123 rfl rfl, st mo ⟨_, fun nn => r_en (al := al) (a := colK x) kt53 Tryz.underlying123 nn rfl rfl, st mo ⟨_, wi, st mo ⟨_, fun nn => r_es (j := pof al (colK x)) nn (pof_lt _ _ _) rfl, ?_⟩⟩⟩⟩
    exact rn_fit (T1 x (stp al (colK x)) jk X) [0, 1, 2, 3, 4, 5, 6] ⟨rfl, ⟨fp, fp, trivial⟩, ⟨flr rfl, fC_fit, fitL_cons fm rfl, lvC_fit, lC_fit, trivial, fml (by rw [put_put]; rfl), trivial, flr rfl, trivial⟩, xf, rfl, rfl⟩ tl
  · refine st mo ⟨_, fun nn => r_lk (al := al) (a := colK x) kt53 Tryz.underlying123 rfl rfl, st mo ⟨_, fun nn => r_en (al := al) (a := colK x) kt53 Tryz.underlying123 nn rfl rfl, st mo ⟨_, wi, st mo ⟨_, fun nn => r_es (j := pof al (colK x)) nn (pof_lt _ _ _) rfl, ?_⟩⟩⟩⟩
    exact rn_fit (T1 x (stp al (colK x)) jk X) [0, 1, 2, 3, 4, 5, 6] ⟨rfl, ⟨fp, fp, trivial⟩, ⟨flr rfl, fC_fit, fitL_cons fm rfl, lvC_fit, lC_fit, trivial, fml (by rw [put_put]; rfl), trivial, flr rfl, trivial⟩, xf, rfl, rfl⟩ tl
  · refine st mo ⟨_, fun nn => r_en (al := al) (a := colK x) kt53 Tryz.underlying123 nn rfl rfl, st mo ⟨_, fun nn => r_lk (al := putq al (colK x) (nof al (colK x))) (a := colK x) kt53 Tryz.underlying123 rfl rfl, st mo ⟨_, wi, st mo ⟨_, fun nn => r_es (j := pof al (colK x)) nn (pof_lt _ _ _) rfl, ?_⟩⟩⟩⟩
    exact rn_fit (T1 x (stp al (colK x)) jk X) [0, 1, 2, 3, 4, 5, 6] ⟨rfl, ⟨fp, fp, trivial⟩, ⟨flr rfl, fC_fit, fitL_cons fm rfl, lvC_fit, lC_fit, trivial, fml (by rw [put_put, nof_put]; rfl), trivial, flr rfl, trivial⟩, xf, rfl, rfl⟩ tl
  · refine st mo ⟨_, fun nn => r_en (al := al) (a := colK x) kt53 Tryz.underlying123 nn rfl rfl, st mo ⟨_, fun nn => r_lk (al := putq al (colK x) (nof al (colK x))) (a := colK x) kt53 Tryz.underlying123 rfl rfl, st mo ⟨_, wi, st mo ⟨_, fun nn => r_es (j := pof al (colK x)) nn (pof_lt _ _ _) rfl, ?_⟩⟩⟩⟩
    exact rn_fit (T1 x (stp al (colK x)) jk X) [0, 1, 2, 3, 4, 5, 6] ⟨rfl, ⟨fp, fp, trivial⟩, ⟨flr rfl, fC_fit, fitL_cons fm rfl, lvC_fit, lC_fit, trivial, fml (by rw [put_put, nof_put]; rfl), trivial, flr rfl, trivial⟩, xf, rfl, rfl⟩ tl
  · refine st mo ⟨_, fun nn => r_en (al := al) (a := colK x) kt53 Tryz.underlying123 nn rfl rfl, st mo ⟨_, fun nn => r_lk (al := putq al (colK x) (nof al (colK x))) (a := colK x) kt53 Tryz.underlying123 rfl rfl, st mo ⟨_, wi, st mo ⟨_, fun nn => r_es (j := pof al (colK x)) nn (pof_lt _ _ _) rfl, ?_⟩⟩⟩⟩
    exact rn_fit (T1 x (stp al (colK x)) jk X) [0, 1, 2, 3, 4, 5, 6] ⟨rfl, ⟨fp, fp, trivial⟩, ⟨flr rfl, fC_fit, fitL_cons fm rfl, lvC_fit, lC_fit, trivial, fml (by rw [put_put, nof_put]; rfl), trivial, flr rfl, trivial⟩, xf, rfl, rfl⟩ tl
set_option maxRecDepth 20000 in
theorem lcol_s {d : Nat} (ih : ∀ d', d' + 1 = d → LcC d') : LcC d := fun X x al jk c hL hi hb => by
  have hg : gth kxC d x al = x.a.foldl (fun s y => gth kxC (d - 1) y s) (one kxC x al) := by
    cases d with
    | zero => rw [show x.a = [] from hL]; rfl
    | succ d => rfl
  have hb1 : c + 1 + x.a.foldl (fun n y => n + nds (d - 1) y) 0 ≤ 1000000000 := by
    cases d with
    | zero => rw [show x.a = [] from hL]; exact hb
    | succ d =>
      have h9 : c + x.a.foldl (fun n y => n + nds d y) 1 ≤ 1000000000 := hb
      rw [fold_nds x.a 1] at h9
      show c + 1 + x.a.foldl (fun n y => n + nds d y) 0 ≤ _
      omega
  rw [hg]
  have hn := hi.nof (colK x)
  have hil := hi.l
  refine fn_c _ Tryz.func84 rfl rfl rfl rfl (fun w l X' hX => run_ok (st mo ?_))
  have tail := fun (al : CLf) (hi : Iv al (c + 1)) => lcol_t (jk := jk) ih (w := w) (l := l) (hL.mono (xcell hX)) hi hb1
  refine ⟨_, fun nn => r_callF (t := .tuple #[es53 (colK x), .bool (decide (x.k = 10))]) rfl rfl Tryz.func51 (fun W M E => t_pickC x W), st mo ?_⟩
  refine ⟨fun h2 => ?_, fun h2 => ?_⟩
  · have e1 : one kxC x al = stp al (colK x) := by unfold one kxC; rw [if_pos (of_decide_eq_true h2)]
    rw [e1]
    have tl := tail _ (hi.stp (colK x))
    refine st mo ⟨_, fun nn => r_lk (al := al) (a := (colK x)) kt53 Tryz.underlying123 rfl rfl, st mo ?_⟩
    have five := lcol_5 (x := x) (jk := jk) (l := l) (w := w) (X := X') hi (by omega) rfl tl ⟨_, _, rfl⟩
    refine ⟨fun h0 => ?_, fun h1 => ?_⟩
    · have hno := hn.2.2 h0
      rcases al with _ | ⟨q, al⟩
      · refine st mo ⟨1, [.string (colK x).1, .string (colK x).2], _, put_own rfl rfl rfl rfl rfl, by omega, by omega, adv_ok mo 1 _ ?_⟩
        exact rn_fit (T2 x [] (stp [] (colK x)) jk X') [0, 1, 2, 3, 4, 9, 6, 7] ⟨rfl, ⟨fp, fp, fp, fp, trivial⟩, ⟨flr rfl, fl rfl rfl, fC_fit, fitL_cons fm rfl, fitL_cons fs rfl, lC_fit, trivial, fml, trivial, flr rfl, trivial⟩, xf, rfl, rfl⟩ five
      · refine st mo ⟨?_, 1, [.string (colK x).1, .string (colK x).2], _, put_own rfl rfl rfl rfl rfl, ?_, _, rfl, adv_ok mo 1 _ ?_⟩
        · show (c5C (q :: al) jk).length = (al.length + 1) * 2
          exact c5C_len q al jk
        · simp only [List.length_cons] at hil; omega
        rw [stp_newC hno] at five ⊢
        refine rn_fit (T2 x (q :: al) ((q :: al) ++ [((colK x), 1)]) jk X') [0, 1, 2, 3, 4, 9, 6, 7] ⟨rfl, ⟨fp, fp, fp, fp, trivial⟩, ⟨flr rfl, fl rfl rfl, fC_fit, fitL_cons fm rfl, ?_, lC_fit, trivial, fml, trivial, flr ?_, trivial⟩, xf, rfl, rfl⟩ five
        · refine fitL_cons ?_ rfl
          show S.fitV _ _ (.slice (some ⟨5, 0, none⟩) ((al ++ [((colK x), 1)]).length + 1) 2)
          rw [show (al ++ [((colK x), (1 : Int))]).length + 1 = (al.length + 1) + 1 by simp]
          exact fs
        · simp [c5C, rel1]
    · obtain ⟨q1, q2⟩ := stp_seenC h1
      refine adv_ok mo 2 _ ?_
      exact rn_fit (T2 x al (stp al (colK x)) jk X') [0, 1, 2, 3, 4, 5, 6, 7] ⟨rfl, ⟨fp, fp, fp, fp, trivial⟩, ⟨flr rfl, fl rfl rfl, fC_fit, fitL_cons fm rfl, by rw [← q1 5]; exact lvC_fit, lC_fit, trivial, fml, trivial, flr (q2 jk), trivial⟩, xf, rfl, rfl⟩ five
  · have e1 : one kxC x al = al := by unfold one kxC; rw [if_neg (of_decide_eq_false h2)]
    rw [e1]
    have tl := tail _ (hi.up (by omega))
    refine adv_ok mo 1 _ ?_
    exact rn_fit (T1 x al jk X') [0, 1, 2, 3, 4, 5, 6] ⟨rfl, ⟨fp, fp, trivial⟩, ⟨flr rfl, fC_fit, fitL_cons fm rfl, lvC_fit, lC_fit, trivial, fml, trivial, flr rfl, trivial⟩, xf, rfl, rfl⟩ tl
theorem lcol_n (d : Nat) : LcC d := by
  induction d with
  | zero => exact lcol_s fun d' h => (by omega)
  | succ d ih => exact lcol_s fun d' h => by cases h; exact ih
end Go.Proofs.YtfmfeipeeedfpaaGreat
namespace Go.Proofs.YtfmfeipeeedfpaaGreat
open S
/-- A list of names as a slice of its own: nothing, or a block. -/
def hRC (al : CLf) : HT := match al with
  | [] => []
  | _ :: _ => [(0 + 4096, none), (0, some ((al.flatMap fun p => [Value.string p.1.1, Value.string p.1.2]).map rel1))]
def nRC (al : CLf) : Nat := match al with
  | [] => 0
  | _ :: _ => 1
set_option maxRecDepth 20000 in
theorem gatc_n (d : Nat) (X : World) (x : Ex) (hL : LT X d x) (hb : nds d x ≤ 1000000000) : Ctr Tryz.prog X 50 [.agg (x.c.map rel1).toArray, fC] [] 0 0 (lvC 0 (gth kxC d x [])) (hRC (gth kxC d x [])) (nRC (gth kxC d x [])) := by
  refine fn_c _ Tryz.func50 rfl rfl rfl rfl (fun w l X' hX => run_ok (st mo ?_))
  refine ⟨_, fun nn => r_mk, st mo ?_⟩
  refine ⟨_, fun nn => r_c (tc := .tuple #[]) [1, 4, 2, 5, 3, 0] [some [fC], some [.map (some 6)], some [lvC 7 (gth kxC d x [])], some [.func (.func 84) #[] [p0 1, p0 4, p0 2, p0 5].toArray], some (mpl (prs es53 (gth kxC d x []))), some (c5C (gth kxC d x []) x.c)] [6, 7] rfl rfl
      (lcol_n d X' x [] x.c 0 (hL.mono (xcell hX)) ⟨fun _ h => (by cases h), Nat.le_refl _⟩ (by omega)) (fitL_cons fv (fitL_cons fp (fitL_cons fp (fitL_cons fp (fitL_cons fp rfl))))) ⟨fC_fit, fitL_cons fm rfl, fitL_cons fv rfl, fitL_cons (ff (fitL_cons fp (fitL_cons fp (fitL_cons fp (fitL_cons fp rfl))))) rfl, trivial, fml, trivial, flr rfl, trivial⟩ ut0 ⟨fC_un, unL_cons um rfl, lvC_un, unL_cons (uf (unL_cons S.up (unL_cons S.up (unL_cons S.up (unL_cons S.up rfl))))) rfl, uml, ulr rfl, trivial⟩, st mo ?_⟩
  generalize gth kxC d x [] = al
  rcases al with _ | ⟨q, al⟩
  · exact ⟨rfl, [], fv, trivial, rfl, rfl⟩
  · exact ⟨rfl, [7], fs, ⟨trivial, flr rfl, trivial⟩, rfl, rfl⟩
end Go.Proofs.YtfmfeipeeedfpaaGreat
namespace Go.Proofs
open Go.Shelf
def Tryz.lays190_ren : Go.Shelf.Ren := ⟨fun | 190 => 48 | 125 => 82 | 258 => 81 | 128 => 125 | 129 => 126 | 302 => 116 | 303 => 117 | 304 => 118 | 305 => 119 | 306 => 120 | 307 => 121 | 308 => 122 | 309 => 123 | 310 => 124 | 333 => 160 | 329 => 161 | 330 => 162 | 334 => 163 | 335 => 164 | 336 => 86 | 344 => 191 | n => n, fun | 31 => 48 | 9 => 9 | 3 => 3 | 46 => 121 | 0 => 0 | 51 => 159 | 53 => 22 | 4 => 4 | 183 => 151 | 182 => 150 | 131 => 156 | 5 => 5 | 218 => 183 | 222 => 187 | 228 => 208 | 229 => 209 | n => n, fun | n => n⟩
theorem Tryz.lays190 : Go.Proofs.Lays.n190 Tryz.prog Tryz.lays190_ren := {
  mixed := by kernel_rfl
  f125 := Tryz.func82.trans (congrArg some (by kernel_rfl))
  f128 := Tryz.func125.trans (congrArg some (by kernel_rfl))
  f129 := Tryz.func126.trans (congrArg some (by kernel_rfl))
  f190 := Tryz.func48.trans (congrArg some (by kernel_rfl))
  f258 := Tryz.func81.trans (congrArg some (by kernel_rfl))
  f302 := Tryz.func116.trans (congrArg some (by kernel_rfl))
  f303 := Tryz.func117.trans (congrArg some (by kernel_rfl))
  f304 := Tryz.func118.trans (congrArg some (by kernel_rfl))
  f305 := Tryz.func119.trans (congrArg some (by kernel_rfl))
  f306 := Tryz.func120.trans (congrArg some (by kernel_rfl))
  f307 := Tryz.func121.trans (congrArg some (by kernel_rfl))
  f308 := Tryz.func122.trans (congrArg some (by kernel_rfl))
  f309 := Tryz.func123.trans (congrArg some (by kernel_rfl))
  f310 := Tryz.func124.trans (congrArg some (by kernel_rfl))
  f329 := Tryz.func161.trans (congrArg some (by kernel_rfl))
  f330 := Tryz.func162.trans (congrArg some (by kernel_rfl))
  f333 := Tryz.func160.trans (congrArg some (by kernel_rfl))
  f334 := Tryz.func163.trans (congrArg some (by kernel_rfl))
  f335 := Tryz.func164.trans (congrArg some (by kernel_rfl))
  f336 := Tryz.func86.trans (congrArg some (by kernel_rfl))
  f344 := Tryz.func191.trans (congrArg some (by kernel_rfl))
  t0 := Tryz.underlying0
  a0 := Tryz.isAgg0
  z0 := Tryz.sizeOf0
  v0 := Tryz.zeroValue0
  t3 := Tryz.underlying3
  a3 := Tryz.isAgg3
  z3 := Tryz.sizeOf3
  v3 := Tryz.zeroValue3
  t4 := Tryz.underlying4
  a4 := Tryz.isAgg4
  z4 := Tryz.sizeOf4
  v4 := Tryz.zeroValue4
  t5 := Tryz.underlying5
  a5 := Tryz.isAgg5
  z5 := Tryz.sizeOf5
  v5 := Tryz.zeroValue5
  t9 := Tryz.underlying9
  a9 := Tryz.isAgg9
  z9 := Tryz.sizeOf9
  v9 := Tryz.zeroValue9
  t31 := Tryz.underlying48
  a31 := Tryz.isAgg48
  z31 := Tryz.sizeOf48
  v31 := Tryz.zeroValue48
  t46 := Tryz.underlying121
  a46 := Tryz.isAgg121
  z46 := Tryz.sizeOf121
  v46 := Tryz.zeroValue121
  t51 := Tryz.underlying159
  a51 := Tryz.isAgg159
  z51 := Tryz.sizeOf159
  v51 := Tryz.zeroValue159
  t53 := Tryz.underlying22
  a53 := Tryz.isAgg22
  z53 := Tryz.sizeOf22
  v53 := Tryz.zeroValue22
  t131 := Tryz.underlying156
  a131 := Tryz.isAgg156
  z131 := Tryz.sizeOf156
  v131 := Tryz.zeroValue156
  t182 := Tryz.underlying150
  a182 := Tryz.isAgg150
  z182 := Tryz.sizeOf150
  v182 := Tryz.zeroValue150
  t183 := Tryz.underlying151
  a183 := Tryz.isAgg151
  z183 := Tryz.sizeOf151
  v183 := Tryz.zeroValue151
  t218 := Tryz.underlying183
  a218 := Tryz.isAgg183
  z218 := Tryz.sizeOf183
  v218 := Tryz.zeroValue183
  t222 := Tryz.underlying187
  a222 := Tryz.isAgg187
  z222 := Tryz.sizeOf187
  v222 := Tryz.zeroValue187
  t228 := Tryz.underlying208
  a228 := Tryz.isAgg208
  z228 := Tryz.sizeOf208
  v228 := Tryz.zeroValue208
  t229 := Tryz.underlying209
  a229 := Tryz.isAgg209
  z229 := Tryz.sizeOf209
  v229 := Tryz.zeroValue209 }
open Go.Sort Go.RowKit in theorem Tryz.slices_Sort_string (blk off cap : Nat) (ss : List (List UInt8)) (w : World) (hH : Holds encStr w blk off ss.toArray) (hblk : blk < w.heap.size) (hsz : ss.length < 4611686018427387904) :
    Calls Tryz.prog 48 #[.slice (some ⟨blk, off, none⟩) ss.length cap] w fun e w' =>
      e = .returned (.tuple #[]) ∧ ∃ n os, w' = grow (putRow encStr (Sort.ahead w n) blk off (ss.mergeSort fun x y => decide (x ≤ y)).toArray) os := Any.slices_Sort_string Tryz.lays190 blk off cap ss w hH hblk hsz
open Go.RowKit Go.Sort in theorem Tryz.slices_Sort_string_none (p : Option Addr) (cap : Nat) (w : World) :
    Calls Tryz.prog 48 #[.slice p 0 cap] w fun e w' => e = .returned (.tuple #[]) ∧ w' = w := Any.slices_Sort_string_none Tryz.lays190 p cap w
def Tryz.laysSlF0_f53_ren : Go.Shelf.Ren := ⟨fun | 6 => 53 | 15 => 82 | 14 => 85 | 28 => 125 | 29 => 126 | 20 => 127 | 21 => 128 | 22 => 129 | 23 => 130 | 24 => 131 | 25 => 132 | 26 => 133 | 27 => 134 | 46 => 165 | 47 => 161 | 48 => 162 | 49 => 166 | 50 => 167 | 57 => 192 | n => n, fun | 22 => 51 | 24 => 53 | 25 => 95 | 3 => 3 | 39 => 121 | 0 => 0 | 53 => 159 | 55 => 22 | 4 => 4 | 46 => 151 | 45 => 150 | 50 => 156 | 5 => 5 | 9 => 9 | 66 => 183 | 70 => 187 | 76 => 208 | 77 => 209 | n => n, fun | n => n⟩
theorem Tryz.laysSlF0_f53 : Go.Proofs.SlLaysF0.n6 Tryz.prog Tryz.laysSlF0_f53_ren := {
  mixed := by kernel_rfl
  f6 := ⟨Tryz.f53.name, by decide, Tryz.func53.trans (congrArg some (by kernel_rfl))⟩
  f14 := ⟨Tryz.f85.name, by decide, Tryz.func85.trans (congrArg some (by kernel_rfl))⟩
  f15 := Tryz.func82.trans (congrArg some (by kernel_rfl))
  f20 := ⟨Tryz.f127.name, by decide, Tryz.func127.trans (congrArg some (by kernel_rfl))⟩
  f21 := ⟨Tryz.f128.name, by decide, Tryz.func128.trans (congrArg some (by kernel_rfl))⟩
  f22 := ⟨Tryz.f129.name, by decide, Tryz.func129.trans (congrArg some (by kernel_rfl))⟩
  f23 := ⟨Tryz.f130.name, by decide, Tryz.func130.trans (congrArg some (by kernel_rfl))⟩
  f24 := ⟨Tryz.f131.name, by decide, Tryz.func131.trans (congrArg some (by kernel_rfl))⟩
  f25 := ⟨Tryz.f132.name, by decide, Tryz.func132.trans (congrArg some (by kernel_rfl))⟩
  f26 := ⟨Tryz.f133.name, by decide, Tryz.func133.trans (congrArg some (by kernel_rfl))⟩
  f27 := ⟨Tryz.f134.name, by decide, Tryz.func134.trans (congrArg some (by kernel_rfl))⟩
  f28 := Tryz.func125.trans (congrArg some (by kernel_rfl))
  f29 := Tryz.func126.trans (congrArg some (by kernel_rfl))
  f46 := ⟨Tryz.f165.name, by decide, Tryz.func165.trans (congrArg some (by kernel_rfl))⟩
  f47 := Tryz.func161.trans (congrArg some (by kernel_rfl))
  f48 := Tryz.func162.trans (congrArg some (by kernel_rfl))
  f49 := ⟨Tryz.f166.name, by decide, Tryz.func166.trans (congrArg some (by kernel_rfl))⟩
  f50 := ⟨Tryz.f167.name, by decide, Tryz.func167.trans (congrArg some (by kernel_rfl))⟩
  f57 := ⟨Tryz.f192.name, by decide, Tryz.func192.trans (congrArg some (by kernel_rfl))⟩
  t0 := Tryz.underlying0
  a0 := Tryz.isAgg0
  z0 := Tryz.sizeOf0
  v0 := Tryz.zeroValue0
  t3 := Tryz.underlying3
  a3 := Tryz.isAgg3
  z3 := Tryz.sizeOf3
  v3 := Tryz.zeroValue3
  t4 := Tryz.underlying4
  a4 := Tryz.isAgg4
  z4 := Tryz.sizeOf4
  v4 := Tryz.zeroValue4
  t5 := Tryz.underlying5
  a5 := Tryz.isAgg5
  z5 := Tryz.sizeOf5
  v5 := Tryz.zeroValue5
  t9 := Tryz.underlying9
  a9 := Tryz.isAgg9
  z9 := Tryz.sizeOf9
  v9 := Tryz.zeroValue9
  t22 := Tryz.underlying51
  a22 := Tryz.isAgg51
  z22 := Tryz.sizeOf51
  v22 := Tryz.zeroValue51
  t25 := Tryz.underlying95
  a25 := Tryz.isAgg95
  z25 := Tryz.sizeOf95
  v25 := Tryz.zeroValue95
  t39 := Tryz.underlying121
  a39 := Tryz.isAgg121
  z39 := Tryz.sizeOf121
  v39 := Tryz.zeroValue121
  t45 := Tryz.underlying150
  a45 := Tryz.isAgg150
  z45 := Tryz.sizeOf150
  v45 := Tryz.zeroValue150
  t46 := Tryz.underlying151
  a46 := Tryz.isAgg151
  z46 := Tryz.sizeOf151
  v46 := Tryz.zeroValue151
  t50 := Tryz.underlying156
  a50 := Tryz.isAgg156
  z50 := Tryz.sizeOf156
  v50 := Tryz.zeroValue156
  t53 := Tryz.underlying159
  a53 := Tryz.isAgg159
  z53 := Tryz.sizeOf159
  v53 := Tryz.zeroValue159
  t55 := Tryz.underlying22
  a55 := Tryz.isAgg22
  z55 := Tryz.sizeOf22
  v55 := Tryz.zeroValue22
  t66 := Tryz.underlying183
  a66 := Tryz.isAgg183
  z66 := Tryz.sizeOf183
  v66 := Tryz.zeroValue183
  t70 := Tryz.underlying187
  a70 := Tryz.isAgg187
  z70 := Tryz.sizeOf187
  v70 := Tryz.zeroValue187
  t76 := Tryz.underlying208
  a76 := Tryz.isAgg208
  z76 := Tryz.sizeOf208
  v76 := Tryz.zeroValue208
  t77 := Tryz.underlying209
  a77 := Tryz.isAgg209
  z77 := Tryz.sizeOf209
  v77 := Tryz.zeroValue209 }
end Go.Proofs
namespace Go.Proofs.YtfmfeipeeedfpaaGreat
open S Go.Sort Go.Lib
abbrev hBf (cells : List Value) : HT := [(0 + 4096, none), (0, some (cells.map rel1))]
theorem putRow_id {α : Type} [Inhabited α] (enc : α → Value) (w : World) (b : Nat) (d : Array α) : putRow enc w b 0 d = putRow id w b 0 (d.map enc) := by
  unfold putRow
  congr 1
  funext c
  unfold putCells
  apply Array.ext
  · simp
  · intro i h1 h2
    simp only [Array.getElem_mapIdx, Nat.zero_le, true_and, Nat.zero_add, Array.size_map, Nat.sub_zero, id]
    by_cases hi : i < d.size
    · rw [if_pos hi, if_pos hi, getElem!_pos d i hi, getElem!_pos (d.map enc) i (by simpa using hi), Array.getElem_map]
    · rw [if_neg hi, if_neg hi]
theorem heap_put {W : World} {b n : Nat} {os : Array Obj} {F : Array Value} {cells sp : List Value} {ty : TypeId} (h : W.heap[b]? = some (.cells (cells ++ sp).toArray ty (0, 0))) (hF : F.size = cells.length) : (grow (putRow id (Sort.ahead W n) b 0 F) os).heap[b]? = some (.cells (F.toList ++ sp).toArray ty (0, 0)) := by
  have hb : b < W.heap.size := (Array.getElem?_eq_some_iff.1 h).1
  rw [heap_grow_old _ _ (by simpa [putRow, mapBlock, Sort.ahead] using hb)]
  have e : putCells id 0 F (cells ++ sp).toArray = (F.toList ++ sp).toArray := by
    apply Array.ext'
    apply List.ext_getElem?
    intro j
    rw [Array.getElem?_toList]
    simp only [putCells, Nat.zero_le, true_and, Nat.zero_add, Nat.sub_zero, id, Array.getElem?_mapIdx, List.getElem?_toArray]
    by_cases hj : j < F.size
    · rw [List.getElem?_append_left (by omega), List.getElem?_append_left (by simpa using hj), List.getElem?_eq_getElem (by omega)]
      simp [hj]
    · rw [List.getElem?_append_right (by omega), List.getElem?_append_right (by simp; omega)]
      rw [show j - F.toList.length = j - cells.length by simp [hF]]
      cases sp[j - cells.length]? <;> simp [hj]
  simp [putRow, mapBlock, Sort.ahead, Array.getElem?_modify, h, onCells, e]
theorem heap_put_ne {W : World} {b n b' : Nat} {os : Array Obj} {F : Array Value} (hne : b' ≠ b) (hb : b' < W.heap.size) : (grow (putRow id (Sort.ahead W n) b 0 F) os).heap[b']? = W.heap[b']? := by
  rw [heap_grow_old _ _ (by simpa [putRow, mapBlock, Sort.ahead] using hb)]
  simp [putRow, mapBlock, Sort.ahead, Array.getElem?_modify, Ne.symm hne]
/-- A call that sorts: the cells in another order. -/
theorem sort_ctr {X : World} {f : FuncId} {len es : Nat} {cells cells' tl : List Value} (hl : cells'.length = cells.length) (ht : ∀ k us, LR (VX k) tl us → us = tl)
    (H : ∀ (W : World) (b cap : Nat) (sp : List Value) (ty : TypeId), W.heap[b]? = some (.cells (cells ++ sp).toArray ty (0, 0)) → len ≤ cap → Calls Tryz.prog f (.slice (some ⟨b, 0, none⟩) len cap :: tl).toArray W fun e W' => e = .returned (.tuple #[]) ∧ ∃ (n : Nat) (os : Array Obj), W' = grow (putRow id (Sort.ahead W n) b 0 cells'.toArray) os) :
    Ctr Tryz.prog X f (.slice (some ⟨0, 0, none⟩) len es :: tl) (hBf cells) 1 1 (.tuple #[]) (hBf cells') 1 := by
  intro W k us ky hX hv
  obtain ⟨u, us', rfl, h1, h2⟩ := hv
  have h3 := ht k us' h2
  subst h3
  obtain ⟨_, b, z, c, hk, rfl, hlc, _⟩ := h1.slc_inv
  obtain ⟨b2, vs, sp, ty, e1, e2, e3⟩ := (ky.hr.rep 0 (tb_ones.2 (by omega)) (cells.map rel1) rfl).cel hk
  have hk' : k 0 = some (b, z + 1) := hk
  rw [hk'] at e1; cases e1
  have h6 := LR.map (p := pur1) (d := den1) (fun _ _ h => pur1_eq h) e3 (by simp [pur_rel1])
  rw [List.map_map, show den1 ∘ rel1 = id from funext den_rel1, List.map_id] at h6
  subst h6
  refine (H W b c sp ty e2 hlc).mono ?_
  rintro e W' ⟨rfl, n, os, rfl⟩
  have hp := heap_put (n := n) (os := os) (F := cells'.toArray) e2 (by simp [hl])
  refine ⟨_, k, rfl, undef_vx, ⟨⟨fun i hi cs hc => ?_, fun i j hi hj _ _ hij => ?_⟩, fun i hi => ?_, ky.nk⟩, fun _ _ => rfl, fun i b' z' hk2 => Or.inr ⟨i, z', ?_, hk2⟩, fun b' hb' hj => heap_put_ne (fun e => hj 0 (vs.length + sp.length + 1) (by omega) (by rw [e]; exact hk')) hb', ?_, rfl, ⟨rfl, ?_⟩, rfl⟩
  · have : i < 1 := tb_ones.1 hi
    have : i = 0 := by omega
    subst this
    have hc' : cs = cells'.map rel1 := (Option.some.inj hc).symm
    subst hc'
    exact Or.inl ⟨b, cells', sp, ty, by rw [hk', hl], hp, rels_vx cells'⟩
  · have h1 : i < 1 := tb_ones.1 hi
    have h2 : j < 1 := tb_ones.1 hj
    exact absurd (by omega) hij
  · show hget (hBf cells') i = none
    unfold hget
    cases hbl : Nat.blt i 4096 with
    | false => rfl
    | true =>
      have : i < 4096 := by simpa using hbl
      have e1 : Nat.beq (0 + 4096) i = false := beq_f (by omega)
      have e2 : Nat.beq 0 i = false := beq_f (by omega)
      simp [hlook, e1, e2]
  · rcases Nat.lt_or_ge i 1 with h | h
    · exact h
    · rw [ky.nk i h] at hk2; cases hk2
  · show W.heap.size ≤ (grow (putRow id (Sort.ahead W n) b 0 cells'.toArray) os).heap.size
    simp [grow, putRow, mapBlock, Sort.ahead]
  · show W.drawn ≤ W.drawn + n
    omega
/-- Texts in their order. -/
def srt (L : List ByteArray) : List ByteArray := ((L.map (·.data.toList)).mergeSort (fun x y => decide (x ≤ y))).map fun l => ⟨l.toArray⟩
theorem srt_len (L : List ByteArray) : (srt L).length = L.length := by unfold srt; simp
abbrev sv (L : List ByteArray) : List Value := L.map Value.string
theorem sort_s (X : World) (L : List ByteArray) (hb : L.length ≤ 1000000000) : Ctr Tryz.prog X 48 [.slice (some ⟨0, 0, none⟩) L.length 1] (hBf (sv L)) 1 1 (.tuple #[]) (hBf (sv (srt L))) 1 := by
  refine sort_ctr (by simp [srt_len]) (fun k us h => h) fun W b cap sp ty hW _ => ?_
  have hlen : (L.map (·.data.toList)).length = L.length := by simp
  have hH : Holds encStr W b 0 (L.map (·.data.toList)).toArray := by
    intro j hj
    have hj' : j < L.length := by simpa using hj
    refine ⟨?_, by simp [World.frozen?, hW]⟩
    have : (L.map (·.data.toList)).toArray[j]! = L[j].data.toList := by
      rw [getElem!_pos _ j hj]; simp
    rw [this, Nat.zero_add, cell_of hW, List.getElem?_append_left (by simpa using hj')]
    simp [hj', encStr]
  have := Tryz.slices_Sort_string b 0 cap (L.map (·.data.toList)) W hH (Array.getElem?_eq_some_iff.1 hW).1 (by omega)
  rw [hlen] at this
  refine this.mono ?_
  rintro e W' ⟨rfl, n, os, rfl⟩
  refine ⟨rfl, n, os, ?_⟩
  rw [putRow_id]
  congr 2
  simp [sv, srt, encStr]
end Go.Proofs.YtfmfeipeeedfpaaGreat
namespace Go.Proofs.YtfmfeipeeedfpaaGreat
open S Go.Sort Go.Lib
/-- A list of texts as a slice of one's own. -/
def lvS (b : Nat) (L : List ByteArray) : Value := match L with
  | [] => .slice none 0 0
  | _ :: l => .slice (some ⟨b, 0, none⟩) (l.length + 1) 1
def hSs (L : List ByteArray) : HT := match L with
  | [] => []
  | _ :: _ => hBf (sv L)
def nSs (L : List ByteArray) : Nat := match L with
  | [] => 0
  | _ :: _ => 1
/-- The keys in the order in which they come. -/
def ksN (d : Nat) (x : Ex) : List ByteArray := (gth kxN d x []).map Prod.fst
theorem gth_len {κ : Type} [DecidableEq κ] (kx : Ex → Option κ) (d : Nat) (x : Ex) : (gth kx d x []).length ≤ nds d x := by
  have := (Iv.gth (kx := kx) (d := d) (x := x) (al := ([] : List (κ × Int))) (c := 0) ⟨fun _ h => (by cases h), Nat.le_refl _⟩).l
  omega
theorem sort_s0 (W : World) : Calls Tryz.prog 48 #[.slice none 0 0] W fun e W' => e = .returned (.tuple #[]) ∧ Mb W W' := (Tryz.slices_Sort_string_none none 0 W).mono (by rintro e W' ⟨rfl, rfl⟩; exact ⟨rfl, Go.RowKit.Below.refl _ _, Nat.le_refl _⟩)
set_option maxRecDepth 20000 in
theorem names_n (d : Nat) (X : World) (x : Ex) (hL : LT X d x) (hb : nds d x ≤ 1000000000) : Ctr Tryz.prog X 17 [.agg (x.c.map rel1).toArray] [] 0 0 (lvS 0 (srt (ksN d x))) (hSs (srt (ksN d x))) (nSs (srt (ksN d x))) := by
  have hlen := gth_len kxN d x
  refine fn_c _ Tryz.func17 rfl rfl rfl rfl (fun w l X' hX => run_ok (st mo ?_))
  have g := gat_n d X' x (hL.mono (xcell hX)) hb
  unfold ksN
  generalize gth kxN d x [] = al at g hlen
  rcases al with _ | ⟨q, al⟩
  · have e0 : srt (([] : AL).map Prod.fst) = [] := by simp [srt]
    rw [e0]
    refine ⟨_, fun nn => r_c (tc := .slice none 0 0) [] [] [] rfl rfl g (fitL_cons fv (fitL_cons (ff rfl) rfl)) trivial uv trivial, st mo ?_⟩
    refine ⟨_, fun nn => r_call (t := .tuple #[]) rfl rfl Tryz.func48 (fun W M E => sort_s0 W), st mo ?_⟩
    exact ⟨rfl, [], fv, trivial, rfl, rfl⟩
  · have hl2 : ((q :: al).map Prod.fst).length = al.length + 1 := by simp
    have hs := sort_s X' ((q :: al).map Prod.fst) (by rw [hl2]; simp only [List.length_cons] at hlen; omega)
    have hsl := srt_len ((q :: al).map Prod.fst)
    rw [hl2] at hs hsl
    have hc : sv ((q :: al).map Prod.fst) = (q :: al).map fun p => Value.string p.1 := by simp
    rw [hc] at hs
    generalize srt ((q :: al).map Prod.fst) = M at hs hsl
    refine ⟨_, fun nn => r_c (tc := .slice (some ⟨1, 0, none⟩) (al.length + 1) 1) [] [some (((q :: al).map fun p => Value.string p.1).map rel1)] [1] rfl rfl g (by exact fitL_cons fv (fitL_cons (ff (l := []) (m := []) rfl) rfl)) trivial us ⟨ulr rfl, trivial⟩, st mo ?_⟩
    refine ⟨_, fun nn => r_c (tc := .tuple #[]) [1] [some ((sv M).map rel1)] [1] rfl rfl hs (fitL_cons fs rfl) ⟨trivial, flr rfl, trivial⟩ ut0 ⟨ulr rfl, trivial⟩, st mo ?_⟩
    rcases M with _ | ⟨m, M⟩
    · cases hsl
    · simp only [List.length_cons] at hsl
      refine ⟨rfl, [1], ?_, ⟨trivial, flr rfl, trivial⟩, rfl, rfl⟩
      show S.fitV _ _ (.slice (some ⟨0, 0, none⟩) (M.length + 1) 1)
      rw [hsl]
      exact fs
end Go.Proofs.YtfmfeipeeedfpaaGreat
namespace Go.Proofs.YtfmfeipeeedfpaaGreat
open S Go.Sort Go.Lib
/-- A text ahead of another. -/
def lts (a b : ByteArray) : Prop := a.data.toList < b.data.toList
theorem ltStr_iff (x y : List UInt8) : ltStr x y = true ↔ x < y := by unfold ltStr; rw [decide_eq_true_iff]
theorem ltStr_not (x y : List UInt8) : ltStr x y = false ↔ ¬ x < y := by unfold ltStr; rw [decide_eq_false_iff_not]
theorem lts_irr (a : ByteArray) : ¬ lts a a := by have := swo_ltStr.irrefl a.data.toList; rw [ltStr_not] at this; exact this
theorem lts_trans {a b c : ByteArray} (h : lts a b) (g : lts b c) : lts a c := by
  have := swo_ltStr.trans a.data.toList b.data.toList c.data.toList ((ltStr_iff _ _).2 h) ((ltStr_iff _ _).2 g)
  exact (ltStr_iff _ _).1 this
theorem lists_tri : ∀ (x y : List UInt8), ¬ x < y → ¬ y < x → x = y
  | [], [], _, _ => rfl
  | [], b :: y, h, _ => absurd (List.nil_lt_cons b y) h
  | a :: x, [], _, h => absurd (List.nil_lt_cons a x) h
  | a :: x, b :: y, h, g => by
    rw [List.cons_lt_cons_iff] at h g
    have hab : a = b := by
      have h1 : ¬ a < b := fun e => h (Or.inl e)
      have h2 : ¬ b < a := fun e => g (Or.inl e)
      exact UInt8.le_antisymm (UInt8.not_lt.1 h2) (UInt8.not_lt.1 h1)
    subst hab
    rw [lists_tri x y (fun e => h (Or.inr ⟨rfl, e⟩)) (fun e => g (Or.inr ⟨rfl, e⟩))]
theorem lts_tri {a b : ByteArray} (h : ¬ lts a b) (g : ¬ lts b a) : a = b := by
  have := lists_tri _ _ h g
  obtain ⟨x⟩ := a
  obtain ⟨y⟩ := b
  have e : x = y := Array.toList_inj.1 this
  rw [e]
theorem tl_eq {a b : ByteArray} : (a.toList == b.toList) = decide (a = b) := by
  by_cases h : a = b
  · subst h; simp
  · rw [decide_eq_false h, beq_eq_false_iff_ne]
    intro e
    rw [ByteArray.toList_eq, ByteArray.toList_eq] at e
    exact h (by obtain ⟨x⟩ := a; obtain ⟨y⟩ := b; have e2 : x = y := Array.toList_inj.1 e; rw [e2])
theorem bl_eq (a b : ByteArray) : Op.bytesLess a.toList b.toList = decide (a.data.toList < b.data.toList) := by rw [bytesLess_eq, ByteArray.toList_eq, ByteArray.toList_eq]
section
variable {P : Program} {a b : ByteArray}
theorem s_lt (h : lts a b) (w : World) : (Op.stringOp .lss a b).run P w = .ok (den1 litT) w := by
  have : decide (a.data.toList < b.data.toList) = true := decide_eq_true h
  simp only [Op.stringOp, bl_eq, this]; rfl
theorem s_nlt (h : ¬ lts a b) (w : World) : (Op.stringOp .lss a b).run P w = .ok (den1 litF) w := by
  have : decide (a.data.toList < b.data.toList) = false := decide_eq_false h
  simp only [Op.stringOp, bl_eq, this]; rfl
theorem s_gt (h : lts b a) (w : World) : (Op.stringOp .gtr a b).run P w = .ok (den1 litT) w := by
  have h1 : decide (a.data.toList < b.data.toList) = false := decide_eq_false fun g => lts_irr a (lts_trans g h)
  have h2 : (a.toList == b.toList) = false := by rw [tl_eq]; exact decide_eq_false fun e => lts_irr a (by rw [← e] at h; exact h)
  simp only [Op.stringOp, bl_eq, h1, h2]; rfl
theorem s_ngt (h : ¬ lts b a) (w : World) : (Op.stringOp .gtr a b).run P w = .ok (den1 litF) w := by
  by_cases g : lts a b
  · have h1 : decide (a.data.toList < b.data.toList) = true := decide_eq_true g
    simp only [Op.stringOp, bl_eq, h1]; rfl
  · have e := lts_tri g h
    subst e
    have h2 : (a.toList == a.toList) = true := by rw [tl_eq]; exact decide_eq_true rfl
    simp only [Op.stringOp, h2, Bool.or_true]; rfl
end
/-- How two texts stand. -/
def cmpS (a b : ByteArray) : Int := if a.data.toList < b.data.toList then -1 else if b.data.toList < a.data.toList then 1 else 0
theorem cmpS_lt {a b : ByteArray} (h : lts a b) : cmpS a b = -1 := if_pos h
theorem cmpS_gt {a b : ByteArray} (h : lts b a) : cmpS a b = 1 := (if_neg (fun g : lts a b => lts_irr a (lts_trans g h))).trans (if_pos h)
theorem cmpS_eq {a b : ByteArray} (h : ¬ lts a b) (g : ¬ lts b a) : cmpS a b = 0 := (if_neg h).trans (if_neg g)
set_option maxRecDepth 20000 in
theorem t_nan (a : ByteArray) (w : World) : Calls Tryz.prog 86 #[.string a] w fun e W => e = .returned (.bool false) ∧ Mb w W :=
  fn_pure [.string a] Tryz.func86 rfl rfl rfl (run_ok (st mo ⟨fun h => absurd rfl h, fun _ => st mo rfl⟩))
set_option maxRecDepth 20000 in
theorem t_cmp (a b : ByteArray) (w : World) : Calls Tryz.prog 56 #[.string a, .string b] w fun e W => e = .returned (.int .i64 (cmpS a b)) ∧ Mb w W := by
  by_cases h : lts a b
  · rw [cmpS_lt h]
    exact fn_pure [.string a, .string b] Tryz.func56 rfl rfl rfl (run_ok (st mo ⟨_, fun nn => r_call (t := litF) rfl rfl Tryz.func86 (fun W M E => t_nan a W), st mo ⟨_, fun nn => r_call (t := litF) rfl rfl Tryz.func86 (fun W M E => t_nan b W), st mo ⟨litT, s_lt h, rfl, st mo rfl⟩⟩⟩))
  · by_cases g : lts b a
    · rw [cmpS_gt g]
      exact fn_pure [.string a, .string b] Tryz.func56 rfl rfl rfl (run_ok (st mo ⟨_, fun nn => r_call (t := litF) rfl rfl Tryz.func86 (fun W M E => t_nan a W), st mo ⟨_, fun nn => r_call (t := litF) rfl rfl Tryz.func86 (fun W M E => t_nan b W), st mo ⟨litF, s_nlt h, rfl, st mo ⟨litT, s_gt g, rfl, st mo rfl⟩⟩⟩⟩))
    · rw [cmpS_eq h g]
      exact fn_pure [.string a, .string b] Tryz.func56 rfl rfl rfl (run_ok (st mo ⟨_, fun nn => r_call (t := litF) rfl rfl Tryz.func86 (fun W M E => t_nan a W), st mo ⟨_, fun nn => r_call (t := litF) rfl rfl Tryz.func86 (fun W M E => t_nan b W), st mo ⟨litF, s_nlt h, rfl, st mo ⟨litF, s_ngt g, rfl, st mo rfl⟩⟩⟩⟩))
def orZ (a b : Int) : Int := if a = 0 then b else a
set_option maxRecDepth 20000 in
theorem t_or (X : World) (a b : Int) : Ctr Tryz.prog X 55 [.slice (some ⟨0, 0, none⟩) 2 1] [(0, some [.int .i64 a, .int .i64 b])] 1 1 (.int .i64 (orZ a b)) [(0, some [.int .i64 a, .int .i64 b])] 1 := by
  refine fn_c _ Tryz.func55 rfl rfl rfl rfl (fun w l X' hX => run_ok (st mo (st mo ?_)))
  refine w_loop (fun i : Nat => ⟨⟨18, [(3, .int .i64 0), (6, .slice (some ⟨0, 0, none⟩) 2 1), (7, .int .i64 2), (8, .int .i64 (i : Int))]⟩, [(0 + 4096, none), (0, some [.int .i64 a, .int .i64 b])], 1, X'⟩)
    (fun i => i ≤ 2 ∧ (1 ≤ i → a = 0) ∧ (2 ≤ i → b = 0)) (fun i => 2 - i) 0 ⟨by omega, fun h => (by omega), fun h => (by omega)⟩ [0] ⟨rfl, ⟨fv, fs, fv, fv, trivial⟩, ⟨trivial, fl rfl rfl, trivial⟩, xf, rfl, rfl⟩ ?_
  intro i ⟨hi, h1, h2⟩
  refine st mo ⟨fun hlt => st mo ?_, fun hge => st mo ?_⟩
  · have hc : i = 0 ∨ i = 1 := by omega
    rcases hc with rfl | rfl
    · refine ⟨0, rfl, by omega, st mo ⟨.int .i64 a, rfl, st mo ?_⟩⟩
      refine ⟨fun hne => st mo ?_, fun he => st mo ⟨_, wz 1 rfl, st mo ?_⟩⟩
      · exact ⟨rfl, [0], fv (by unfold orZ; rw [if_neg hne]; rfl), ⟨fl rfl rfl, trivial⟩, rfl, rfl⟩
      · exact ⟨1, ⟨by omega, fun _ => he, fun h => (by omega)⟩, by decide, [0], rfl, ⟨fv, fs, fv, fv, trivial⟩, ⟨trivial, fl rfl rfl, trivial⟩, xf, rfl, rfl⟩
    · refine ⟨1, rfl, by omega, st mo ⟨.int .i64 b, rfl, st mo ?_⟩⟩
      have ha := h1 (Nat.le_refl _)
      refine ⟨fun hne => st mo ?_, fun he => st mo ⟨_, wz 2 rfl, st mo ?_⟩⟩
      · exact ⟨rfl, [0], fv (by unfold orZ; rw [if_pos ha]; rfl), ⟨fl rfl rfl, trivial⟩, rfl, rfl⟩
      · exact ⟨2, ⟨by omega, fun _ => ha, fun _ => he⟩, by decide, [0], rfl, ⟨fv, fs, fv, fv, trivial⟩, ⟨trivial, fl rfl rfl, trivial⟩, xf, rfl, rfl⟩
  · have hi2 : i = 2 := by omega
    subst hi2
    refine st mo ?_
    exact ⟨rfl, [0], fv (by unfold orZ; rw [if_pos (h1 (by omega)), h2 (by omega)]; rfl), ⟨fl rfl rfl, trivial⟩, rfl, rfl⟩
/-- How two columns stand. -/
def cfC (p q : ByteArray × ByteArray) : Int := orZ (cmpS p.1 q.1) (cmpS p.2 q.2)
/-- A column ahead of another. -/
def ltc (p q : ByteArray × ByteArray) : Prop := lts p.1 q.1 ∨ p.1 = q.1 ∧ lts p.2 q.2
theorem cmpS_neg {a b : ByteArray} : cmpS a b < 0 ↔ lts a b := by
  by_cases h : lts a b
  · rw [cmpS_lt h]; exact ⟨fun _ => h, fun _ => by decide⟩
  · by_cases g : lts b a
    · rw [cmpS_gt g]; exact ⟨fun e => absurd e (by decide), fun e => absurd e h⟩
    · rw [cmpS_eq h g]; exact ⟨fun e => absurd e (by decide), fun e => absurd e h⟩
theorem cmpS_zero {a b : ByteArray} : cmpS a b = 0 ↔ a = b := by
  by_cases h : lts a b
  · rw [cmpS_lt h]; exact ⟨fun e => absurd e (by decide), fun e => absurd (e ▸ h) (lts_irr b)⟩
  · by_cases g : lts b a
    · rw [cmpS_gt g]; exact ⟨fun e => absurd e (by decide), fun e => absurd (e ▸ g) (lts_irr b)⟩
    · rw [cmpS_eq h g]; exact ⟨fun _ => lts_tri h g, fun _ => rfl⟩
theorem cfC_neg {p q : ByteArray × ByteArray} : cfC p q < 0 ↔ ltc p q := by
  unfold cfC orZ ltc
  by_cases h : cmpS p.1 q.1 = 0
  · rw [if_pos h, cmpS_neg]
    have e := cmpS_zero.1 h
    exact ⟨fun g => Or.inr ⟨e, g⟩, fun g => g.elim (fun g => absurd (e ▸ g) (lts_irr q.1)) (·.2)⟩
  · rw [if_neg h, cmpS_neg]
    exact ⟨Or.inl, fun g => g.elim id (fun g => absurd (cmpS_zero.2 g.1) h)⟩
theorem ltc_irr (p : ByteArray × ByteArray) : ¬ ltc p p := fun h => h.elim (lts_irr _) (fun h => lts_irr _ h.2)
theorem ltc_trans {p q r : ByteArray × ByteArray} (h : ltc p q) (g : ltc q r) : ltc p r := by
  rcases h with h | ⟨e, h⟩
  · rcases g with g | ⟨e', _⟩
    · exact Or.inl (lts_trans h g)
    · exact Or.inl (e' ▸ h)
  · rcases g with g | ⟨e', g⟩
    · exact Or.inl (e ▸ g)
    · exact Or.inr ⟨e.trans e', lts_trans h g⟩
theorem ltc_tri {p q : ByteArray × ByteArray} (h : ¬ ltc p q) (g : ¬ ltc q p) : p = q := by
  have e1 : p.1 = q.1 := lts_tri (fun e => h (Or.inl e)) (fun e => g (Or.inl e))
  have e2 : p.2 = q.2 := lts_tri (fun e => h (Or.inr ⟨e1, e⟩)) (fun e => g (Or.inr ⟨e1.symm, e⟩))
  exact Prod.ext e1 e2
theorem ltc_or (p q : ByteArray × ByteArray) : ltc p q ∨ p = q ∨ ltc q p := by
  by_cases h : ltc p q
  · exact Or.inl h
  · by_cases g : ltc q p
    · exact Or.inr (Or.inr g)
    · exact Or.inr (Or.inl (ltc_tri h g))
theorem swoC : SWO (ltOf cfC) where
  irrefl x := by unfold ltOf; rw [decide_eq_false_iff_not, cfC_neg]; exact ltc_irr x
  trans x y z h1 h2 := by unfold ltOf at *; rw [decide_eq_true_eq, cfC_neg] at *; exact ltc_trans h1 h2
  ntrans x y z h1 h2 := by
    unfold ltOf at *
    rw [decide_eq_false_iff_not, cfC_neg] at *
    intro h
    rcases ltc_or y x with g | g | g
    · exact h2 (ltc_trans g h)
    · exact h2 (g ▸ h)
    · exact h1 g
/-- Below all is as it was: draws, and blocks behind. -/
theorem mb_grow {W W' : World} (h : Mb W W') : ∃ q os, W' = grow (W.drewN q) os := by
  refine ⟨W'.drawn - W.drawn, W'.heap.extract W.heap.size W'.heap.size, ?_⟩
  have hd := h.dr
  have hh : W'.heap = W.heap ++ W'.heap.extract W.heap.size W'.heap.size := by
    apply Array.ext
    · simp; have := h.size; omega
    · intro i h1 h2
      by_cases hi : i < W.heap.size
      · rw [Array.getElem_append_left hi]
        have := h.block i hi
        rw [Array.getElem?_eq_getElem h1, Array.getElem?_eq_getElem hi] at this
        exact Option.some.inj this
      · rw [Array.getElem_append_right (by omega)]
        simp only [Array.getElem_extract]
        congr 1
        omega
  obtain ⟨heap, tape, drawn, os, output⟩ := W'
  have e1 := h.tape
  have e2 := h.os
  have e3 := h.output
  simp only at e1 e2 e3 hd hh
  simp only [grow, World.drewN]
  rw [← hh]
  subst e1 e2 e3
  congr 1
  omega
set_option maxRecDepth 20000 in
theorem t_clo (p q : ByteArray × ByteArray) (w : World) : Calls Tryz.prog 54 #[es53 p, es53 q] w fun e W => e = .returned (.int .i64 (cfC p q)) ∧ Mb w W := by
  refine fn_pure [.agg #[.string p.1, .string p.2], .agg #[.string q.1, .string q.2]] Tryz.func54 rfl rfl rfl (run_ok (st mo ?_))
  refine ⟨_, fun nn => r_call (t := .int .i64 (cmpS p.1 q.1)) rfl rfl Tryz.func56 (fun W M E => t_cmp p.1 q.1 W), st mo ⟨_, fun nn => r_call (t := .int .i64 (cmpS p.2 q.2)) rfl rfl Tryz.func56 (fun W M E => t_cmp p.2 q.2 W), st mo ?_⟩⟩
  refine ⟨_, fun nn => r_c (tc := .int .i64 (cfC p q)) [2] [some [.int .i64 (cmpS p.1 q.1), .int .i64 (cmpS p.2 q.2)]] [] rfl rfl (t_or _ _ _) (by exact fitL_cons fs rfl) ⟨by exact fl rfl rfl, trivial⟩ uv ⟨ul rfl rfl, trivial⟩, st mo ⟨dk, st mo ?_⟩⟩
  rfl
end Go.Proofs.YtfmfeipeeedfpaaGreat
namespace Go.Proofs.YtfmfeipeeedfpaaGreat
open S Go.Sort Go.Lib
abbrev CK := ByteArray × ByteArray
abbrev ec (p : CK) : List Value := [.string p.1, .string p.2]
abbrev cv (L : List CK) : List Value := L.flatMap ec
theorem cv_len : ∀ L : List CK, (cv L).length = L.length * 2
  | [] => rfl
  | p :: L => by simp only [cv, List.flatMap_cons, List.length_append, List.length_cons, List.length_nil]; have := cv_len L; simp only [cv] at this; omega
theorem cv_at : ∀ (L : List CK) (t : Nat), t < L.length * 2 → (cv L)[t]? = some ((ec L[t / 2]!)[t % 2]!)
  | [], t, h => absurd h (by simp)
  | p :: L, 0, _ => rfl
  | p :: L, 1, _ => rfl
  | p :: L, t + 2, h => by
    have := cv_at L t (by simp only [List.length_cons] at h; omega)
    show (ec p ++ cv L)[t + 2]? = _
    rw [List.getElem?_append_right (by simp)]
    rw [show t + 2 - (ec p).length = t by simp, this, show (t + 2) / 2 = t / 2 + 1 by omega, show (t + 2) % 2 = t % 2 by omega]
    rfl
theorem flat_cv (d : Array CK) : flatK ec 2 d = (cv d.toList).toArray := by
  apply Array.ext'
  apply List.ext_getElem?
  intro t
  have hsz : (flatK ec 2 d).size = d.size * 2 := size_flatK _ _ _
  by_cases ht : t < d.size * 2
  · have h1 := cv_at d.toList t (by simpa using ht)
    have h2 := get_flatK ec 2 d t ht
    rw [Array.getElem?_toList, Array.getElem?_eq_getElem (by omega)]
    rw [getElem!_pos (flatK ec 2 d) t (by omega)] at h2
    rw [h2]
    show _ = (cv d.toList)[t]?
    rw [h1]
    have h3 : d[t / 2]! = d.toList[t / 2]! := by
      have : t / 2 < d.size := by omega
      rw [getElem!_pos d _ this, getElem!_pos d.toList _ (by simpa using this)]; simp
    rw [h3]
  · rw [List.getElem?_eq_none (by simp [hsz]; omega), List.getElem?_eq_none (by show (cv d.toList).length ≤ t; rw [cv_len]; simp; omega)]
/-- Columns in their order. -/
def srtC (L : List CK) : List CK := (pdq (ltOf cfC) L.toArray 0 L.length (Lib.bitLen L.length) true true).toList
theorem srtC_spec (L : List CK) : (srtC L).Perm L ∧ (srtC L).Pairwise (fun a b => ¬ ltc b a) := by
  have h := pdq_sorts (ltOf cfC) swoC L.toArray 0 L.length (Lib.bitLen L.length) true true (Nat.zero_le _) (by simp) (Or.inl rfl)
  obtain ⟨⟨h1, _, h2⟩, h3⟩ := h
  have hsz : (pdq (ltOf cfC) L.toArray 0 L.length (Lib.bitLen L.length) true true).size = L.length := by simpa using h1
  refine ⟨?_, ?_⟩
  · have e1 : (pdq (ltOf cfC) L.toArray 0 L.length (Lib.bitLen L.length) true true).extract 0 L.length = pdq (ltOf cfC) L.toArray 0 L.length (Lib.bitLen L.length) true true := by
      conv => lhs; arg 3; rw [← hsz]
      simp
    have e2 : L.toArray.extract 0 L.length = L.toArray := by simp
    rw [e1, e2] at h2
    exact h2
  · unfold srtC
    rw [List.pairwise_iff_getElem]
    intro i j hi hj hij
    have hi' : i < (pdq (ltOf cfC) L.toArray 0 L.length (Lib.bitLen L.length) true true).size := by simpa using hi
    have hj' : j < (pdq (ltOf cfC) L.toArray 0 L.length (Lib.bitLen L.length) true true).size := by simpa using hj
    have := h3 i j (Nat.zero_le _) hij (by omega)
    rw [getElem!_pos _ i hi', getElem!_pos _ j hj'] at this
    have h9 : ∀ u v : CK, ltOf cfC u v = false → ¬ ltc u v := fun u v h => by
      unfold ltOf at h
      rw [decide_eq_false_iff_not, cfC_neg] at h; exact h
    have := h9 _ _ this
    simpa using this
theorem srtC_len (L : List CK) : (srtC L).length = L.length := (srtC_spec L).1.length_eq
abbrev f54 : Value := .func (.func 54) #[] #[]
theorem f54_eq {k : K} {us : List Value} (h : LR (VX k) [f54] us) : us = [f54] := by
  obtain ⟨u, us', rfl, h1, h2⟩ := h
  rw [func_inv h1, show us' = [] from h2]
theorem sort_c (X : World) (L : List CK) (hb : L.length ≤ 1000000000) : Ctr Tryz.prog X 53 [.slice (some ⟨0, 0, none⟩) L.length 2, f54] (hBf (cv L)) 1 1 (.tuple #[]) (hBf (cv (srtC L))) 1 := by
  refine sort_ctr (by rw [cv_len, cv_len, srtC_len]) (fun k us h => f54_eq h) fun W b cap sp ty hW _ => ?_
  have hH : HoldsK ec 2 W b 0 L.toArray := by
    intro j hj
    have hsz : (flatK ec 2 L.toArray).size = L.length * 2 := by simp
    have hj' : j < L.length * 2 := by omega
    refine ⟨?_, by simp [World.frozen?, hW]⟩
    have h1 := cv_at L j hj'
    have h2 := get_flatK ec 2 L.toArray j (by simpa using hj')
    rw [h2, Nat.zero_add, cell_of hW, List.getElem?_append_left (by rw [cv_len]; exact hj'), h1]
    have h3 : L.toArray[j / 2]! = L[j / 2]! := by
      have : j / 2 < L.length := by omega
      rw [getElem!_pos L.toArray _ (by simpa using this), getElem!_pos L _ this]; simp
    rw [h3]; rfl
  have hcmp : CmpLays Tryz.prog 54 #[] ec 2 cfC b 0 L.toArray.size W := fun m os dk _ x y => (t_clo x y _).mono (by
    rintro e w' ⟨rfl, hm⟩
    exact ⟨rfl, mb_grow hm⟩)
  have := AnyQ.slices_SortFunc_eq Tryz.laysSlF0_f53 2 Tryz.isAgg53 Tryz.sizeOf53 ec (fun _ => rfl) (fun x v hv => by simp at hv; rcases hv with rfl | rfl <;> rfl) cfC swoC 54 #[] b 0 cap L.toArray W (fun a w => enter_ok Tryz.func54 rfl a w) hcmp hH (Array.getElem?_eq_some_iff.1 hW).1 (by simp; omega)
  simp only [List.size_toArray] at this
  refine this.mono ?_
  rintro e W' ⟨rfl, n, os, rfl⟩
  refine ⟨rfl, n, os, ?_⟩
  unfold sortWorldK putRowK
  rw [flat_cv]
  rfl
/-- A list of columns as a slice of one's own. -/
def lvK (b : Nat) (L : List CK) : Value := match L with
  | [] => .slice none 0 0
  | _ :: l => .slice (some ⟨b, 0, none⟩) (l.length + 1) 2
def hSc (L : List CK) : HT := match L with
  | [] => []
  | _ :: _ => hBf (cv L)
def nSc (L : List CK) : Nat := match L with
  | [] => 0
  | _ :: _ => 1
def ksC (d : Nat) (x : Ex) : List CK := (gth kxC d x []).map Prod.fst
theorem sort_c0 (W : World) : Calls Tryz.prog 53 #[.slice none 0 0, f54] W fun e W' => e = .returned (.tuple #[]) ∧ Mb W W' := (AnyF.slices_SortFunc_none Tryz.laysSlF0_f53 none 0 f54 W).mono (by rintro e W' ⟨rfl, rfl⟩; exact ⟨rfl, Go.RowKit.Below.refl _ _, Nat.le_refl _⟩)
theorem sort_ck0 (X : World) : Ctr Tryz.prog X 53 [.slice none 0 0, f54] [] 0 0 (.tuple #[]) [] 0 := fun W k us ky _ hv => by
  obtain ⟨u, us', rfl, h1, h2⟩ := hv
  rw [h1.nilslc_inv, f54_eq h2]
  refine (sort_c0 W).mono ?_
  rintro e W' ⟨rfl, hm⟩
  refine ⟨_, k, rfl, undef_vx, ⟨⟨fun i hi => absurd (tb_ones.1 hi) (Nat.not_lt_zero i), fun i j hi => absurd (tb_ones.1 hi) (Nat.not_lt_zero i)⟩, ky.nn, ky.nk⟩, fun i hi => absurd hi (Nat.not_lt_zero i), fun i b z hk => ?_, fun b hb _ => hm.block b hb, hm.size, hm.os, ⟨hm.tape, hm.dr⟩, hm.output⟩
  rw [ky.nk i (Nat.zero_le i)] at hk; cases hk
set_option maxRecDepth 20000 in
theorem cols_n (d : Nat) (X : World) (x : Ex) (hL : LT X d x) (hb : nds d x ≤ 1000000000) : Ctr Tryz.prog X 20 [.agg (x.c.map rel1).toArray] [] 0 0 (lvK 0 (srtC (ksC d x))) (hSc (srtC (ksC d x))) (nSc (srtC (ksC d x))) := by
  have hlen := gth_len kxC d x
  refine fn_c _ Tryz.func20 rfl rfl rfl rfl (fun w l X' hX => run_ok (st mo ?_))
  have g := gatc_n d X' x (hL.mono (xcell hX)) hb
  unfold ksC
  generalize gth kxC d x [] = al at g hlen
  rcases al with _ | ⟨q, al⟩
  · have e0 : srtC (([] : CLf).map Prod.fst) = [] := List.eq_nil_of_length_eq_zero (by rw [srtC_len]; rfl)
    rw [e0]
    refine ⟨_, fun nn => r_c (tc := .slice none 0 0) [] [] [] rfl rfl g (by exact fitL_cons fv (fitL_cons (ff (l := []) (m := []) rfl) rfl)) trivial uv trivial, st mo ?_⟩
    refine ⟨_, fun nn => r_c (tc := .tuple #[]) [] [] [] rfl rfl (sort_ck0 X') (by exact fitL_cons fv (fitL_cons (ff (l := []) (m := []) rfl) rfl)) trivial ut0 trivial, st mo ?_⟩
    exact ⟨rfl, [], fv, trivial, rfl, rfl⟩
  · have hl2 : ((q :: al).map Prod.fst).length = al.length + 1 := by simp
    have hs := sort_c X' ((q :: al).map Prod.fst) (by rw [hl2]; simp only [List.length_cons] at hlen; omega)
    have hsl := srtC_len ((q :: al).map Prod.fst)
    rw [hl2] at hs hsl
    have hc : cv ((q :: al).map Prod.fst) = (q :: al).flatMap fun p => [Value.string p.1.1, Value.string p.1.2] := by rw [cv, List.flatMap_map]
    rw [hc] at hs
    generalize srtC ((q :: al).map Prod.fst) = M at hs hsl
    refine ⟨_, fun nn => r_c (tc := .slice (some ⟨1, 0, none⟩) (al.length + 1) 2) [] [some (((q :: al).flatMap fun p => [Value.string p.1.1, Value.string p.1.2]).map rel1)] [1] rfl rfl g (by exact fitL_cons fv (fitL_cons (ff (l := []) (m := []) rfl) rfl)) trivial us ⟨ulr rfl, trivial⟩, st mo ?_⟩
    refine ⟨_, fun nn => r_c (tc := .tuple #[]) [1] [some ((cv M).map rel1)] [1] rfl rfl hs (by exact fitL_cons fs (fitL_cons (ff (l := []) (m := []) rfl) rfl)) ⟨trivial, flr rfl, trivial⟩ ut0 ⟨ulr rfl, trivial⟩, st mo ?_⟩
    rcases M with _ | ⟨m, M⟩
    · cases hsl
    · simp only [List.length_cons] at hsl
      refine ⟨rfl, [1], ?_, ⟨trivial, flr rfl, trivial⟩, rfl, rfl⟩
      show S.fitV _ _ (.slice (some ⟨0, 0, none⟩) (M.length + 1) 2)
      rw [hsl]
      exact fs
end Go.Proofs.YtfmfeipeeedfpaaGreat
namespace Go.Proofs.YtfmfeipeeedfpaaGreat
namespace S
/-- A slice with nothing in it. -/
def emp : Value := .float .f64 0
section
variable {P : Program} {w0 : B0} {X : World} {o : Oper} {fr : FT} {h : HT} {n : Nat}
theorem sl_run {t e : TypeId} {z : Nat} (hu : P.underlying t = some (.slice e)) (hz : szOf P e = some z) {p : Option Addr} {m c : Nat} {lo hi : Option Value} {a b : Int} (ha : (lo = none ∧ a = 0) ∨ ∃ k, lo = some (.int k a)) (hb : (hi = none ∧ b = (m : Int)) ∨ (∃ k, hi = some (.int k b)) ∧ b ≤ (c : Int)) (h0 : 0 ≤ a) (h1 : a ≤ b) (W : World) : (Instr.sliceAt t (.slice p m c) lo hi none).run P W = .ok (.slice (slp p c a.toNat z) (b.toNat - a.toNat) (c - a.toNat)) W := by
  obtain ⟨inf, hinf, hsi⟩ := szOf_info hz
  have hB := bounds_run (P := P) (isS := true) (len := m) (cap := c) ha hb h0 h1 W
  simp only [Instr.sliceAt, Instr.slice, Sem.run_bind, run_underlying hu, Result.andThen_ok, hB, Sem.run_pure]
  simp [sizeOf, typeInfo, hinf, hsi, slp]
theorem r_slH {t e : TypeId} {x hi : Operand} {b q m es k : Nat} {kk : IntKind} {y : Int} (hy : y = (k : Int)) (hk : k ≤ m) (ho : o.op = .slice t x none (some hi) none := by rfl) (hx : evo fr x = .slice (some ⟨b, q, none⟩) m es := by rfl) (hh : evo fr hi = .int kk y := by rfl) (hu : P.underlying t = some (.slice e) := by rfl) (hz : szOf P e = some es := by rfl) : Oa (Am w0 X) P o fr h n ⟨.slice (some ⟨b, q, none⟩) k es, h, n, 0, 0⟩ := by
  subst hy
  refine Oo.to (Oo.val rfl fun kf W a hop => ?_)
  have h1 := hop x (by simp [ho, Op.operands])
  have h2 := hop hi (by simp [ho, Op.operands])
  rw [hx] at h1; rw [hh] at h2
  obtain ⟨h0, b', zz, c, hkb, h3, h4, h5⟩ := h1.slc_inv
  have h6 := h2.int_inv
  refine ⟨.slice (some ⟨b', q, none⟩) k c, VX.of0 ⟨h0, b', zz, c, hkb, rfl, by omega, h5⟩, ?_⟩
  have hr := sl_run (P := P) hu hz (p := some ⟨b', q, none⟩) (m := m) (c := c) (lo := none) (hi := some (.int kk (k : Int))) (a := 0) (b := (k : Int)) (Or.inl ⟨rfl, rfl⟩) (Or.inr ⟨⟨kk, rfl⟩, by omega⟩) (Int.le_refl _) (by omega) W
  simp only [execOp, ho, h3, h6, Option.map_none, Option.map_some, Sem.run_bind, hr, Result.andThen_ok, Sem.run_pure]
  simp [slp_0]
theorem r_slE0 {t e : TypeId} {x hi : Operand} {b q m es : Nat} {kk : IntKind} {y : Int} (hy : y = 0) (ho : o.op = .slice t x none (some hi) none := by rfl) (hx : evo fr x = .slice (some ⟨b, q, none⟩) m es := by rfl) (hh : evo fr hi = .int kk y := by rfl) (hu : P.underlying t = some (.slice e) := by rfl) (hz : szOf P e = some es := by rfl) : Oa (Am w0 X) P o fr h n ⟨emp, h, n, 0, 0⟩ := by
  subst hy
  refine Oo.to (Oo.val rfl fun kf W a hop => ?_)
  have h1 := hop x (by simp [ho, Op.operands])
  have h2 := hop hi (by simp [ho, Op.operands])
  rw [hx] at h1; rw [hh] at h2
  obtain ⟨h0, b', zz, c, hkb, h3, h4, h5⟩ := h1.slc_inv
  have h6 := h2.int_inv
  have hr := sl_run (P := P) hu hz (p := some ⟨b', q, none⟩) (m := m) (c := c) (lo := none) (hi := some (.int kk 0)) (a := 0) (b := 0) (Or.inl ⟨rfl, rfl⟩) (Or.inr ⟨⟨kk, rfl⟩, by omega⟩) (Int.le_refl _) (Int.le_refl _) W
  refine ⟨.slice (slp (some ⟨b', q, none⟩) c 0 es) 0 c, VX.of0 ⟨_, _, rfl⟩, ?_⟩
  simp only [execOp, ho, h3, h6, Option.map_none, Option.map_some, Sem.run_bind, hr, Result.andThen_ok, Sem.run_pure]
  rfl
theorem r_slL {t e : TypeId} {x lo : Operand} {b q m es k : Nat} {kk : IntKind} {y : Int} (hy : y = (k : Int)) (hk : k < m) (ho : o.op = .slice t x (some lo) none none := by rfl) (hx : evo fr x = .slice (some ⟨b, q, none⟩) m es := by rfl) (hh : evo fr lo = .int kk y := by rfl) (hu : P.underlying t = some (.slice e) := by rfl) (hz : szOf P e = some es := by rfl) : Oa (Am w0 X) P o fr h n ⟨.slice (some ⟨b, q + k * es, none⟩) (m - k) es, h, n, 0, 0⟩ := by
  subst hy
  refine Oo.to (Oo.val rfl fun kf W a hop => ?_)
  have h1 := hop x (by simp [ho, Op.operands])
  have h2 := hop lo (by simp [ho, Op.operands])
  rw [hx] at h1; rw [hh] at h2
  obtain ⟨h0, b', zz, c, hkb, h3, h4, h5⟩ := h1.slc_inv
  have h6 := h2.int_inv
  have h5' : q + c * es ≤ zz := h5
  refine ⟨.slice (some ⟨b', q + k * es, none⟩) (m - k) (c - k), VX.of0 ⟨h0, b', zz, c - k, hkb, rfl, by omega, ?_⟩, ?_⟩
  · show q + k * es + (c - k) * es ≤ zz
    have : k * es + (c - k) * es = c * es := by rw [← Nat.add_mul]; congr 1; omega
    omega
  · have hr := sl_run (P := P) hu hz (p := some ⟨b', q, none⟩) (m := m) (c := c) (lo := some (.int kk (k : Int))) (hi := none) (a := (k : Int)) (b := (m : Int)) (Or.inr ⟨kk, rfl⟩) (Or.inl ⟨rfl, rfl⟩) (by omega) (by omega) W
    simp only [execOp, ho, h3, h6, Option.map_none, Option.map_some, Sem.run_bind, hr, Result.andThen_ok, Sem.run_pure]
    simp only [Int.toNat_natCast]
    rw [slp_some (by omega)]
theorem r_slE1 {t e : TypeId} {x lo : Operand} {b q m es : Nat} {kk : IntKind} {y : Int} (hy : y = (m : Int)) (ho : o.op = .slice t x (some lo) none none := by rfl) (hx : evo fr x = .slice (some ⟨b, q, none⟩) m es := by rfl) (hh : evo fr lo = .int kk y := by rfl) (hu : P.underlying t = some (.slice e) := by rfl) (hz : szOf P e = some es := by rfl) : Oa (Am w0 X) P o fr h n ⟨emp, h, n, 0, 0⟩ := by
  subst hy
  refine Oo.to (Oo.val rfl fun kf W a hop => ?_)
  have h1 := hop x (by simp [ho, Op.operands])
  have h2 := hop lo (by simp [ho, Op.operands])
  rw [hx] at h1; rw [hh] at h2
  obtain ⟨h0, b', zz, c, hkb, h3, h4, h5⟩ := h1.slc_inv
  have h6 := h2.int_inv
  have hr := sl_run (P := P) hu hz (p := some ⟨b', q, none⟩) (m := m) (c := c) (lo := some (.int kk (m : Int))) (hi := none) (a := (m : Int)) (b := (m : Int)) (Or.inr ⟨kk, rfl⟩) (Or.inl ⟨rfl, rfl⟩) (by omega) (Int.le_refl _) W
  refine ⟨.slice (slp (some ⟨b', q, none⟩) c m es) 0 (c - m), VX.of0 ⟨_, _, rfl⟩, ?_⟩
  simp only [execOp, ho, h3, h6, Option.map_none, Option.map_some, Sem.run_bind, hr, Result.andThen_ok, Sem.run_pure, Int.toNat_natCast, Nat.sub_self]
theorem r_slN {t e : TypeId} {x : Operand} {lo hi : Option Operand} {z : Nat} (hl : lo = none ∨ ∃ y k, lo = some y ∧ evo fr y = .int k 0) (hh : hi = none ∨ ∃ y k, hi = some y ∧ evo fr y = .int k 0) (ho : o.op = .slice t x lo hi none := by rfl) (hx : evo fr x = .slice none 0 0 := by rfl) (hu : P.underlying t = some (.slice e) := by rfl) (hz : szOf P e = some z := by rfl) : Oa (Am w0 X) P o fr h n ⟨emp, h, n, 0, 0⟩ := by
  refine Oo.to (Oo.val rfl fun kf W a hop => ?_)
  have h1 := hop x (by simp [ho, Op.operands])
  rw [hx] at h1
  have h3 := h1.nilslc_inv
  have ev : ∀ y k, (y ∈ o.op.operands.toList) → evo fr y = .int k 0 → a.eval y = .int k 0 := fun y k hy he => by
    have := hop y hy
    rw [he] at this
    exact this.int_inv
  have hl' : (lo.map a.eval = none ∧ (0 : Int) = 0) ∨ ∃ k, lo.map a.eval = some (.int k 0) := by
    rcases hl with rfl | ⟨y, k, rfl, he⟩
    · exact Or.inl ⟨rfl, rfl⟩
    · exact Or.inr ⟨k, by rw [Option.map_some, ev y k (by simp [ho, Op.operands]) he]⟩
  have hh' : (hi.map a.eval = none ∧ (0 : Int) = ((0 : Nat) : Int)) ∨ (∃ k, hi.map a.eval = some (.int k 0)) ∧ (0 : Int) ≤ ((0 : Nat) : Int) := by
    rcases hh with rfl | ⟨y, k, rfl, he⟩
    · exact Or.inl ⟨rfl, rfl⟩
    · exact Or.inr ⟨⟨k, by rw [Option.map_some, ev y k (by simp [ho, Op.operands]) he]⟩, by simp⟩
  have hr := sl_run (P := P) hu hz (p := none) (m := 0) (c := 0) hl' hh' (Int.le_refl _) (Int.le_refl _) W
  refine ⟨.slice none 0 0, VX.of0 ⟨_, _, rfl⟩, ?_⟩
  simp only [execOp, ho, h3, Option.map_none, Sem.run_bind, hr, Result.andThen_ok, Sem.run_pure]
  rfl
/-- Nothing put behind a slice. -/
theorem app_none {t e : TypeId} (hu : P.underlying t = some (.slice e)) {p q : Option Addr} {m cv c : Nat} (hm : m ≤ cv) (ty : TypeId) (hz : ∃ z, szOf P e = some z) (w : World) : (Builtin.append_ #[t, t] ty #[.slice p m cv, .slice q 0 c]).run P w = .ok (.slice p m cv) w := by
  obtain ⟨z, hz⟩ := hz
  obtain ⟨inf, hinf, hsi⟩ := szOf_info hz
  cases p <;> cases q <;> simp [Builtin.append_, run_underlying hu, Builtin.lenOf, Builtin.firstCells, storeCells, hm, sizeOf, typeInfo, hinf, go_sem]
theorem r_apE {t e : TypeId} {x y : Operand} {b m es : Nat} (ho : o.op = .call { callee := .builtin .append, args := #[x, y], argTypes := #[t, t] } := by rfl) (hx : evo fr x = .slice (some ⟨b, 0, none⟩) m es := by rfl) (hy : evo fr y = emp := by rfl) (hu : P.underlying t = some (.slice e) := by rfl) (hz : ∃ z, szOf P e = some z := by exact ⟨_, rfl⟩) : Oa (Am w0 X) P o fr h n ⟨.slice (some ⟨b, 0, none⟩) m es, h, n, 0, 0⟩ := by
  refine Oo.to (Oo.val rfl fun kf W a hop => ?_)
  have h1 := hop x (by simp [ho, Op.operands, Call.operands])
  have h2 := hop y (by simp [ho, Op.operands, Call.operands])
  rw [hx] at h1; rw [hy] at h2
  obtain ⟨h0, b', zz, c, hkb, h3, h4, h5⟩ := h1.slc_inv
  obtain ⟨p, c', h6⟩ := h2.emp_inv
  refine ⟨.slice (some ⟨b', 0, none⟩) m c, VX.of0 ⟨h0, b', zz, c, hkb, rfl, h4, h5⟩, ?_⟩
  exact app_exec ho a W (.slice (some ⟨b', 0, none⟩) m c) (.slice p 0 c') _ W (by simp [h3, h6]) (app_none hu h4 _ hz W)
theorem r_apN {t e : TypeId} {x y : Operand} (ho : o.op = .call { callee := .builtin .append, args := #[x, y], argTypes := #[t, t] } := by rfl) (hx : evo fr x = .slice none 0 0 := by rfl) (hy : evo fr y = emp := by rfl) (hu : P.underlying t = some (.slice e) := by rfl) (hz : ∃ z, szOf P e = some z := by exact ⟨_, rfl⟩) : Oa (Am w0 X) P o fr h n ⟨.slice none 0 0, h, n, 0, 0⟩ := by
  refine Oo.to (Oo.val rfl fun kf W a hop => ?_)
  have h1 := hop x (by simp [ho, Op.operands, Call.operands])
  have h2 := hop y (by simp [ho, Op.operands, Call.operands])
  rw [hx] at h1; rw [hy] at h2
  have h3 := h1.nilslc_inv
  obtain ⟨p, c', h6⟩ := h2.emp_inv
  refine ⟨.slice none 0 0, VX.of0 rfl, ?_⟩
  exact app_exec ho a W (.slice none 0 0) (.slice p 0 c') _ W (by simp [h3, h6]) (app_none hu (Nat.le_refl 0) _ hz W)
end
end S
end Go.Proofs.YtfmfeipeeedfpaaGreat
namespace Go.Proofs.YtfmfeipeeedfpaaGreat
open S Go.Sort Go.Lib
/-- How many stand ahead. -/
def cntL {κ : Type} (lb : κ → κ → Bool) (s : κ) : List κ → Nat
  | [] => 0
  | a :: L => bif lb a s then cntL lb s L + 1 else 0
theorem cntL_le {κ : Type} (lb : κ → κ → Bool) (s : κ) : ∀ L : List κ, cntL lb s L ≤ L.length
  | [] => Nat.le_refl _
  | a :: L => by simp only [cntL, List.length_cons]; cases lb a s <;> simp; exact cntL_le lb s L
theorem cntL_lt {κ : Type} (lb : κ → κ → Bool) (s : κ) : ∀ (L : List κ) (k : Nat) (a : κ), k ≤ cntL lb s L → L[k]? = some a → (lb a s = true → k + 1 ≤ cntL lb s L) ∧ (lb a s = false → k = cntL lb s L)
  | [], k, a, _, h => by cases h
  | b :: L, k, a, hk, h => by
    simp only [cntL] at hk ⊢
    cases hb : lb b s with
    | false =>
      rw [hb] at hk
      have : k = 0 := by simpa using hk
      subst this
      simp at h; subst h
      rw [hb]
      exact ⟨fun e => (by cases e), fun _ => rfl⟩
    | true =>
      rw [hb] at hk
      simp only [cond_true] at hk ⊢
      cases k with
      | zero =>
        simp at h; subst h
        exact ⟨fun _ => by omega, fun e => by rw [hb] at e; cases e⟩
      | succ k =>
        have := cntL_lt lb s L k a (by omega) (by simpa using h)
        exact ⟨fun e => by have := this.1 e; omega, fun e => by have := this.2 e; omega⟩
/-- Put where it belongs, once. -/
def insL {κ : Type} [DecidableEq κ] (lb : κ → κ → Bool) (L : List κ) (s : κ) : List κ := if L[cntL lb s L]? = some s then L else L.take (cntL lb s L) ++ s :: L.drop (cntL lb s L)
def ltb (a b : ByteArray) : Bool := decide (a.data.toList < b.data.toList)
theorem ltb_t {a b : ByteArray} : ltb a b = true ↔ lts a b := by unfold ltb lts; rw [decide_eq_true_iff]
theorem ltb_f {a b : ByteArray} : ltb a b = false ↔ ¬ lts a b := by unfold ltb lts; rw [decide_eq_false_iff_not]
theorem one_sv : ∀ L : List ByteArray, allOne ((sv L).map rel1) = true
  | [] => rfl
  | a :: L => by simp only [sv, List.map_cons, allOne]; exact one_sv L
theorem sv_at {L : List ByteArray} {k : Nat} {a : ByteArray} (h : L[k]? = some a) : ((sv L).map rel1)[k]? = some (.string a) := by simp [sv, h]; rfl
theorem sv_len (L : List ByteArray) : ((sv L).map rel1).length = L.length := by simp
set_option maxRecDepth 20000 in
theorem txt_0 (X : World) (s : ByteArray) : Ctr Tryz.prog X 83 [.slice none 0 0, .string s] [] 0 0 (.slice (some ⟨0, 0, none⟩) 1 1) (hBf (sv [s])) 1 := by
  refine fn_c _ Tryz.func83 rfl rfl rfl rfl (fun w l X' hX => run_ok (st mo ?_))
  refine w_loop (fun _ : Nat => ⟨⟨47, [(0, .slice none 0 0), (1, .string s), (5, .int .i64 0)]⟩, [], 0, X'⟩) (fun _ => True) (fun _ => 0) 0 trivial [] ⟨rfl, ⟨fv, fv, fv, trivial⟩, trivial, xf, rfl, rfl⟩ ?_
  intro i _
  refine st mo (st mo ⟨fun h => absurd h (by omega), fun _ => st mo (st mo (st mo ⟨fun h => absurd h (by omega), fun _ => st mo ?_⟩))⟩)
  refine ⟨_, fun nn => r_slN (Or.inl rfl) (Or.inr ⟨_, _, rfl, rfl⟩), st mo ⟨_, fun nn => r_apN, st mo ⟨1, [.string s], _, put_own rfl rfl rfl rfl rfl, by omega, by omega, st mo ?_⟩⟩⟩
  refine ⟨_, fun nn => r_slN (Or.inr ⟨_, _, rfl, rfl⟩) (Or.inl rfl), st mo ⟨_, fun nn => r_apE, st mo ?_⟩⟩
  exact ⟨rfl, [1], fs, ⟨trivial, flr rfl, trivial⟩, rfl, rfl⟩
theorem sv_take (L : List ByteArray) (k : Nat) (h : k ≤ L.length) : (sv (L.take k)).map rel1 = (((sv L).map rel1).drop 0).take (k * 1) ∧ ((sv (L.take k)).map rel1).length = k * 1 := by
  simp only [sv, List.map_take, List.drop_zero, Nat.mul_one, List.length_take, List.length_map, true_and]
  omega
theorem sv_drop (L : List ByteArray) (k : Nat) : (sv (L.drop k)).map rel1 = (((sv L).map rel1).drop (0 + k * 1)).take ((L.length - k) * 1) ∧ ((sv (L.drop k)).map rel1).length = (L.length - k) * 1 := by
  refine ⟨?_, by simp⟩
  rw [Nat.zero_add, Nat.mul_one, Nat.mul_one, List.take_of_length_le (by simp), sv, List.map_drop, List.map_drop]
set_option maxRecDepth 20000 in
theorem txt_1 (X : World) (L : List ByteArray) (s : ByteArray) (h0 : 0 < L.length) (hb : L.length ≤ 1000000000) : Ctr Tryz.prog X 83 [.slice (some ⟨0, 0, none⟩) L.length 1, .string s] (hBf (sv L)) 1 0 (.slice (some ⟨0, 0, none⟩) (insL ltb L s).length 1) (hBf (sv (insL ltb L s))) 1 := by
  have hcl := cntL_le ltb s L
  refine fn_c _ Tryz.func83 rfl rfl rfl rfl (fun w l X' hX => run_ok (st mo ?_))
  refine w_loop (fun k : Nat => ⟨⟨47, [(0, .slice (some ⟨0, 0, none⟩) L.length 1), (1, .string s), (5, .int .i64 (k : Int))]⟩, hBf (sv L), 1, X'⟩) (fun k => k ≤ cntL ltb s L) (fun k => L.length - k) 0 (Nat.zero_le _) [0] ⟨rfl, ⟨fs, fv, fv, trivial⟩, ⟨trivial, flr rfl, trivial⟩, xf, rfl, rfl⟩ ?_
  intro k hk
  refine st mo (st mo ⟨fun hlt => ?_, fun hge => ?_⟩)
  · have hkl : k < L.length := by omega
    obtain ⟨a, ha⟩ : ∃ a, L[k]? = some a := ⟨_, List.getElem?_eq_getElem hkl⟩
    have hc := cntL_lt ltb s L k a hk ha
    refine st mo ⟨k, rfl, hkl, st mo ⟨.string a, sv_at ha, st mo ?_⟩⟩
    cases hab : ltb a s with
    | true =>
      refine ⟨litT, s_lt (ltb_t.1 hab), rfl, st mo ⟨_, wz (k + 1) rfl, st mo ?_⟩⟩
      exact ⟨k + 1, hc.1 hab, by dsimp; omega, [0], rfl, ⟨fs, fv, fv, trivial⟩, ⟨trivial, flr rfl, trivial⟩, xf, rfl, rfl⟩
    | false =>
      have hkc := hc.2 hab
      refine ⟨litF, s_nlt (ltb_f.1 hab), rfl, st mo (st mo (st mo ⟨fun _ => st mo ⟨k, rfl, hkl, st mo ⟨.string a, sv_at ha, st mo ?_⟩⟩, fun hge => absurd hge (by omega)⟩))⟩
      refine ⟨fun he => ?_, fun hne => ?_⟩
      · have hi : insL ltb L s = L := by unfold insL; rw [← hkc, ha, he, if_pos rfl]
        rw [hi]
        exact st mo ⟨rfl, [0], fs, ⟨trivial, flr rfl, trivial⟩, rfl, rfl⟩
      · have hi : insL ltb L s = L.take k ++ s :: L.drop k := by unfold insL; rw [← hkc, ha, if_neg (fun e => hne (Option.some.inj e))]
        have hlen : (L.take k ++ s :: L.drop k).length = L.length + 1 := by simp; omega
        obtain ⟨d1, d2⟩ := sv_drop L k
        rw [hi]
        rcases Nat.eq_zero_or_pos k with hk0 | hk0
        · subst hk0
          refine st mo ⟨_, fun nn => r_slE0 (b := 0) (q := 0) (m := L.length) (es := 1) rfl, st mo ⟨_, fun nn => r_apN, st mo ⟨1, [.string s], _, put_own rfl rfl rfl rfl rfl, by omega, by omega, st mo ?_⟩⟩⟩
          refine ⟨_, fun nn => r_slL (b := 0) (q := 0) (m := L.length) (es := 1) (k := 0) rfl hkl, st mo ⟨rfl, L.length - 0, (sv (L.drop 0)).map rel1, _, put_own rfl d1 d2 (one_sv _) rfl, by omega, _, rfl, st mo ?_⟩⟩
          refine ⟨rfl, [3], ?_, ⟨trivial, flr (by simp [sv]; rfl), trivial⟩, rfl, rfl⟩
          rw [hlen]
          show S.fitV _ (.slice (some ⟨3, 0, none⟩) (1 + (L.length - 0)) 1) _
          rw [show 1 + (L.length - 0) = L.length + 1 by omega]
          exact fs
        · obtain ⟨c1, c2⟩ := sv_take L k (by omega)
          refine st mo ⟨_, fun nn => r_slH (b := 0) (q := 0) (m := L.length) (es := 1) (k := k) rfl (by omega), st mo ⟨k, (sv (L.take k)).map rel1, _, put_own rfl c1 c2 (one_sv _) rfl, hk0, by omega, st mo ⟨c2, 1, [.string s], _, put_own rfl rfl rfl rfl rfl, by omega, _, rfl, st mo ?_⟩⟩⟩
          refine ⟨_, fun nn => r_slL (b := 0) (q := 0) (m := L.length) (es := 1) (k := k) rfl hkl, st mo ⟨?_, L.length - k, (sv (L.drop k)).map rel1, _, put_own rfl d1 d2 (one_sv _) rfl, by omega, _, rfl, st mo ?_⟩⟩
          · rw [List.length_append, c2]; rfl
          refine ⟨rfl, [4], ?_, ⟨trivial, flr (by simp [sv]; rfl), trivial⟩, rfl, rfl⟩
          rw [hlen]
          show S.fitV _ (.slice (some ⟨4, 0, none⟩) (k + 1 + (L.length - k)) 1) _
          rw [show k + 1 + (L.length - k) = L.length + 1 by omega]
          exact fs
  · have hkl : k = L.length := by omega
    subst hkl
    have hcn : cntL ltb s L = L.length := by omega
    have hi : insL ltb L s = L ++ [s] := by unfold insL; rw [hcn, List.getElem?_eq_none (Nat.le_refl _), if_neg (by simp)]; simp
    rw [hi]
    obtain ⟨c1, c2⟩ := sv_take L L.length (Nat.le_refl _)
    rw [List.take_length] at c1 c2
    refine st mo (st mo (st mo ⟨fun h => absurd h (by omega), fun _ => st mo ?_⟩))
    refine ⟨_, fun nn => r_slH (b := 0) (q := 0) (m := L.length) (es := 1) (k := L.length) rfl (Nat.le_refl _), st mo ⟨L.length, (sv L).map rel1, _, put_own rfl c1 c2 (one_sv _) rfl, h0, by omega, st mo ⟨c2, 1, [.string s], _, put_own rfl rfl rfl rfl rfl, by omega, _, rfl, st mo ?_⟩⟩⟩
    refine ⟨_, fun nn => r_slE1 (b := 0) (q := 0) (m := L.length) (es := 1) rfl, st mo ⟨_, fun nn => r_apE, st mo ?_⟩⟩
    refine ⟨rfl, [3], ?_, ⟨trivial, flr (by simp [sv]; rfl), trivial⟩, rfl, rfl⟩
    rw [show (L ++ [s]).length = L.length + 1 by simp]
    exact fs
end Go.Proofs.YtfmfeipeeedfpaaGreat
namespace Go.Proofs.YtfmfeipeeedfpaaGreat
open S Go.Sort Go.Lib
section
variable {κ : Type} [DecidableEq κ]
def oneD (kx : Ex → Option κ) (lb : κ → κ → Bool) (x : Ex) (L : List κ) : List κ := match kx x with
  | some a => insL lb L a
  | none => L
/-- What is gathered, each put where it belongs. -/
def gtD (kx : Ex → Option κ) (lb : κ → κ → Bool) : Nat → Ex → List κ → List κ
  | 0, x, L => oneD kx lb x L
  | d + 1, x, L => x.a.foldl (fun s y => gtD kx lb d y s) (oneD kx lb x L)
theorem insL_len (lb : κ → κ → Bool) (L : List κ) (s : κ) : (insL lb L s).length ≤ L.length + 1 ∧ L.length ≤ (insL lb L s).length ∧ 0 < (insL lb L s).length := by
  unfold insL
  have := cntL_le lb s L
  split
  · rename_i h
    have : 0 < L.length := Nat.lt_of_le_of_lt (Nat.zero_le _) (List.getElem?_eq_some_iff.1 h).1
    omega
  · simp only [List.length_append, List.length_take, List.length_cons, List.length_drop]; omega
theorem oneD_len (kx : Ex → Option κ) (lb : κ → κ → Bool) (x : Ex) (L : List κ) : (oneD kx lb x L).length ≤ L.length + 1 ∧ L.length ≤ (oneD kx lb x L).length := by
  unfold oneD
  split
  · have := insL_len lb L ‹κ›; omega
  · omega
theorem gtD_len (kx : Ex → Option κ) (lb : κ → κ → Bool) : ∀ (d : Nat) (x : Ex) (L : List κ), (gtD kx lb d x L).length ≤ L.length + nds d x ∧ L.length ≤ (gtD kx lb d x L).length
  | 0, x, L => oneD_len kx lb x L
  | d + 1, x, L => by
    have key : ∀ (l : List Ex) (s : List κ), (l.foldl (fun s y => gtD kx lb d y s) s).length ≤ s.length + l.foldl (fun n y => n + nds d y) 0 ∧ s.length ≤ (l.foldl (fun s y => gtD kx lb d y s) s).length := by
      intro l
      induction l with
      | nil => intro s; simp
      | cons y l ih =>
        intro s
        simp only [List.foldl_cons]
        rw [fold_nds l (0 + nds d y)]
        have h1 := ih (gtD kx lb d y s)
        have h2 := gtD_len kx lb d y s
        omega
    have h1 := key x.a (oneD kx lb x L)
    have h2 := oneD_len kx lb x L
    show (x.a.foldl (fun s y => gtD kx lb d y s) (oneD kx lb x L)).length ≤ L.length + x.a.foldl (fun n y => n + nds d y) 1 ∧ L.length ≤ (x.a.foldl (fun s y => gtD kx lb d y s) (oneD kx lb x L)).length
    rw [fold_nds x.a 1]
    omega
end
def hS1 (L : List ByteArray) : HT := match L with
  | [] => []
  | _ :: _ => [(1 + 4096, none), (1, some ((sv L).map rel1))]
def nS1 (L : List ByteArray) : Nat := match L with
  | [] => 1
  | _ :: _ => 2
abbrev TN (x : Ex) (L : List ByteArray) (X : World) : St := ⟨⟨28, [(1, lvS 1 L), (2, p0 0)]⟩, (0, some (x.c.map rel1)) :: hS1 L, nS1 L, X⟩
def NaC (d : Nat) : Prop := ∀ (X : World) (x : Ex) (L : List ByteArray), LT X d x → L.length + nds d x ≤ 1000000000 → Ctr Tryz.prog X 49 [.agg (x.c.map rel1).toArray, lvS 0 L] (hSs L) (nSs L) 0 (lvS 0 (gtD kxN ltb d x L)) (hSs (gtD kxN ltb d x L)) (nSs (gtD kxN ltb d x L))
set_option maxRecDepth 20000 in
theorem nam_t {d : Nat} (ih : ∀ d', d' + 1 = d → NaC d') {w : World} {l : Nat → Nat × Nat} {X : World} {x : Ex} {L : List ByteArray} (hL : LT X d x) (hb : L.length + x.a.foldl (fun n y => n + nds (d - 1) y) 0 ≤ 1000000000) :
    Rn Tryz.prog ⟨w, 0, l⟩ (retC Tryz.prog Tryz.f49 X 0 (lvS 0 (x.a.foldl (fun s y => gtD kxN ltb (d - 1) y s) L)) (hSs (x.a.foldl (fun s y => gtD kxN ltb (d - 1) y s) L)) (nSs (x.a.foldl (fun s y => gtD kxN ltb (d - 1) y s) L))) (cf (TN x L X) [co (sndC (sndC (Tryz.f49.body.getD .skip)))]) := by
  have hlen := hL.len
  have start : ∀ M : List ByteArray, ∃ σ, Fit 0 ⟨⟨28, (5, .int .i64 0) :: [(1, lvS 1 M), (2, p0 0)]⟩, (0, some (x.c.map rel1)) :: hS1 M, nS1 M, X⟩ ⟨⟨28, [(1, lvS 1 M), (2, p0 0), (5, .int .i64 ((0 : Nat) : Int))]⟩, (0, some (x.c.map rel1)) :: hS1 M, nS1 M, X⟩ σ := by
    intro M
    rcases M with _ | ⟨m, M⟩
    · exact ⟨[0], rfl, ⟨fv, fp, fv, trivial⟩, ⟨flr rfl, trivial⟩, xf, rfl, rfl⟩
    · exact ⟨[0, 1], rfl, ⟨fs, fp, fv, trivial⟩, ⟨flr rfl, trivial, flr rfl, trivial⟩, xf, rfl, rfl⟩
  obtain ⟨σ0, F0⟩ := start L
  refine st mo ?_
  refine w_loop (fun i : Nat => ⟨⟨28, [(1, lvS 1 ((x.a.take i).foldl (fun s y => gtD kxN ltb (d - 1) y s) L)), (2, p0 0), (5, .int .i64 (i : Int))]⟩, (0, some (x.c.map rel1)) :: hS1 ((x.a.take i).foldl (fun s y => gtD kxN ltb (d - 1) y s) L), nS1 ((x.a.take i).foldl (fun s y => gtD kxN ltb (d - 1) y s) L), X⟩)
    (fun i => i ≤ x.a.length ∧ ((x.a.take i).foldl (fun s y => gtD kxN ltb (d - 1) y s) L).length ≤ L.length + (x.a.take i).foldl (fun n y => n + nds (d - 1) y) 0) (fun i => x.a.length - i) 0 ⟨by omega, by simp⟩ σ0 F0 ?_
  intro i ⟨hi, hli⟩
  generalize hal : (x.a.take i).foldl (fun s y => gtD kxN ltb (d - 1) y s) L = M at hli ⊢
  by_cases hil : i < x.a.length
  · obtain ⟨y, hy⟩ : ∃ y, x.a[i]? = some y := ⟨_, List.getElem?_eq_getElem hil⟩
    cases d with
    | zero => rw [show x.a = [] from hL] at hy; cases hy
    | succ d =>
    obtain ⟨⟨b, o, h4, h5⟩, h8⟩ := hL.at hy
    have hstep : (x.a.take (i + 1)).foldl (fun n y => n + nds d y) 0 = (x.a.take i).foldl (fun n y => n + nds d y) 0 + nds d y := by rw [List.take_add_one, hy, List.foldl_append]; rfl
    have hmono : (x.a.take (i + 1)).foldl (fun n y => n + nds d y) 0 ≤ x.a.foldl (fun n y => n + nds d y) 0 := by
      have := fold_nds (d := d) (x.a.drop (i + 1)) ((x.a.take (i + 1)).foldl (fun n y => n + nds d y) 0)
      rw [← List.foldl_append, List.take_append_drop] at this
      omega
    have hb' : L.length + x.a.foldl (fun n y => n + nds d y) 0 ≤ 1000000000 := hb
    have hli : M.length ≤ L.length + (x.a.take i).foldl (fun n y => n + nds d y) 0 := hli
    have g := ih d rfl X y M h8 (by omega)
    have gl := gtD_len kxN ltb d y M
    have hal2 : gtD kxN ltb d y M = (x.a.take (i + 1)).foldl (fun s y => gtD kxN ltb d y s) L := by rw [List.take_add_one, hy, List.foldl_append, ← hal]; rfl
    have hpre : i + 1 ≤ x.a.length ∧ ((x.a.take (i + 1)).foldl (fun s y => gtD kxN ltb d y s) L).length ≤ L.length + (x.a.take (i + 1)).foldl (fun n y => n + nds d y) 0 := ⟨hil, by rw [← hal2, hstep]; omega⟩
    generalize gtD kxN ltb d y M = N at g gl hal2
    rcases M with _ | ⟨m, M⟩
    · rcases N with _ | ⟨q, N⟩
      · refine st mo (st mo ⟨fun hlt => st mo ⟨b, o, i, h4, rfl, hil, st mo ⟨y.c, rfl, h5, st mo ?_⟩⟩, fun hge => absurd hge (by omega)⟩)
        refine ⟨_, fun nn => r_c (tc := .slice none 0 0) [] [] [] rfl rfl g (by exact fitL_cons fv (fitL_cons fv rfl)) trivial uv trivial, st mo ⟨_, wz (i + 1) rfl, st mo ?_⟩⟩
        refine ⟨i + 1, hpre, by dsimp; omega, [0], ?_⟩
        show Fit 0 _ ⟨⟨28, [(1, lvS 1 ((x.a.take (i + 1)).foldl (fun s y => gtD kxN ltb d y s) L)), (2, p0 0), (5, .int .i64 ((i + 1 : Nat) : Int))]⟩, (0, some (x.c.map rel1)) :: hS1 ((x.a.take (i + 1)).foldl (fun s y => gtD kxN ltb d y s) L), nS1 ((x.a.take (i + 1)).foldl (fun s y => gtD kxN ltb d y s) L), X⟩ _
        rw [← hal2]
        exact ⟨rfl, ⟨fv, fp, fv, trivial⟩, ⟨flr rfl, trivial⟩, xf, rfl, rfl⟩
      · refine st mo (st mo ⟨fun hlt => st mo ⟨b, o, i, h4, rfl, hil, st mo ⟨y.c, rfl, h5, st mo ?_⟩⟩, fun hge => absurd hge (by omega)⟩)
        refine ⟨_, fun nn => r_c (tc := .slice (some ⟨1, 0, none⟩) (N.length + 1) 1) [] [some ((sv (q :: N)).map rel1)] [1] rfl rfl g (by exact fitL_cons fv (fitL_cons fv rfl)) trivial us ⟨ulr rfl, trivial⟩, st mo ⟨_, wz (i + 1) rfl, st mo ?_⟩⟩
        refine ⟨i + 1, hpre, by dsimp; omega, [0, 1], ?_⟩
        show Fit 0 _ ⟨⟨28, [(1, lvS 1 ((x.a.take (i + 1)).foldl (fun s y => gtD kxN ltb d y s) L)), (2, p0 0), (5, .int .i64 ((i + 1 : Nat) : Int))]⟩, (0, some (x.c.map rel1)) :: hS1 ((x.a.take (i + 1)).foldl (fun s y => gtD kxN ltb d y s) L), nS1 ((x.a.take (i + 1)).foldl (fun s y => gtD kxN ltb d y s) L), X⟩ _
        rw [← hal2]
        exact ⟨rfl, ⟨fs, fp, fv, trivial⟩, ⟨flr rfl, trivial, flr rfl, trivial⟩, xf, rfl, rfl⟩
    · rcases N with _ | ⟨q, N⟩
      · exact absurd gl.2 (by simp)
      · refine st mo (st mo ⟨fun hlt => st mo ⟨b, o, i, h4, rfl, hil, st mo ⟨y.c, rfl, h5, st mo ?_⟩⟩, fun hge => absurd hge (by omega)⟩)
        refine ⟨_, fun nn => r_c (tc := .slice (some ⟨2, 0, none⟩) (N.length + 1) 1) [1] [some ((sv (q :: N)).map rel1)] [2] rfl rfl g (by exact fitL_cons fv (fitL_cons fs rfl)) ⟨trivial, flr rfl, trivial⟩ us ⟨ulr rfl, trivial⟩, st mo ⟨_, wz (i + 1) rfl, st mo ?_⟩⟩
        refine ⟨i + 1, hpre, by dsimp; omega, [0, 2], ?_⟩
        show Fit 0 _ ⟨⟨28, [(1, lvS 1 ((x.a.take (i + 1)).foldl (fun s y => gtD kxN ltb d y s) L)), (2, p0 0), (5, .int .i64 ((i + 1 : Nat) : Int))]⟩, (0, some (x.c.map rel1)) :: hS1 ((x.a.take (i + 1)).foldl (fun s y => gtD kxN ltb d y s) L), nS1 ((x.a.take (i + 1)).foldl (fun s y => gtD kxN ltb d y s) L), X⟩ _
        rw [← hal2]
        exact ⟨rfl, ⟨fs, fp, fv, trivial⟩, ⟨flr rfl, trivial, flr rfl, trivial⟩, xf, rfl, rfl⟩
  · have : i = x.a.length := by omega
    subst this
    rw [List.take_length] at hal
    rw [hal]
    rcases M with _ | ⟨m, M⟩
    · refine st mo (st mo ⟨fun hlt => absurd hlt (by omega), fun hge => st mo (st mo ?_)⟩)
      exact ⟨rfl, [], fv, trivial, rfl, rfl⟩
    · refine st mo (st mo ⟨fun hlt => absurd hlt (by omega), fun hge => st mo (st mo ?_)⟩)
      exact ⟨rfl, [1], fs, ⟨trivial, flr rfl, trivial⟩, rfl, rfl⟩
theorem gtD_eq {κ : Type} [DecidableEq κ] (kx : Ex → Option κ) (lb : κ → κ → Bool) {X : World} {d : Nat} {x : Ex} (hL : LT X d x) (L : List κ) : gtD kx lb d x L = x.a.foldl (fun s y => gtD kx lb (d - 1) y s) (oneD kx lb x L) := by
  cases d with
  | zero => rw [show x.a = [] from hL]; rfl
  | succ d => rfl
theorem nds_eq {X : World} {d : Nat} {x : Ex} (hL : LT X d x) : nds d x = 1 + x.a.foldl (fun n y => n + nds (d - 1) y) 0 := by
  cases d with
  | zero => rw [show x.a = [] from hL]; rfl
  | succ d => exact fold_nds x.a 1
set_option maxRecDepth 20000 in
theorem nam_s {d : Nat} (ih : ∀ d', d' + 1 = d → NaC d') : NaC d := fun X x L hL hb => by
  rw [gtD_eq kxN ltb hL L]
  have hb1 := hb
  rw [nds_eq hL] at hb1
  by_cases hk : x.k = 2
  · have e1 : oneD kxN ltb x L = insL ltb L x.nm := by unfold oneD kxN; rw [if_pos hk]
    rw [e1]
    have hil := insL_len ltb L x.nm
    rcases L with _ | ⟨q, L⟩
    · have e2 : insL ltb ([] : List ByteArray) x.nm = [x.nm] := rfl
      rw [e2]
      refine fn_c _ Tryz.func49 rfl rfl rfl rfl (fun w l X' hX => run_ok (st mo ?_))
      have tl := nam_t (w := w) (l := l) ih (L := [x.nm]) (hL.mono (xcell hX)) (by simp at hb1 ⊢; omega)
      refine ⟨fun _ => st mo ?_, fun h => absurd hk h⟩
      refine ⟨_, fun nn => r_c (tc := .slice (some ⟨1, 0, none⟩) 1 1) [] [some ((sv [x.nm]).map rel1)] [1] rfl rfl (txt_0 X' x.nm) (by exact fitL_cons fv (fitL_cons fv rfl)) trivial us ⟨ulr rfl, trivial⟩, adv_ok mo 1 _ ?_⟩
      exact rn_fit (TN x [x.nm] X') [0, 1] ⟨rfl, ⟨fs, fp, trivial⟩, ⟨flr rfl, trivial, flr rfl, trivial⟩, xf, rfl, rfl⟩ tl
    · refine fn_c _ Tryz.func49 rfl rfl rfl rfl (fun w l X' hX => run_ok (st mo ?_))
      have tl := nam_t (w := w) (l := l) ih (L := insL ltb (q :: L) x.nm) (hL.mono (xcell hX)) (by omega)
      have g := txt_1 X' (q :: L) x.nm (by simp) (by omega)
      generalize insL ltb (q :: L) x.nm = N at tl g hil ⊢
      rcases N with _ | ⟨m, N⟩
      · exact absurd hil.2.2 (by simp)
      · refine ⟨fun _ => st mo ?_, fun h => absurd hk h⟩
        refine ⟨_, fun nn => r_c (tc := .slice (some ⟨2, 0, none⟩) (N.length + 1) 1) [0] [some ((sv (m :: N)).map rel1)] [2] rfl rfl g (by exact fitL_cons fs (fitL_cons fv rfl)) ⟨trivial, flr rfl, trivial⟩ us ⟨ulr rfl, trivial⟩, adv_ok mo 1 _ ?_⟩
        exact rn_fit (TN x (m :: N) X') [1, 2] ⟨rfl, ⟨fs, fp, trivial⟩, ⟨flr rfl, trivial, flr rfl, trivial⟩, xf, rfl, rfl⟩ tl
  · have e1 : oneD kxN ltb x L = L := by unfold oneD kxN; rw [if_neg hk]
    rw [e1]
    rcases L with _ | ⟨q, L⟩
    · refine fn_c _ Tryz.func49 rfl rfl rfl rfl (fun w l X' hX => run_ok (st mo ?_))
      have tl := nam_t (w := w) (l := l) ih (L := []) (hL.mono (xcell hX)) (by omega)
      refine ⟨fun h => absurd h hk, fun _ => adv_ok mo 2 _ ?_⟩
      exact rn_fit (TN x [] X') [0] ⟨rfl, ⟨fv, fp, trivial⟩, ⟨flr rfl, trivial⟩, xf, rfl, rfl⟩ tl
    · refine fn_c _ Tryz.func49 rfl rfl rfl rfl (fun w l X' hX => run_ok (st mo ?_))
      have tl := nam_t (w := w) (l := l) ih (L := q :: L) (hL.mono (xcell hX)) (by omega)
      refine ⟨fun h => absurd h hk, fun _ => adv_ok mo 2 _ ?_⟩
      exact rn_fit (TN x (q :: L) X') [1, 0] ⟨rfl, ⟨fs, fp, trivial⟩, ⟨flr rfl, trivial, flr rfl, trivial⟩, xf, rfl, rfl⟩ tl
theorem nam_n (d : Nat) : NaC d := by
  induction d with
  | zero => exact nam_s fun d' h => (by omega)
  | succ d ih => exact nam_s fun d' h => by cases h; exact ih
set_option maxRecDepth 20000 in
theorem qnames_n (d : Nat) (X : World) (x : Ex) (hL : LT X d x) (hb : nds d x ≤ 1000000000) : Ctr Tryz.prog X 18 [.agg (x.c.map rel1).toArray] [] 0 0 (lvS 0 (gtD kxN ltb d x [])) (hSs (gtD kxN ltb d x [])) (nSs (gtD kxN ltb d x [])) := by
  refine fn_c _ Tryz.func18 rfl rfl rfl rfl (fun w l X' hX => run_ok (st mo ?_))
  have g := nam_n d X' x [] (hL.mono (xcell hX)) (by simp; omega)
  generalize gtD kxN ltb d x [] = N at g ⊢
  rcases N with _ | ⟨m, N⟩
  · refine ⟨_, fun nn => r_c (tc := .slice none 0 0) [] [] [] rfl rfl g (by exact fitL_cons fv (fitL_cons fv rfl)) trivial uv trivial, st mo ?_⟩
    exact ⟨rfl, [], fv, trivial, rfl, rfl⟩
  · refine ⟨_, fun nn => r_c (tc := .slice (some ⟨1, 0, none⟩) (N.length + 1) 1) [] [some ((sv (m :: N)).map rel1)] [1] rfl rfl g (by exact fitL_cons fv (fitL_cons fv rfl)) trivial us ⟨ulr rfl, trivial⟩, st mo ?_⟩
    exact ⟨rfl, [1], fs, ⟨trivial, flr rfl, trivial⟩, rfl, rfl⟩
end Go.Proofs.YtfmfeipeeedfpaaGreat
namespace Go.Proofs.YtfmfeipeeedfpaaGreat
open S Go.Sort Go.Lib
set_option maxRecDepth 20000 in
theorem t_key (x : Ex) (w : World) : Calls Tryz.prog 34 #[.agg x.c.toArray] w fun e W => e = .returned (es53 (colK x)) ∧ Mb w W := by
  unfold colK
  by_cases h : x.op = 16
  · rw [if_pos h]
    exact fn_pure [.agg (x.c.map rel1).toArray] Tryz.func34 rfl rfl rfl (run_ok (st mo ⟨fun _ => st mo rfl, fun h' => absurd h h'⟩))
  · rw [if_neg h]
    exact fn_pure [.agg (x.c.map rel1).toArray] Tryz.func34 rfl rfl rfl (run_ok (st mo ⟨fun h' => absurd h' h, fun _ => st mo rfl⟩))
def ltcb (p q : CK) : Bool := ltb p.1 q.1 || (decide (p.1 = q.1) && ltb p.2 q.2)
theorem ltcb_t {p q : CK} : ltcb p q = true ↔ ltc p q := by
  unfold ltcb ltc
  rw [Bool.or_eq_true, Bool.and_eq_true, ltb_t, ltb_t, decide_eq_true_iff]
set_option maxRecDepth 20000 in
theorem t_less (p q : CK) (w : World) : Calls Tryz.prog 87 #[es53 p, es53 q] w fun e W => e = .returned (.bool (ltcb p q)) ∧ Mb w W := by
  unfold ltcb
  cases h1 : ltb p.1 q.1 with
  | true =>
    exact fn_pure [.agg #[.string p.1, .string p.2], .agg #[.string q.1, .string q.2]] Tryz.func87 rfl rfl rfl (run_ok (st mo ⟨litT, s_lt (ltb_t.1 h1), rfl, st mo rfl⟩))
  | false =>
    by_cases h2 : p.1 = q.1
    · rw [decide_eq_true h2]
      cases h3 : ltb p.2 q.2 with
      | true => exact fn_pure [.agg #[.string p.1, .string p.2], .agg #[.string q.1, .string q.2]] Tryz.func87 rfl rfl rfl (run_ok (st mo ⟨litF, s_nlt (ltb_f.1 h1), rfl, st mo ⟨fun _ => st mo ⟨litT, s_lt (ltb_t.1 h3), rfl, st mo rfl⟩, fun h => absurd h2 h⟩⟩))
      | false => exact fn_pure [.agg #[.string p.1, .string p.2], .agg #[.string q.1, .string q.2]] Tryz.func87 rfl rfl rfl (run_ok (st mo ⟨litF, s_nlt (ltb_f.1 h1), rfl, st mo ⟨fun _ => st mo ⟨litF, s_nlt (ltb_f.1 h3), rfl, st mo rfl⟩, fun h => absurd h2 h⟩⟩))
    · rw [decide_eq_false h2]
      exact fn_pure [.agg #[.string p.1, .string p.2], .agg #[.string q.1, .string q.2]] Tryz.func87 rfl rfl rfl (run_ok (st mo ⟨litF, s_nlt (ltb_f.1 h1), rfl, st mo ⟨fun h => absurd h h2, fun _ => st mo rfl⟩⟩))
theorem ne53 (p q : CK) (x y : Operand) (w : World) : (do eqGuard .neq 53 x y (es53 p) (es53 q); binOp .neq 53 (es53 p) (es53 q) : Sem Value).run Tryz.prog w = .ok (.bool (!decide (p = q))) w := by
  have hg : (eqGuard .neq 53 x y (es53 p) (es53 q)).run Tryz.prog w = .ok () w := by kernel_rfl
  rw [Sem.run_bind, hg, Result.andThen_ok, run_neq_struct, eq53]
  rfl
theorem r_ne {w0 : B0} {X : World} {o : Oper} {fr : FT} {h : HT} {n : Nat} {y z : Operand} {t' : TypeId} (p q : CK) (ho : o.op = .binOp .neq 53 y z t' := by rfl) (hy : den2 (evo fr y) = es53 p := by rfl) (hz : den2 (evo fr z) = es53 q := by rfl) (hpy : pur2 (evo fr y) = true := by rfl) (hpz : pur2 (evo fr z) = true := by rfl) : Oa (Am w0 X) Tryz.prog o fr h n ⟨.bool (!decide (p = q)), h, n, 0, 0⟩ :=
  Oo.to (s_bin0 ho (fun k u hu => by rw [pur2_eq hu hpy, hy]) (fun k u hu => by rw [pur2_eq hu hpz, hz]) rfl (fun w => ne53 p q y z w))
end Go.Proofs.YtfmfeipeeedfpaaGreat
