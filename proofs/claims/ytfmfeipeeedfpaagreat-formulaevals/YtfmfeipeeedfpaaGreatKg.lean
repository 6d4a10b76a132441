/-
  One more comes up; all have come up. Calls whose answers are known. Code, calls: what was reckoned of a closed call is what each run of it does. Calls that the model stands in for; live. What live answers. The law FormulaStays. The laws FormulaEvals and FormulaItems. What came in, cut: numbers, values, tables, columns, expressions, items, what is handed in to evaluate in. What is handed in to evaluate in, and items, opened.
-/
import Derived.Test.YtfmfeipeeedfpaaGreatKf
import Derived.Scope
import Derived.Laws.Externs
import Derived.KernelRfl
import Derived.Test.YtfmfeipeeedfpaaGreatKe
import Derived.Test.YtfmfeipeeedfpaaGreatRows
import Derived.ProofKit
import Derived.OpenShut
import Derived.ChangeArms
import Derived.Deep.Slices
import Derived.Deep.MidRow
import Derived.ReadAgain
import Derived.WideKeyArgs
import Derived.WideKeyElems2
import Derived.JoinedCond
import Derived.Carry
import Derived.ChangeMaps5
import Derived.SizedLaws
namespace Go.Proofs.YtfmfeipeeedfpaaGreat
namespace E
open Go.CheckFast (force force_eq)
section
variable {P : Program} {ops : Array Oper} {st : Nat → RL} {r w : Nat → Nat} {v : Nat → Value} {RR WW : Nat → Prop} {k0 : K} {W0 : World}
theorem Iv.step (D : ∀ i o, ops[i]? = some o → Dt P ops st r w v i o) (nn : ∀ i, (st 0).n ≤ i → hget (st 0).h i = none) (hle : (st 0).f.m ≤ 256)
    (hdh : drawn (bef ops) ops.size (dl (fun i => (r i, w i)) ops.size) = true) (hdt : drawn (bef ops) ops.size (dl (fun i => (lookT ops (ops.getD i default), setT (ops.getD i default))) ops.size) = true)
    (hRr : ∀ j, j < ops.size → ∀ i, tb (r j) i → RR i) (hRw : ∀ j, j < ops.size → ∀ i, tb (w j) i → RR i) (hWw : ∀ j, j < ops.size → ∀ i, tb (w j) i → WW i)
    {listed : Array Bool} {a : Act} {W : World} {k : K} (I : Iv ops st w RR WW k0 W0 listed a W k) (hsz : listed.size = ops.size) {i : Nat} {o : Oper} (ho : ops[i]? = some o) (hu : listed.getD i true = false)
    (hall : ∀ e ∈ o.after, Region.binds .any e = true → listed.getD e.on false = true) (Q : Exit → Act → World → Prop) (K' : Act → World → Prop)
    (hK : ∀ a' W' k', Iv ops st w RR WW k0 W0 (listed.setIfInBounds i true) a' W' k' → K' a' W') :
    if Region.wanted o (yielded ops a.tmps) = true then o.wp P a W K' Q else K' (a.put o.dst undef) W := by
  have hi := (Array.getElem?_eq_some_iff.1 ho).1
  have hil : i < listed.size := by omega
  have hu' : ¬ listed.getD i false = true := by simp [hil] at hu ⊢; exact hu
  have hgd : ops.getD i default = o := by simp [hi] at ho ⊢; exact ho
  have hL : ∀ j, j ≠ i → ((listed.setIfInBounds i true).getD j false = true ↔ listed.getD j false = true) := fun j hj => by rw [getD_set_ne false (Ne.symm hj)]
  have hLi : (listed.setIfInBounds i true).getD i false = true := by simp [hil]
  have nni := st_nn D nn
  have d := D i o ho
  -- cuts at the operation itself
  have ch : ∀ m, (tb (r i) m ∨ tb (w i) m) → Cn ops.size (fun j => listed.getD j false = true) (fun j => tb (w j) m) i := fun m hm j hj hw => order hdh I.sh ho hu' hall (m := m) hm j hj hw
  have ct : ∀ t, (tb (lookT ops o) t ∨ wt ops t i) → Cn ops.size (fun j => listed.getD j false = true) (wt ops t) i := fun t ht j hj hw => by
    refine order hdt I.sh ho hu' hall (m := t) ?_ j hj ?_
    · rw [hgd]; exact ht.imp id (wt_tb ho).1
    · have : ops.getD j default = ops[j] := by simp [hj]
      rw [this]; exact (wt_tb (op_at hj)).1 hw
  -- a place that the operation writes, at a cut behind it
  have wcut : ∀ (wr : Nat → Prop) c, wr i → Cn ops.size (fun j => listed.getD j false = true) wr i → Cn ops.size (fun j => (listed.setIfInBounds i true).getD j false = true) wr c → i < c ∧ ∀ j, i + 1 ≤ j → j < c → j < ops.size → ¬ wr j := by
    intro wr c hwi h1 h2
    refine ⟨(h2 i hi hwi).1 hLi, fun j hj hjc hjs hw => ?_⟩
    have h3 : (listed.setIfInBounds i true).getD j false = true := (h2 j hjs hw).2 hjc
    rw [hL j (by omega)] at h3
    have := (h1 j hjs hw).1 h3
    omega
  have hsame : ∀ m c, c ≤ ops.size → tb (w i) m → Cn ops.size (fun j => (listed.setIfInBounds i true).getD j false = true) (fun j => tb (w j) m) c → hget (st c).h m = hget (st (i + 1)).h m := fun m c hc hm h => by
    obtain ⟨h1, h2⟩ := wcut (fun j => tb (w j) m) c hm (ch m (Or.inr hm)) h
    exact st_h D h1 hc (fun j a b => h2 j a b (by omega))
  have hold : ∀ m c, ¬ tb (w i) m → Cn ops.size (fun j => (listed.setIfInBounds i true).getD j false = true) (fun j => tb (w j) m) c → Cn ops.size (fun j => listed.getD j false = true) (fun j => tb (w j) m) c := fun m c hm h => Cn.same hL hm h
  refine d.ok k W a K' Q (by rw [st_m D i (by omega)]; exact I.m) (fun y hy => ev_of y fun t ht => ?_) (fun j b t hg ht => ?_) ⟨fun m hm => ?_, fun m m' hm hm' => ?_⟩ (fun m h1 h2 => I.new i hi hu' m h1 h2) (fun u W' k' hd hv => hK _ _ k' ?_)
  · subst ht; exact I.fr t i (by omega) (ct t (Or.inl (look_op hy)))
  · exact I.fr t i (by omega) (ct t (Or.inl (look_guard hg ht)))
  · exact I.hp m i (by omega) (hRr i hi m hm) (ch m (Or.inl hm))
  · exact I.inj m m' i i (by omega) (by omega) (hRr i hi m hm) (hRr i hi m' hm') (ch m (Or.inl hm)) (ch m' (Or.inl hm'))
  -- what lived there and was not written
  have hkk : ∀ m c, c ≤ ops.size → RR m → ¬ tb (w i) m → Cn ops.size (fun j => listed.getD j false = true) (fun j => tb (w j) m) c → live (st c).h m → ∀ b z, k' m = some (b, z) → k m = some (b, z) ∧ b < W.heap.size := fun m c hc hR hm h hl b z hk => by
    obtain ⟨b', z', e1, e2⟩ := (I.hp m c hc hR h).lt hl
    have := hd.ext m _ e1
    rw [hk] at this; cases this
    exact ⟨e1, e2⟩
  have hlo : ∀ m, live (st i).h m → m < (st i).n := fun m hl => by
    rcases Nat.lt_or_ge m (st i).n with h' | h'
    · exact h'
    · exact absurd hl (not_live (nni i (by omega) m h'))
  have hlo1 : ∀ m, live (st (i + 1)).h m → m < (st (i + 1)).n := fun m hl => by
    rcases Nat.lt_or_ge m (st (i + 1)).n with h' | h'
    · exact h'
    · exact absurd hl (not_live (nni (i + 1) (by omega) m h'))
  have hmix : ∀ m m' c c', c ≤ ops.size → c' ≤ ops.size → RR m → RR m' → ¬ tb (w i) m → tb (w i) m' → Cn ops.size (fun j => (listed.setIfInBounds i true).getD j false = true) (fun j => tb (w j) m) c → Cn ops.size (fun j => (listed.setIfInBounds i true).getD j false = true) (fun j => tb (w j) m') c' →
      live (st c).h m → live (st c').h m' → m ≠ m' → ∀ b z b' z', k' m = some (b, z) → k' m' = some (b', z') → b ≠ b' := by
    intro m m' c c' hc hc' hR hR' hm hm' h h' hl hl' hne b z b' z' ek ek'
    have h0 := hold m c hm h
    obtain ⟨km, hb⟩ := hkk m c hc hR hm h0 hl b z ek
    have hl1 : live (st (i + 1)).h m' := by obtain ⟨cs, e⟩ := hl'; exact ⟨cs, by rw [← hsame m' c' hc' hm' h']; exact e⟩
    rcases Nat.lt_or_ge m' (st i).n with hn | hn
    · have hl0 := d.ss.back m' hn hl1
      rw [hd.dom m' (Or.inl hn)] at ek'
      exact I.inj m m' c i hc (by omega) hR hR' h0 (ch m' (Or.inr hm')) hl hl0 hne b z b' z' km ek'
    · rcases hd.fresh m' b' z' hn (hlo1 m' hl1) hl1 ek' with hB | ⟨j, zj, j1, j2, j3, _, j5⟩
      · omega
      · exact I.inj m j c i hc (by omega) hR (hRw i hi j j1) h0 (ch j (Or.inr j1)) hl j3 (fun e => hm (e ▸ j1)) b z b' zj km j5
  -- what was let go stays so
  have hdead : ∀ j, j < (st 0).n → (∀ c', c' ≤ ops.size → Cn ops.size (fun j => listed.getD j false = true) (fun i => tb (w i) j) c' → ¬ live (st c').h j) → ∀ c', c' ≤ ops.size → Cn ops.size (fun j => (listed.setIfInBounds i true).getD j false = true) (fun i => tb (w i) j) c' → ¬ live (st c').h j := by
    intro j hj h c' hc' hcn hl
    by_cases hw : tb (w i) j
    · have hl1 : live (st (i + 1)).h j := by obtain ⟨cs, e⟩ := hl; exact ⟨cs, by rw [← hsame j c' hc' hw hcn]; exact e⟩
      exact h i (by omega) (ch j (Or.inr hw)) (d.ss.back j (Nat.lt_of_lt_of_le hj (st_n D (Nat.zero_le i) (by omega))) hl1)
    · exact h c' hc' (hold j c' hw hcn) hl
  have hfresh : ∀ m b z, (st 0).n ≤ m → m < (st i).n → (tb (r i) m ∨ tb (w i) m) → live (st i).h m → k m = some (b, z) → W0.heap.size ≤ b ∨ ∃ j z', WW j ∧ j < (st 0).n ∧ live (st 0).h j ∧ (∀ c', c' ≤ ops.size → Cn ops.size (fun j => (listed.setIfInBounds i true).getD j false = true) (fun i => tb (w i) j) c' → ¬ live (st c').h j) ∧ k0 j = some (b, z') := by
    intro m b z h1 h2 h3 h4 h5
    rcases I.fresh m i b z (by omega) (h3.elim (hRr i hi m) (hRw i hi m)) (ch m h3) h1 (Nat.lt_of_lt_of_le h2 (st_n D (by omega) (Nat.le_refl _))) h4 h5 with h | ⟨j, z', a1, a2, a3, a4, a5⟩
    · exact Or.inl h
    · exact Or.inr ⟨j, z', a1, a2, a3, hdead j a2 a4, a5⟩
  refine ⟨?_, ?_, ?_, ?_, ?_, ?_, fun m p hp => hd.ext m p (I.ext m p hp), ?_, ?_, ?_, ?_, Nat.le_trans I.size hd.size, hd.os.trans I.os, hd.tape.trans I.tape, hd.output.trans I.output, fun x => (hd.fz x).trans (I.fz x)⟩
  · intro j oj hoj hlj e he hb
    by_cases hji : j = i
    · subst hji
      rw [ho] at hoj; cases hoj
      exact getD_set_true (hall e he hb)
    · rw [hL j hji] at hlj
      exact getD_set_true (I.sh j oj hoj hlj e he hb)
  · rw [put_sz]; exact I.m
  · rw [put_df]; exact I.df
  · intro t c hc hcn
    by_cases hw : wt ops t i
    · obtain ⟨h1, h2⟩ := wcut (wt ops t) c hw (ct t (Or.inr hw)) hcn
      rw [st_f D hle h1 hc (fun j a b => h2 j a b (by omega)), d.f]
      exact put_get (by rw [st_m D i (by omega)]; exact I.m) (by rw [st_m D i (by omega)]; exact hle) hv t ((I.fr t i (by omega) (ct t (Or.inr hw))).mono hd.ext)
    · rw [put_other (fun e => hw ⟨o, ho, e⟩)]
      exact (I.fr t c hc (Cn.same hL hw hcn)).mono hd.ext
  · intro m c hc hR hcn
    by_cases hw : tb (w i) m
    · intro cs hcs
      rw [hsame m c hc hw hcn] at hcs
      exact hd.rep.rep m (tb_or.2 (Or.inr hw)) cs hcs
    · intro cs hcs
      have h0 := hold m c hw hcn
      refine (I.hp m c hc hR h0 cs hcs).mono (hd.ext m) (fun b z e1 hb => ?_) (fun us => LX.mono hd.ext)
      refine hd.frm b hb (fun j z hj hl hk => ?_)
      exact I.inj m j c i hc (by omega) hR (hRw i hi j hj) h0 (ch j (Or.inr hj)) ⟨cs, hcs⟩ hl (fun e => hw (e ▸ hj)) _ _ _ _ e1 hk rfl
  · intro m m' c c' hc hc' hR hR' hcn hcn' hl hl' hne b z b' z' ek ek'
    by_cases hw : tb (w i) m <;> by_cases hw' : tb (w i) m'
    · have e1 := hsame m c hc hw hcn
      have e2 := hsame m' c' hc' hw' hcn'
      obtain ⟨cs, e⟩ := hl
      obtain ⟨cs', e'⟩ := hl'
      exact hd.rep.inj m m' (tb_or.2 (Or.inr hw)) (tb_or.2 (Or.inr hw')) ⟨cs, by rw [← e1]; exact e⟩ ⟨cs', by rw [← e2]; exact e'⟩ hne b z b' z' ek ek'
    · exact fun e => hmix m' m c' c hc' hc hR' hR hw' hw hcn' hcn hl' hl (Ne.symm hne) b' z' b z ek' ek e.symm
    · exact hmix m m' c c' hc hc' hR hR' hw hw' hcn hcn' hl hl' hne b z b' z' ek ek'
    · have h0 := hold m c hw hcn
      have h0' := hold m' c' hw' hcn'
      exact I.inj m m' c c' hc hc' hR hR' h0 h0' hl hl' hne b z b' z' (hkk m c hc hR hw h0 hl b z ek).1 (hkk m' c' hc' hR' hw' h0' hl' b' z' ek').1
  · intro m hm
    have h1 := st_n D (Nat.zero_le i) (by omega)
    have h2 := st_n D (show i + 1 ≤ ops.size by omega) (Nat.le_refl _)
    rw [hd.dom m (by omega)]
    exact I.dom m hm
  · intro j hj hnl m h1 h2
    by_cases hji : j = i
    · subst hji; exact absurd hLi hnl
    · rw [hL j hji] at hnl
      have : k' m = k m := by
        rcases Nat.lt_or_ge j i with h | h
        · exact hd.dom m (Or.inl (Nat.lt_of_lt_of_le h2 (st_n D h (by omega))))
        · exact hd.dom m (Or.inr (Nat.le_trans (st_n D (show i + 1 ≤ j by omega) (by omega)) h1))
      rw [this]
      exact I.new j hj hnl m h1 h2
  · intro b hb hj
    rw [hd.frm b (Nat.lt_of_lt_of_le hb I.size) (fun j z hw hl hk => ?_)]
    · exact I.frm b hb hj
    · rcases Nat.lt_or_ge j (st 0).n with hjn | hjn
      · have hin := st_n D (Nat.zero_le i) (by omega)
        exact hj j z (hWw i hi j hw) (st_back D hjn i (by omega) hl) (by rw [← I.dom j (Or.inl hjn)]; exact hk)
      · rcases hfresh j b z hjn (hlo j hl) (Or.inr hw) hl hk with h' | ⟨j0, z0, a1, a2, a3, _, a5⟩
        · omega
        · exact hj j0 z0 a1 a3 a5
  · intro m c b z hc hR hcn hm1 hm2 hl hk
    by_cases hw : tb (w i) m
    · have hl1 : live (st (i + 1)).h m := by obtain ⟨cs, e⟩ := hl; exact ⟨cs, by rw [← hsame m c hc hw hcn]; exact e⟩
      rcases Nat.lt_or_ge m (st i).n with hn | hn
      · rw [hd.dom m (Or.inl hn)] at hk
        exact hfresh m b z hm1 hn (Or.inr hw) (d.ss.back m hn hl1) hk
      · rcases hd.fresh m b z hn (hlo1 m hl1) hl1 hk with hB | ⟨j, zj, j1, j2, j3, j4, j5⟩
        · exact Or.inl (Nat.le_trans I.size hB)
        · rcases Nat.lt_or_ge j (st 0).n with hjn | hjn
          · refine Or.inr ⟨j, zj, hWw i hi j j1, hjn, st_back D hjn i (by omega) j3, fun c' hc' hcn' hl' => ?_, by rw [← I.dom j (Or.inl hjn)]; exact j5⟩
            obtain ⟨cs, e⟩ := hl'
            exact j4 ⟨cs, by rw [← hsame j c' hc' j1 hcn']; exact e⟩
          · exact hfresh j b zj hjn j2 (Or.inr j1) j3 j5
    · have h0 := hold m c hw hcn
      rcases I.fresh m c b z hc hR h0 hm1 hm2 hl (hkk m c hc hR hw h0 hl b z hk).1 with h | ⟨j, z', a1, a2, a3, a4, a5⟩
      · exact Or.inl h
      · exact Or.inr ⟨j, z', a1, a2, a3, hdead j a2 a4, a5⟩
theorem draw_ok {cf : Nat → List Value → HT → Nat → Option R5} (hcf : Cs P cf) (hmo : P.follows .mixedOrders = true) {s s' : RL} (nn : ∀ i, s.n ≤ i → hget s.h i = none) (hl : s.l = []) (hr0 : s.r = 0) (hw0 : s.w = 0)
    (e : opsL P cf ops ops.toList s = some s') (hdk : drawOk ops = true) (hdr : drawn (bef ops) ops.size s'.l = true) :
    Ss s.h s.n s'.h s'.n s'.r s'.w ∧
      ∀ (k : K) (W : World) (a : Act) (Q : Exit → Act → World → Prop) (id : Nat), FR k s.f a → HR k s.h W s'.r → (∀ i, s.n ≤ i → i < s'.n → k i = none) → (∀ k' W' a', Sd s.h s.n s'.h s'.n s'.r s'.w k W k' W' → FR k' s'.f a' → Q .normal a' W') → (Code.region id ops true).wp P Q a W := by
  obtain ⟨r1, w1, h1, h2, ss, _⟩ := list_ok hcf _ _ _ nn e
  have ss' : Ss s.h s.n s'.h s'.n s'.r s'.w := ss.congr (fun i => by rw [h1, hr0]; exact ⟨Or.inr, fun h => h.resolve_left tb_zero⟩) (fun i => by rw [h2, hw0]; exact ⟨Or.inr, fun h => h.resolve_left tb_zero⟩)
  refine ⟨ss', ?_⟩
  obtain ⟨st, e0, eN, hst⟩ := opsL_states _ _ _ e
  rw [show ops.toList.length = ops.size by simp] at eN
  -- what each operation does
  have nnst : ∀ i, i ≤ ops.size → ∀ m, (st i).n ≤ m → hget (st i).h m = none := by
    intro i
    induction i with
    | zero => intro _; rw [e0]; exact nn
    | succ i ih =>
      intro hi
      obtain ⟨_, _, _, _, _, _, _, hs, _⟩ := step_ok hcf (ih (by omega)) (hst i ops[i] (by rw [Array.getElem?_toList]; exact op_at (by omega)))
      exact hs.nn (ih (by omega))
  have ex : ∀ i, ∃ q : Nat × Nat × Value, ∀ o, ops[i]? = some o → Dt P ops st (fun _ => q.1) (fun _ => q.2.1) (fun _ => q.2.2) i o := by
    intro i
    cases ho : ops[i]? with
    | none => exact ⟨(0, 0, undef), fun o h => by cases h⟩
    | some o =>
      obtain ⟨r, w, v, a1, a2, a3, a4, a5, a6⟩ := step_ok hcf (nnst i (Nat.le_of_lt (Array.getElem?_eq_some_iff.1 ho).1)) (hst i o (by rw [Array.getElem?_toList]; exact ho))
      refine ⟨(r, w, v), fun o' h => ?_⟩
      cases h
      exact ⟨a1, a2, a3, a4, a5, a6⟩
  let q : Nat → Nat × Nat × Value := fun i => Classical.choose (ex i)
  have D : ∀ i o, ops[i]? = some o → Dt P ops st (fun i => (q i).1) (fun i => (q i).2.1) (fun i => (q i).2.2) i o := fun i o ho => by
    have := Classical.choose_spec (ex i) o ho
    exact ⟨this.l, this.f, this.mr, this.mw, this.ss, this.ok⟩
  generalize hqr : (fun i => (q i).1) = r at D
  generalize hqw : (fun i => (q i).2.1) = w at D
  generalize hqv : (fun i => (q i).2.2) = v at D
  have hdl : ∀ i, i ≤ ops.size → (st i).l = dl (fun i => (r i, w i)) i := by
    intro i
    induction i with
    | zero => intro _; rw [e0, hl]; rfl
    | succ i ih => intro hi; rw [(D i _ (op_at (by omega))).l, ih (by omega)]; rfl
  have hmr : ∀ i, i ≤ ops.size → ∀ m, tb (st i).r m ↔ ∃ j, j < i ∧ tb (r j) m := by
    intro i
    induction i with
    | zero => intro _ m; rw [e0, hr0]; exact ⟨fun h => absurd h tb_zero, fun ⟨j, h, _⟩ => absurd h (by omega)⟩
    | succ i ih =>
      intro hi m
      rw [(D i _ (op_at (by omega))).mr, ih (by omega)]
      constructor
      · rintro (⟨j, a, b⟩ | h)
        · exact ⟨j, by omega, b⟩
        · exact ⟨i, by omega, h⟩
      · rintro ⟨j, a, b⟩
        by_cases hji : j = i
        · subst hji; exact Or.inr b
        · exact Or.inl ⟨j, by omega, b⟩
  have hmw : ∀ i, i ≤ ops.size → ∀ m, tb (st i).w m ↔ ∃ j, j < i ∧ tb (w j) m := by
    intro i
    induction i with
    | zero => intro _ m; rw [e0, hw0]; exact ⟨fun h => absurd h tb_zero, fun ⟨j, h, _⟩ => absurd h (by omega)⟩
    | succ i ih =>
      intro hi m
      rw [(D i _ (op_at (by omega))).mw, ih (by omega)]
      constructor
      · rintro (⟨j, a, b⟩ | h)
        · exact ⟨j, by omega, b⟩
        · exact ⟨i, by omega, h⟩
      · rintro ⟨j, a, b⟩
        by_cases hji : j = i
        · subst hji; exact Or.inr b
        · exact Or.inl ⟨j, by omega, b⟩
  have hR := hmr ops.size (Nat.le_refl _)
  have hW := hmw ops.size (Nat.le_refl _)
  rw [eN] at hR hW
  unfold drawOk at hdk
  simp only [Bool.and_eq_true] at hdk
  obtain ⟨hedge, hdt⟩ := hdk
  rw [dl_ops ops _ default] at hdt
  have hdh : drawn (bef ops) ops.size (dl (fun i => (r i, w i)) ops.size) = true := by rw [← hdl ops.size (Nat.le_refl _), eN]; exact hdr
  intro k W a Q id hf H hnew hk
  have hle : (st 0).f.m ≤ 256 := by rw [e0]; exact hf.le
  have nn0 : ∀ i, (st 0).n ≤ i → hget (st 0).h i = none := by rw [e0]; exact nn
  refine wp_region_any hmo ?_
  refine wpAny_inv (fun listed a' W' => listed.size = ops.size ∧ ∃ k', Iv ops st w (fun i => tb s'.r i ∨ tb s'.w i) (fun i => tb s'.w i) k { W with drawn := W.drawn + 1 } listed a' W' k') hedge ?_ ?_ _ _ _ _ ?_ ⟨by simp, k, ?_⟩
  · rintro listed a' W' i o ⟨hsz, k', I⟩ ho hu hall
    refine wpOp_step ho fun K hK => ?_
    refine I.step D nn0 hle hdh hdt (fun j hj m hm => Or.inl ((hR m).2 ⟨j, hj, hm⟩)) (fun j hj m hm => Or.inr ((hW m).2 ⟨j, hj, hm⟩)) (fun j hj m hm => (hW m).2 ⟨j, hj, hm⟩) hsz ho hu hall Q K (fun a2 W2 k2 I2 => hK _ _ ⟨by simpa using hsz, k2, I2⟩)
  · rintro listed a' W' ⟨hsz, k', I⟩ hall
    have hc : ∀ wr : Nat → Prop, Cn ops.size (fun j => listed.getD j false = true) wr ops.size := fun wr j hj _ => ⟨fun _ => hj, fun _ => by
      have := hall j hj
      have h2 : j < listed.size := by omega
      simpa [h2] using this⟩
    have hfr := fun t => I.fr t ops.size (Nat.le_refl _) (hc _)
    have hhp := fun i hi => I.hp i ops.size (Nat.le_refl _) hi (hc _)
    rw [eN] at hfr hhp
    refine hk k' W' a' ⟨I.ext, ?_, ⟨fun i hi => hhp i (tb_or.1 hi), fun i j hi hj li lj hne => ?_⟩, ?_, ?_, I.size, I.os, ⟨I.tape.1, Nat.le_trans (Nat.le_succ _) I.tape.2⟩, I.output, I.fz⟩ ⟨?_, ?_, hfr, I.df⟩
    · have := I.dom; rw [e0, eN] at this; exact this
    · exact I.inj i j ops.size ops.size (Nat.le_refl _) (Nat.le_refl _) (tb_or.1 hi) (tb_or.1 hj) (hc _) (hc _) (by rw [eN]; exact li) (by rw [eN]; exact lj) hne
    · have := I.frm; rw [e0] at this; exact this
    · intro i b z h1 h2 h3 h4
      by_cases hwi : tb s'.w i
      · rcases I.fresh i ops.size b z (Nat.le_refl _) (Or.inr hwi) (hc _) (by rw [e0]; exact h1) (by rw [eN]; exact h2) (by rw [eN]; exact h3) h4 with h | ⟨j, z', a1, a2, a3, a4, a5⟩
        · exact Or.inl h
        · rw [e0] at a2 a3
          refine Or.inr ⟨j, z', a1, a2, a3, ?_, a5⟩
          have := a4 ops.size (Nat.le_refl _) (hc _)
          rw [eN] at this; exact this
      · obtain ⟨cs, h3⟩ := h3
        rw [ss'.same i hwi, nn i h1] at h3
        cases h3
    · have := st_m D ops.size (Nat.le_refl _)
      rw [eN, e0] at this
      rw [this, ← e0]; exact I.m
    · have := st_m D ops.size (Nat.le_refl _)
      rw [eN, e0] at this
      rw [this]; exact hf.le
  · simp
  · have hz : ∀ j, ¬ (Array.replicate ops.size false).getD j false = true := fun j => by
      rcases Nat.lt_or_ge j ops.size with h | h <;> simp [h]
    have hcn : ∀ wr c, c ≤ ops.size → Cn ops.size (fun j => (Array.replicate ops.size false).getD j false = true) wr c → ∀ j, 0 ≤ j → j < c → ¬ wr j := fun wr c hc h j _ hj hw => hz j ((h j (by omega) hw).2 hj)
    have hh : ∀ i c, c ≤ ops.size → Cn ops.size (fun j => (Array.replicate ops.size false).getD j false = true) (fun j => tb (w j) i) c → hget (st c).h i = hget s.h i := fun i c hc h => by
      rw [st_h D (Nat.zero_le c) hc (hcn _ c hc h), e0]
    -- what is written and was there was read
    have hrd : ∀ i c, c ≤ ops.size → (tb s'.r i ∨ tb s'.w i) → live s.h i → tb s'.r i := fun i c _ h hl => by
      rcases h with h | h
      · exact h
      · refine ss'.old i h ?_
        rcases Nat.lt_or_ge i s.n with h' | h'
        · exact h'
        · exact absurd hl (not_live (nn i h'))
    refine ⟨fun j o _ h => absurd h (hz j), by rw [e0]; exact hf.m, hf.df, fun t c hc h => ?_, fun i c hc hi h cs hcs => ?_, fun i i' c c' hc hc' hi hi' h h' hl hl' hne => ?_, fun _ _ h => h, fun _ _ => rfl, fun j hj _ i h1 h2 => ?_, fun _ _ _ => rfl, fun i c b z hc hi h h1 h2 hl => ?_, Nat.le_refl _, rfl, ⟨rfl, Nat.le_refl _⟩, rfl, fun _ => rfl⟩
    · rw [st_f D hle (Nat.zero_le c) hc (hcn _ c hc h), e0]; exact hf.get t
    · rw [hh i c hc h] at hcs
      exact H.rep i (hrd i c hc hi ⟨cs, hcs⟩) cs hcs
    · obtain ⟨cs, hl⟩ := hl
      obtain ⟨cs', hl'⟩ := hl'
      rw [hh i c hc h] at hl
      rw [hh i' c' hc' h'] at hl'
      exact H.inj i i' (hrd i c hc hi ⟨cs, hl⟩) (hrd i' c' hc' hi' ⟨cs', hl'⟩) ⟨cs, hl⟩ ⟨cs', hl'⟩ hne
    · have a1 := st_n D (Nat.zero_le j) (by omega)
      have a2 := st_n D (show j + 1 ≤ ops.size by omega) (Nat.le_refl _)
      rw [e0] at a1; rw [eN] at a2
      exact hnew i (by omega) (by omega)
    · obtain ⟨cs, hl⟩ := hl
      rw [hh i c hc h, nn i (by rw [e0] at h1; exact h1)] at hl
      cases hl
end
end E
end Go.Proofs.YtfmfeipeeedfpaaGreat
namespace Go.Proofs.YtfmfeipeeedfpaaGreat
namespace E
open Go.CheckFast (force force_eq)
theorem beqL_some {a b : ByteArray} (h : beqL a.data.toList b.data.toList = true) : a = b := by
  rw [beqL_eq] at h
  apply ByteArray.ext
  apply Array.ext'
  simpa using h
theorem aeq_eq {v u : Value} (h : aeq v u = true) : v = u := by
  unfold aeq at h
  split at h <;> (try split at h) <;> first
    | (cases h; done)
    | rfl
    | (simp only [Bool.and_eq_true, Nat.beq_eq] at h; obtain ⟨h1, h2⟩ := h; subst h1; subst h2; rfl)
    | (simp only [Bool.and_eq_true, Nat.beq_eq] at h; obtain ⟨⟨⟨h1, h2⟩, h3⟩, h4⟩ := h; subst h1; subst h2; subst h3; subst h4; rfl)
    | (rw [beqL_some h])
    | (simp only [Bool.and_eq_true, keq, decide_eq_true_eq] at h; obtain ⟨h1, h2⟩ := h; rw [ieq_eq] at h2; rw [h1, eq_of_beq h2])
    | (rw [eq_of_beq h])
theorem leq_eq : ∀ {l m : List Value}, leq l m = true → l = m
  | [], [], _ => rfl
  | [], _ :: _, h => by cases h
  | _ :: _, [], h => by cases h
  | v :: x, u :: y, h => by
    simp only [leq] at h
    cases ha : aeq v u with
    | false => rw [ha] at h; cases h
    | true => rw [ha] at h; rw [aeq_eq ha, leq_eq h]
theorem veq1_eq {v u : Value} (h : veq1 v u = true) : v = u := by
  unfold veq1 at h
  split at h
  · split at h
    · congr 1; exact Array.ext' (leq_eq h)
    · cases h
  · exact aeq_eq h
theorem leq1_eq : ∀ {l m : List Value}, leq1 l m = true → l = m
  | [], [], _ => rfl
  | [], _ :: _, h => by cases h
  | _ :: _, [], h => by cases h
  | v :: x, u :: y, h => by
    simp only [leq1] at h
    cases ha : veq1 v u with
    | false => rw [ha] at h; cases h
    | true => rw [ha] at h; rw [veq1_eq ha, leq1_eq h]
theorem veq2_eq {v u : Value} (h : veq2 v u = true) : v = u := by
  unfold veq2 at h
  split at h
  · split at h
    · congr 1; exact Array.ext' (leq1_eq h)
    · cases h
  · exact veq1_eq h
/-! Other numbers for blocks. -/
section
variable {k k' : K} {g : Nat → Nat}
theorem r0 (hg : ∀ i p, k (g i) = some p → k' i = some p) {v u : Value} (ha : at0 v = true) (h : VX k (s0 g v) u) : VX k' v u := by
  cases v with
  | pointer a => cases a with
    | none => exact VX.of0 (h.v0 trivial)
    | some a => obtain ⟨h1, b, z, h2, h3⟩ := h.ptr_inv; exact VX.of0 ⟨h1, b, z, hg _ _ h2, h3⟩
  | slice a n c => cases a with
    | none => exact VX.of0 h.nilslc_inv
    | some a => obtain ⟨h1, b, z, c, h2, h3⟩ := h.slc_inv; exact VX.of0 ⟨h1, b, z, c, hg _ _ h2, h3⟩
  | agg _ => cases ha
  | tuple _ => cases ha
  | func _ _ _ => cases ha
  | iface _ _ => cases ha
  | chan _ => cases ha
  | map _ => cases ha
  | _ => exact VX.of0 (h.v0 trivial)
theorem rL (hg : ∀ i p, k (g i) = some p → k' i = some p) : ∀ {l m : List Value}, l.all at0 = true → LR (VX k) (sL g l) m → LR (VX k') l m
  | [], _, _, h => h
  | v :: l, _, ha, ⟨y, ys, e, h1, h2⟩ => by
    simp only [List.all_cons, Bool.and_eq_true] at ha
    exact ⟨y, ys, e, r0 hg ha.1 h1, rL hg ha.2 h2⟩
theorem r1 (hg : ∀ i p, k (g i) = some p → k' i = some p) {v u : Value} (ha : at1 v = true) (h : VX k (s1 g v) u) : VX k' v u := by
  cases v with
  | agg cs =>
    obtain ⟨us, e, h1⟩ := h.agg_inv
    rw [e]
    have := VX.agg (rL hg ha (by simpa using h1))
    simpa using this
  | _ => exact r0 hg ha h
theorem rM (hg : ∀ i p, k (g i) = some p → k' i = some p) : ∀ {l m : List Value}, l.all at1 = true → LR (VX k) (sM g l) m → LR (VX k') l m
  | [], _, _, h => h
  | v :: l, _, ha, ⟨y, ys, e, h1, h2⟩ => by
    simp only [List.all_cons, Bool.and_eq_true] at ha
    exact ⟨y, ys, e, r1 hg ha.1 h1, rM hg ha.2 h2⟩
theorem r2 (hg : ∀ i p, k (g i) = some p → k' i = some p) {v u : Value} (ha : at2 v = true) (h : VX k (s2 g v) u) : VX k' v u := by
  cases v with
  | tuple cs =>
    obtain ⟨us, e, h1⟩ := h.tuple_inv
    rw [e]
    have := VX.tuple (rM hg ha (by simpa using h1))
    simpa using this
  | _ => exact r1 hg ha h
theorem t0 (hg : ∀ i p, k' i = some p → k (g i) = some p) {v u : Value} (ha : at0 v = true) (h : VX k' v u) : VX k (s0 g v) u := by
  cases v with
  | pointer a => cases a with
    | none => exact VX.of0 (h.v0 trivial)
    | some a => obtain ⟨h1, b, z, h2, h3⟩ := h.ptr_inv; exact VX.of0 ⟨h1, b, z, hg _ _ h2, h3⟩
  | slice a n c => cases a with
    | none => exact VX.of0 h.nilslc_inv
    | some a => obtain ⟨h1, b, z, c, h2, h3⟩ := h.slc_inv; exact VX.of0 ⟨h1, b, z, c, hg _ _ h2, h3⟩
  | agg _ => cases ha
  | tuple _ => cases ha
  | func _ _ _ => cases ha
  | iface _ _ => cases ha
  | chan _ => cases ha
  | map _ => cases ha
  | _ => exact VX.of0 (h.v0 trivial)
theorem tL (hg : ∀ i p, k' i = some p → k (g i) = some p) : ∀ {l m : List Value}, l.all at0 = true → LR (VX k') l m → LR (VX k) (sL g l) m
  | [], _, _, h => h
  | v :: l, _, ha, ⟨y, ys, e, h1, h2⟩ => by
    simp only [List.all_cons, Bool.and_eq_true] at ha
    exact ⟨y, ys, e, t0 hg ha.1 h1, tL hg ha.2 h2⟩
theorem t1 (hg : ∀ i p, k' i = some p → k (g i) = some p) {v u : Value} (ha : at1 v = true) (h : VX k' v u) : VX k (s1 g v) u := by
  cases v with
  | agg cs =>
    obtain ⟨us, e, h1⟩ := h.agg_inv
    rw [e]
    exact VX.agg (tL hg ha h1)
  | _ => have hh := fun p => t0 hg p h; exact hh ha
theorem tM (hg : ∀ i p, k' i = some p → k (g i) = some p) : ∀ {l m : List Value}, l.all at1 = true → LR (VX k') l m → LR (VX k) (sM g l) m
  | [], _, _, h => h
  | v :: l, _, ha, ⟨y, ys, e, h1, h2⟩ => by
    simp only [List.all_cons, Bool.and_eq_true] at ha
    exact ⟨y, ys, e, t1 hg ha.1 h1, tM hg ha.2 h2⟩
theorem t2 (hg : ∀ i p, k' i = some p → k (g i) = some p) {v u : Value} (ha : at2 v = true) (h : VX k' v u) : VX k (s2 g v) u := by
  cases v with
  | tuple cs =>
    obtain ⟨us, e, h1⟩ := h.tuple_inv
    rw [e]
    exact VX.tuple (tM hg ha h1)
  | _ => have hh := fun p => t1 hg p h; exact hh ha
end
/-- An entry tells what each such call does. -/
structure EnOk (P : Program) (e : En) : Prop where
  wv : at2 e.v = true
  wb : ∀ b ∈ e.bs, b.all at0 = true
  wa : e.args.all flat1 = true
  enter : ∀ args w, (callFunc e.f args).run P w = .ok (.enter e.f args) w
  ok : ∀ W, Calls P e.f e.args.toArray W fun r W' => ∃ u k', r = .returned u ∧ VX k' e.v u ∧ (∀ i, e.bs.length ≤ i → k' i = none) ∧
    (∀ i cs, e.bs[i]? = some cs → RB k' W' i cs ∧ ∀ b z, k' i = some (b, z) → W.heap.size ≤ b) ∧
    (∀ i j b z b' z', i ≠ j → k' i = some (b, z) → k' j = some (b', z') → b ≠ b') ∧ (∀ b, b < W.heap.size → W'.heap[b]? = W.heap[b]?) ∧ W.heap.size ≤ W'.heap.size ∧ W'.os = W.os ∧ Tp W' W ∧ W'.output = W.output ∧ ∀ a, W'.frozen? a = W.frozen? a
theorem tb_bits : ∀ {m n i : Nat}, tb (bits n m) i ↔ n ≤ i ∧ i < n + m
  | 0, n, i => by simp only [bits]; exact ⟨fun h => absurd h tb_zero, fun h => by omega⟩
  | m + 1, n, i => by
    simp only [bits, tb_or, tb_bit, tb_bits (m := m)]
    omega
theorem lays_get {n : Nat} : ∀ (l : List (List Value)) (i : Nat) (h : HT) (j : Nat), i + l.length ≤ 4096 → hget (lays n l i h) j = if i ≤ j ∧ j < i + l.length then (l[j - i]?).map (sL (Nat.add n)) else hget h j
  | [], i, h, j, _ => by rw [lays, if_neg (by simp only [List.length_nil]; omega)]
  | b :: l, i, h, j, hl => by
    simp only [List.length_cons] at hl ⊢
    rw [lays, lays_get l (Nat.succ i) _ j (by omega)]
    by_cases e : i = j
    · subst e
      rw [if_neg (by omega), if_pos (by omega), hget_same _ (by omega)]
      simp
    · rw [hget_ne _ (by omega) e]
      by_cases h1 : i ≤ j ∧ j < i + (l.length + 1)
      · rw [if_pos (by omega), if_pos h1, show j - i = (j - Nat.succ i) + 1 by omega, List.getElem?_cons_succ]
      · rw [if_neg (by omega), if_neg h1]
theorem find_some {f : Nat} {args : List Value} : ∀ {l : List En} {e : En}, find f args l = some e → e ∈ l ∧ f = e.f ∧ args = e.args
  | [], _, h => by cases h
  | x :: l, e, h => by
    simp only [find] at h
    cases hc : (Nat.beq f x.f && leq args x.args) with
    | false =>
      rw [hc] at h
      obtain ⟨h1, h2⟩ := find_some (l := l) h
      exact ⟨by simp [h1], h2⟩
    | true =>
      rw [hc] at h
      cases h
      simp only [Bool.and_eq_true, Nat.beq_eq] at hc
      exact ⟨by simp, hc.1, leq_eq hc.2⟩
theorem known_ok {P : Program} {e : En} (he : EnOk P e) {h : HT} {n : Nat} {x : R5} (hx : known e h n = some x) : Ss h n x.h x.n x.r x.w ∧ (∀ args w, (callFunc e.f args).run P w = .ok (.enter e.f args) w) ∧
    ∀ (k : K) (W : World) (us : List Value), LR (VX k) e.args us → HR k h W x.r → (∀ i, n ≤ i → i < x.n → k i = none) → Calls P e.f us.toArray W fun r W' => ∃ u k', r = .returned u ∧ Sd h n x.h x.n x.r x.w k W k' W' ∧ VX k' x.v u := by
  obtain ⟨hle, hx⟩ := bif_some hx
  rw [Nat.ble_eq] at hle
  cases hx
  have hg := fun j => lays_get (n := n) e.bs n h j hle
  refine ⟨⟨Nat.le_add_right _ _, fun nn i hi => ?_, fun i hi => ?_, fun i hi hn => ?_, fun i hi => (tb_bits.1 hi).2, fun i hi ⟨cs, hl⟩ => ?_⟩, he.enter, fun k W us hus H hnew => ?_⟩
  · have hi' : n + e.bs.length ≤ i := hi
    rw [hg, if_neg (by omega)]; exact nn i (by omega)
  · rw [hg, if_neg (fun h => hi (tb_bits.2 h))]
  · have := (tb_bits.1 hi).1; omega
  · rw [hg, if_neg (by omega)] at hl; exact ⟨cs, hl⟩
  · have hue := flatL_eq hus he.wa
    subst hue
    refine (he.ok W).mono ?_
    rintro r W' ⟨u, k', rfl, a1, a2, a3, a4, a5, a6, a7, a8, a9, a10⟩
    let k2 : K := fun i => if n ≤ i ∧ i < n + e.bs.length then k' (i - n) else k i
    have hin : ∀ i, n ≤ i → i < n + e.bs.length → k2 i = k' (i - n) := fun i h1 h2 => if_pos ⟨h1, h2⟩
    have hout : ∀ i, ¬ (n ≤ i ∧ i < n + e.bs.length) → k2 i = k i := fun i h => if_neg h
    have hk2 : ∀ i p, k' i = some p → k2 (Nat.add n i) = some p := fun i p hp => by
      have hi : i < e.bs.length := by
        rcases Nat.lt_or_ge i e.bs.length with h' | h'
        · exact h'
        · rw [a2 i h'] at hp; cases hp
      show k2 (n + i) = some p
      rw [hin (n + i) (by omega) (by omega), show n + i - n = i by omega]; exact hp
    refine ⟨u, k2, rfl, ⟨fun i p hp => ?_, fun i hi => hout i (by simp only at hi; omega), ⟨fun i hi cs hcs => ?_, fun i j hi hj _ _ hne b z b' z' hb hb' => ?_⟩, fun b hb _ => a5 b hb, fun i b z h1 h2 _ hk => Or.inl ?_, a6, a7, a8, a9, a10⟩, t2 hk2 he.wv a1⟩
    · rw [hout i (fun h => by rw [hnew i h.1 h.2] at hp; cases hp)]; exact hp
    · have hi' := tb_bits.1 ((tb_or.1 hi).resolve_left tb_zero)
      rw [hg, if_pos hi'] at hcs
      cases hb : e.bs[i - n]? with
      | none => rw [hb] at hcs; cases hcs
      | some c =>
        rw [hb] at hcs
        cases hcs
        exact (a3 (i - n) c hb).1.mono (fun p hp => by rw [hin i hi'.1 hi'.2]; exact hp) (fun _ _ _ _ => rfl) (fun us => tL hk2 (he.wb c (List.mem_of_getElem? hb)))
    · have hi' := tb_bits.1 ((tb_or.1 hi).resolve_left tb_zero)
      have hj' := tb_bits.1 ((tb_or.1 hj).resolve_left tb_zero)
      rw [hin i hi'.1 hi'.2] at hb
      rw [hin j hj'.1 hj'.2] at hb'
      exact a4 (i - n) (j - n) b z b' z' (by omega) hb hb'
    · rw [hin i h1 h2] at hk
      cases hb : e.bs[i - n]? with
      | none => rw [a2 (i - n) (by rw [List.getElem?_eq_none_iff] at hb; exact hb)] at hk; cases hk
      | some c =>
        exact (a3 (i - n) c hb).2 _ _ hk
end E
end Go.Proofs.YtfmfeipeeedfpaaGreat
namespace Go.Proofs.YtfmfeipeeedfpaaGreat
namespace E
open Go.CheckFast (force force_eq)
section
variable {P : Program}
/-- What is said of code. -/
def Rn (P : Program) (rn : Code → FT → HT → Nat → Option RC) : Prop := ∀ c f h n x, (∀ i, n ≤ i → hget h i = none) → rn c f h n = some x → Ss h n x.h x.n x.r x.w ∧
  ∀ (k : K) (W : World) (a : Act) (Q : Exit → Act → World → Prop), FR k f a → HR k h W x.r → (∀ i, n ≤ i → i < x.n → k i = none) → (∀ k' W' a', Sd h n x.h x.n x.r x.w k W k' W' → FR k' x.f a' → Q x.e a' W') → c.wp P Q a W
theorem args_m : ∀ (l : List Value) (f : FT) (i : Nat), (args' f i l).m = f.m
  | [], _, _ => rfl
  | v :: l, f, i => by rw [args', args_m l, fput_m]
theorem args_get : ∀ (l : List Value) (f : FT) (i t : Nat), f.m ≤ 256 → i + l.length ≤ f.m → fget (args' f i l) t = if i ≤ t then (l[t - i]?).getD (fget f t) else fget f t
  | [], f, i, t, _, _ => by simp [args']
  | v :: l, f, i, t, hm, hl => by
    simp only [List.length_cons] at hl
    rw [args', args_get l (fput f i v) (i + 1) t (by rw [fput_m]; exact hm) (by rw [fput_m]; omega)]
    by_cases e : i = t
    · subst e
      rw [if_neg (by omega), if_pos (Nat.le_refl _), fget_same v hm (by omega)]
      simp
    · rw [fget_ne v hm e]
      by_cases h : i ≤ t
      · rw [if_pos (by omega), if_pos h, show t - i = (t - (i + 1)) + 1 by omega, List.getElem?_cons_succ]
      · rw [if_neg (by omega), if_neg h]
theorem LR.get' {R : Value → Value → Prop} : ∀ {l m : List Value} (i : Nat) (d : Value), LR R l m → R d d → R ((l[i]?).getD d) ((m[i]?).getD d)
  | [], _, i, d, e, h => by rw [e]; simpa using h
  | x :: xs, _, 0, d, ⟨y, ys, e, r, _⟩, h => by rw [e]; simpa using r
  | x :: xs, _, i + 1, d, ⟨y, ys, e, _, q⟩, h => by rw [e]; simpa using q.get' i d h
theorem args_fr {k : K} {vs us : List Value} {m : Nat} (h : LR (VX k) vs us) (hm : m ≤ 256) (hl : vs.length ≤ m) : FR k (args' ⟨m, fe5, fe8⟩ 0 vs) { tmps := us.toArray ++ Array.replicate (m - us.toArray.size) undef, defers := [] } := by
  have hlen := h.len
  refine ⟨by rw [args_m]; simp; omega, by rw [args_m]; exact hm, fun t => ?_, rfl⟩
  rw [args_get vs _ 0 t hm (by simpa using hl), if_pos (Nat.zero_le _), fget_new, Nat.sub_zero]
  have : (us.toArray ++ Array.replicate (m - us.toArray.size) undef).getD t undef = (us[t]?).getD undef := by
    rw [Array.getD_eq_getD_getElem?]
    by_cases ht : t < us.length
    · rw [Array.getElem?_append_left (by simpa using ht)]; simp
    · rw [Array.getElem?_append_right (by simpa using ht)]
      rw [List.getElem?_eq_none (by omega)]
      by_cases h2 : t - us.toArray.size < m - us.toArray.size
      · rw [Array.getElem?_replicate, if_pos h2]; rfl
      · rw [Array.getElem?_replicate, if_neg h2]
  rw [this]
  exact h.get' t undef undef_vx
def resF (tmps : Array Value) (x : ResultVar) : Sem Value := match x with
  | .tmp t => pure (tmps.getD t undef)
  | .cell b t => do loadVar t (← asAddr (tmps.getD b undef))
theorem res_ok {k : K} {f : FT} {a : Act} {h : HT} {W : World} (hf : FR k f a) : ∀ (l : List ResultVar) (y : List Value × Nat), res P f h l = some y → HR k h W y.2 →
    ∃ us, LR (VX k) y.1 us ∧ (l.mapM (resF a.tmps)).run P W = .ok us W
  | [], y, e, _ => by cases e; exact ⟨[], rfl, rfl⟩
  | x :: l, y, e, H => by
    simp only [res] at e
    obtain ⟨y', h1, e⟩ := bind_some e
    cases x with
    | tmp t =>
      cases e
      obtain ⟨us, h2, h3⟩ := res_ok hf l y' h1 H
      exact ⟨_, ⟨_, us, rfl, hf.get t, h2⟩, by rw [List.mapM_cons]; simp only [resF, Sem.run_bind, Sem.run_pure, Result.andThen_ok, h3]⟩
    | cell b t =>
      obtain ⟨z, h4, e⟩ := bind_some e
      cases e
      obtain ⟨us, h2, h3⟩ := res_ok hf l y' h1 (H.sub fun i hi => tb_or.2 (Or.inl hi))
      obtain ⟨p, q, hv, h5⟩ := onP_some h4
      obtain ⟨_, _, hr, _, h6⟩ := ld_ok h5
      have h7 := hf.get b
      have hv' : fget f b = .pointer (some ⟨p, q, none⟩) := hv
      rw [hv'] at h7
      obtain ⟨_, b', zz, hk, h8⟩ := h7.ptr_inv
      obtain ⟨u, h9, h10⟩ := h6 k W b' zz (H.sub fun i hi => tb_or.2 (Or.inr (by rw [hr]; exact hi))) hk
      refine ⟨u :: us, ⟨u, us, rfl, h9, h2⟩, ?_⟩
      rw [List.mapM_cons]
      simp only [resF, Sem.run_bind, Sem.run_pure, Result.andThen_ok, h8, asAddr, h10, h3]
theorem results_run {k : K} {f : FT} {a : Act} {h : HT} {W : World} {fn : Func} (hf : FR k f a) {y : List Value × Nat} (e : res P f h fn.results.toList = some y) (H : HR k h W y.2) : ∃ u, VX k (single y.1) u ∧ (results fn a.tmps).run P W = .ok u W := by
  obtain ⟨us, h1, h2⟩ := res_ok (P := P) hf _ y e H
  refine ⟨if us.length = 1 then us.headD undef else .tuple us.toArray, ?_, ?_⟩
  · obtain ⟨vs, m⟩ := y
    simp only at h1 ⊢
    cases vs with
    | nil => rw [h1]; exact VX.tuple (cs := []) (us := []) rfl
    | cons v vs =>
      obtain ⟨u, us', rfl, r1, r2⟩ := h1
      cases vs with
      | nil => rw [r2]; exact r1
      | cons v' vs' =>
        have hl := r2.len
        rw [if_neg (by intro h0; simp only [List.length_cons] at h0 hl; omega)]
        exact VX.tuple ⟨u, us', rfl, r1, r2⟩
  · have e1 : results fn a.tmps = (do
        let vs ← fn.results.mapM (resF a.tmps)
        pure (if h : vs.size = 1 then vs[0] else .tuple vs)) := rfl
    rw [e1, Array.mapM_eq_mapM_toList]
    simp only [map_eq_pure_bind, Sem.run_bind, h2, Result.andThen_ok, Sem.run_pure]
    congr 1
    by_cases hl : us.length = 1
    · rw [if_pos hl, dif_pos (by simpa using hl)]
      cases us with
      | nil => cases hl
      | cons u us => simp
    · rw [if_neg hl, dif_neg (by simpa using hl)]
theorem call0_ok {rn : Code → FT → HT → Nat → Option RC} (hrn : Rn P rn) {f : Nat} {vs : List Value} {h : HT} {n : Nat} {x : R5} (nn : ∀ i, n ≤ i → hget h i = none) (e : call0 P rn f vs h n = some x) : Ss h n x.h x.n x.r x.w ∧ (∀ args w, (callFunc f args).run P w = .ok (.enter f args) w) ∧
    ∀ (k : K) (W : World) (us : List Value), LR (VX k) vs us → HR k h W x.r → (∀ i, n ≤ i → i < x.n → k i = none) → Calls P f us.toArray W fun e W' => ∃ u k', e = .returned u ∧ Sd h n x.h x.n x.r x.w k W k' W' ∧ VX k' x.v u := by
  unfold call0 at e
  split at e
  · rename_i fn hfn
    split at e
    · rename_i c hc
      obtain ⟨hok, e⟩ := bif_some e
      unfold fnok at hok
      simp only [Bool.and_eq_true, Nat.ble_eq, Bool.not_eq_true'] at hok
      obtain ⟨⟨o1, o2⟩, o3⟩ := hok
      unfold callB at e
      obtain ⟨y, hy, e⟩ := bind_some e
      obtain ⟨z, hz, e⟩ := bind_some e
      obtain ⟨he, e⟩ := bif_some e
      cases e
      obtain ⟨ss, ok⟩ := hrn _ _ _ _ _ nn hy
      have ssr : Ss h n y.h y.n (Nat.lor y.r z.2) y.w := (ss.trans (Ss.read y.h y.n z.2)).congr (fun _ => Iff.rfl) (fun i => ⟨fun h => (tb_or.1 h).resolve_right tb_zero, fun h => tb_or.2 (Or.inl h)⟩)
      refine ⟨ssr, fun args w => ?_, fun k W us hvs H hnew => ?_⟩
      · have hb : fn.body.isNone = false := by rw [hc]; rfl
        simp only [callFunc, Sem.run_bind, program, Sem.run, Result.andThen_ok, hfn]
        rw [if_neg (by rw [o3]; simp), hb]
        simp
      · refine calls_of_wp hfn hc ?_
        refine ok k W _ _ (args_fr hvs o2 o1) (H.sub fun i hi => tb_or.2 (Or.inl hi)) hnew (fun k' W' a' hd hf => ?_)
        have H2 := Sd.next ss hd nn H
        have H3 : HR k' y.h W' z.2 := H2.sub fun i hi => tb_or.2 (Or.inr hi)
        obtain ⟨u, h1, h2⟩ := results_run hf hz H3
        have hd' : Sd h n y.h y.n (Nat.lor y.r z.2) y.w k W k' W' := (Sd.trans ss hd (Ss.read y.h y.n z.2) (Sd.read H3) nn H).congr (fun _ => Iff.rfl) (fun i => ⟨fun h => (tb_or.1 h).resolve_right tb_zero, fun h => tb_or.2 (Or.inl h)⟩)
        cases hye : y.e with
        | normal => exact ⟨hf.df, u, h2, u, k', rfl, hd', h1⟩
        | ret => exact ⟨hf.df, u, h2, u, k', rfl, hd', h1⟩
        | _ => rw [hye] at he; cases he
    · cases e
  · cases e
structure TbOk (P : Program) (t : Tb) : Prop where
  l : ∀ e ∈ t.l, EnOk P e
  x : ∀ f vs v, t.x f vs = some v → vs.all flat1 = true ∧ (∀ k : K, VX k v v) ∧ ∀ w, (callFunc f vs.toArray).run P w = .ok (.value v) w
theorem call_ok {tb' : Tb} {rn : Code → FT → HT → Nat → Option RC} (ht : TbOk P tb') (hrn : Rn P rn) : Cs P (call P tb' rn) := by
  intro f vs h n x nn e
  unfold call at e
  split at e
  · rename_i v hv
    cases e
    obtain ⟨h1, h2, h3⟩ := ht.x f vs v hv
    exact ⟨Ss.refl h n, fun k W us hus _ _ => Or.inr ⟨v, by rw [flatL_eq hus h1]; exact h3 W, v, k, rfl, Sd.refl h n k W, h2 k⟩⟩
  · split at e
    · rename_i en hfd
      obtain ⟨h1, rfl, rfl⟩ := find_some hfd
      obtain ⟨a1, a2, a3⟩ := known_ok (ht.l en h1) e
      exact ⟨a1, fun k W us hus H hn => Or.inl ⟨a2 _ _, a3 k W us hus H hn⟩⟩
    · obtain ⟨a1, a2, a3⟩ := call0_ok hrn nn e
      exact ⟨a1, fun k W us hus H hn => Or.inl ⟨a2 _ _, a3 k W us hus H hn⟩⟩
/-- One thing behind another. -/
theorem then_ok {f : FT} {h : HT} {n : Nat} {x y z : RC} {a b : Code} (nn : ∀ i, n ≤ i → hget h i = none)
    (sa : Ss h n x.h x.n x.r x.w) (oka : ∀ (k : K) (W : World) (a' : Act) (Q : Exit → Act → World → Prop), FR k f a' → HR k h W x.r → (∀ i, n ≤ i → i < x.n → k i = none) → (∀ k' W' a', Sd h n x.h x.n x.r x.w k W k' W' → FR k' x.f a' → Q x.e a' W') → a.wp P Q a' W)
    (sb : Ss x.h x.n y.h y.n y.r y.w) (hz : z = ⟨y.e, y.f, y.h, y.n, Nat.lor x.r y.r, Nat.lor x.w y.w⟩) (he : x.e = .normal)
    {T : (Exit → Act → World → Prop) → Act → World → Prop} (okb : ∀ (k : K) (W : World) (a' : Act) (Q : Exit → Act → World → Prop), FR k x.f a' → HR k x.h W y.r → (∀ i, x.n ≤ i → i < y.n → k i = none) → (∀ k' W' a', Sd x.h x.n y.h y.n y.r y.w k W k' W' → FR k' y.f a' → Q y.e a' W') → T Q a' W) :
    Ss h n z.h z.n z.r z.w ∧ ∀ (k : K) (W : World) (a' : Act) (Q : Exit → Act → World → Prop), FR k f a' → HR k h W z.r → (∀ i, n ≤ i → i < z.n → k i = none) → (∀ k' W' a', Sd h n z.h z.n z.r z.w k W k' W' → FR k' z.f a' → Q z.e a' W') → a.wp P (Exit.then (T Q) Q) a' W := by
  have _ := b
  subst hz
  refine ⟨sa.trans sb, fun k W a' Q hf H hnew hk => ?_⟩
  refine oka k W a' _ hf (H.sub fun i hi => tb_or.2 (Or.inl hi)) (fun i h1 h2 => hnew i h1 (Nat.lt_of_lt_of_le h2 sb.le)) (fun k1 W1 a1 hd hf1 => ?_)
  rw [he]
  have H2 := Sd.next sa hd nn H
  refine okb k1 W1 a1 Q hf1 (H2.sub fun i hi => tb_or.2 (Or.inr hi)) (fun i h1 h2 => by rw [hd.dom i (Or.inr h1)]; exact hnew i (Nat.le_trans sa.le h1) h2) (fun k2 W2 a2 hd2 hf2 => hk k2 W2 a2 (Sd.trans sa hd sb hd2 nn H) hf2)
theorem thenC_some {x : Option RC} {g : FT → HT → Nat → Option RC} {z : RC} (e : thenC x g = some z) : ∃ y, x = some y ∧ ((y.e ≠ .normal ∧ z = y) ∨ (y.e = .normal ∧ ∃ u, g y.f y.h y.n = some u ∧ z = ⟨u.e, u.f, u.h, u.n, Nat.lor y.r u.r, Nat.lor y.w u.w⟩)) := by
  obtain ⟨y, hy, e⟩ := bind_some e
  refine ⟨y, hy, ?_⟩
  cases he : y.e with
  | normal =>
    rw [he] at e
    obtain ⟨u, hu, e⟩ := bind_some (x := g y.f y.h y.n) e
    rw [force_eq, force_eq] at e
    cases e
    exact Or.inr ⟨rfl, u, hu, rfl⟩
  | _ => rw [he] at e; cases e; exact Or.inl ⟨by simp, rfl⟩
/-- A run of a piece of a scope's code, within the scope. -/
def SW (P : Program) (c d : Code) (Q : Exit → Act → World → Prop) (a : Act) (w : World) : Prop :=
  ∀ (b : Frame) (k : List Item) (cs : List Frame), ∃ e a' w', Q e a' w' ∧ Arrives P (lone (b.at a (.code d :: .inScope c :: k)) cs w) b k cs e a' w'
theorem sw_in {c : Code} {Q : Exit → Act → World → Prop} {a : Act} {w : World} (h : SW P c c Q a w) : (Code.scope c).wp P Q a w := fun b k cs => by
  obtain ⟨e, a', w', hq, harr⟩ := h b k cs
  exact ⟨e, a', w', hq, .of_steps (.one step_scope) harr⟩
/-- As Q, but for a goto to one label. -/
def toL (l : Nat) (J : Act → World → Prop) (Q : Exit → Act → World → Prop) : Exit → Act → World → Prop
  | .goto l', a, w => l' = l ∧ J a w
  | e, a, w => Q e a w
theorem sw_go {c d r : Code} {l : Nat} {Q : Exit → Act → World → Prop} {a : Act} {w : World} (hf : findLabel c l = some r) (h : d.wp P (toL l (SW P c r Q) Q) a w) : SW P c d Q a w := fun b k cs => by
  obtain ⟨e, a₁, w₁, hq, harr⟩ := h b (.inScope c :: k) cs
  cases e with
  | normal => exact ⟨.normal, a₁, w₁, hq, Steps.trans harr (.one step_inScope)⟩
  | exit id => exact ⟨.exit id, a₁, w₁, hq, fun k' hk => harr k' (by simp [exitTo, hk])⟩
  | goto l' =>
    obtain ⟨rfl, hJ⟩ := hq
    obtain ⟨e₂, a₂, w₂, hq₂, harr₂⟩ := hJ b k cs
    exact ⟨e₂, a₂, w₂, hq₂, .of_steps (harr _ (by simp [gotoIn, hf])) harr₂⟩
  | ret => exact ⟨_, a₁, w₁, hq, harr⟩
  | panic ch => exact ⟨_, a₁, w₁, hq, harr⟩
  | outgrown => exact ⟨_, a₁, w₁, hq, harr⟩
def noG (Q : Exit → Act → World → Prop) : Exit → Act → World → Prop
  | .goto _, _, _ => False
  | e, a, w => Q e a w
theorem sw_no {c d : Code} {Q : Exit → Act → World → Prop} {a : Act} {w : World} (h : d.wp P (noG Q) a w) : SW P c d Q a w := fun b k cs => by
  obtain ⟨e, a₁, w₁, hq, harr⟩ := h b (.inScope c :: k) cs
  cases e with
  | normal => exact ⟨.normal, a₁, w₁, hq, Steps.trans harr (.one step_inScope)⟩
  | exit id => exact ⟨.exit id, a₁, w₁, hq, fun k' hk => harr k' (by simp [exitTo, hk])⟩
  | goto l' => exact absurd hq id
  | ret => exact ⟨_, a₁, w₁, hq, harr⟩
  | panic ch => exact ⟨_, a₁, w₁, hq, harr⟩
  | outgrown => exact ⟨_, a₁, w₁, hq, harr⟩
theorem jumps_ok {rn : Code → FT → HT → Nat → Option RC} (hrn : Rn P rn) (c : Code) : ∀ (m : Nat) (d : Code) f h n x, (∀ i, n ≤ i → hget h i = none) → jumps rn c m (rn d f h n) = some x → Ss h n x.h x.n x.r x.w ∧
    ∀ (k : K) (W : World) (a : Act) (Q : Exit → Act → World → Prop), FR k f a → HR k h W x.r → (∀ i, n ≤ i → i < x.n → k i = none) → (∀ k' W' a', Sd h n x.h x.n x.r x.w k W k' W' → FR k' x.f a' → Q x.e a' W') → SW P c d Q a W := by
  intro m
  induction m with
  | zero => intro d f h n x _ e; cases e
  | succ m ih =>
    intro d f h n x nn e
    obtain ⟨y, hy, e⟩ := bind_some (show (rn d f h n).bind _ = some x from e)
    obtain ⟨sa, oka⟩ := hrn _ _ _ _ _ nn hy
    cases hye : y.e with
    | goto l =>
      rw [hye] at e
      have e : (match findLabel c l with
        | some r => orC (jumps rn c m (rn r y.f y.h y.n)) y.r y.w
        | none => none) = some x := e
      cases hfl : findLabel c l with
      | none => rw [hfl] at e; cases e
      | some r =>
        rw [hfl] at e
        obtain ⟨u, hu, e⟩ := bind_some (show (jumps rn c m (rn r y.f y.h y.n)).bind _ = some x from e)
        rw [force_eq, force_eq] at e
        cases e
        obtain ⟨sb, okb⟩ := ih r y.f y.h y.n u (sa.nn nn) hu
        refine ⟨sa.trans sb, fun k W a Q hf H hnew hk => sw_go hfl ?_⟩
        refine oka k W a _ hf (H.sub fun i hi => tb_or.2 (Or.inl hi)) (fun i h1 h2 => hnew i h1 (Nat.lt_of_lt_of_le h2 sb.le)) (fun k1 W1 a1 hd hf1 => ?_)
        rw [hye]
        have H2 := Sd.next sa hd nn H
        exact ⟨rfl, okb k1 W1 a1 Q hf1 (H2.sub fun i hi => tb_or.2 (Or.inr hi)) (fun i h1 h2 => by rw [hd.dom i (Or.inr h1)]; exact hnew i (Nat.le_trans sa.le h1) h2) (fun k2 W2 a2 hd2 hf2 => hk k2 W2 a2 (Sd.trans sa hd sb hd2 nn H) hf2)⟩
    | _ =>
      rw [hye] at e
      cases e
      refine ⟨sa, fun k W a Q hf H hnew hk => sw_no (oka k W a _ hf H hnew fun k' W' a' hd hf' => ?_)⟩
      have := hk k' W' a' hd hf'
      rw [hye] at this ⊢
      exact this
theorem run_ok {tb' : Tb} (ht : TbOk P tb') (hmo : P.follows .mixedOrders = true) : ∀ fuel, Rn P (run P tb' fuel) ∧ ∀ c f h n x, (∀ i, n ≤ i → hget h i = none) → run P tb' fuel (.loop c) f h n = some x → Ss h n x.h x.n x.r x.w ∧
    ∀ (k : K) (W : World) (a : Act) (Q : Exit → Act → World → Prop), FR k f a → HR k h W x.r → (∀ i, n ≤ i → i < x.n → k i = none) → (∀ k' W' a', Sd h n x.h x.n x.r x.w k W k' W' → FR k' x.f a' → Q x.e a' W') → Code.rounds P c Q fuel a W := by
  intro fuel
  induction fuel with
  | zero => exact ⟨fun c f h n x _ e => (by cases e), fun c f h n x _ e => (by cases e)⟩
  | succ fuel ih =>
    obtain ⟨ih1, ih2⟩ := ih
    have lp : ∀ c f h n x, (∀ i, n ≤ i → hget h i = none) → run P tb' (fuel + 1) (.loop c) f h n = some x → Ss h n x.h x.n x.r x.w ∧
        ∀ (k : K) (W : World) (a : Act) (Q : Exit → Act → World → Prop), FR k f a → HR k h W x.r → (∀ i, n ≤ i → i < x.n → k i = none) → (∀ k' W' a', Sd h n x.h x.n x.r x.w k W k' W' → FR k' x.f a' → Q x.e a' W') → Code.rounds P c Q (fuel + 1) a W := by
      intro c f h n x nn e
      obtain ⟨y, hy, e'⟩ := thenC_some (show thenC (run P tb' fuel c f h n) (run P tb' fuel (.loop c)) = some x from e)
      obtain ⟨sa, oka⟩ := ih1 _ _ _ _ _ nn hy
      rcases e' with ⟨he, rfl⟩ | ⟨he, u, hu, hx⟩
      · refine ⟨sa, fun k W a Q hf H hnew hk => ?_⟩
        refine oka k W a _ hf H hnew (fun k' W' a' hd hf' => ?_)
        have := hk k' W' a' hd hf'
        cases hxe : x.e with
        | normal => exact absurd hxe he
        | _ => rw [hxe] at this; exact this
      · obtain ⟨sb, okb⟩ := ih2 _ _ _ _ _ (sa.nn nn) hu
        exact then_ok (b := .skip) nn sa oka sb hx he (T := fun Q => Code.rounds P c Q fuel) okb
    refine ⟨fun c f h n x nn e => ?_, lp⟩
    cases c with
    | skip => cases e; exact ⟨Ss.refl _ _, fun k W a Q hf _ _ hk => wp_skip (hk k W a (Sd.refl _ _ _ _) hf)⟩
    | label l => cases e; exact ⟨Ss.refl _ _, fun k W a Q hf _ _ hk => wp_label (hk k W a (Sd.refl _ _ _ _) hf)⟩
    | ret => cases e; exact ⟨Ss.refl _ _, fun k W a Q hf _ _ hk => wp_ret (hk k W a (Sd.refl _ _ _ _) hf)⟩
    | exit i => cases e; exact ⟨Ss.refl _ _, fun k W a Q hf _ _ hk => wp_exit (hk k W a (Sd.refl _ _ _ _) hf)⟩
    | seq c1 c2 =>
      obtain ⟨y, hy, e'⟩ := thenC_some (show thenC (run P tb' fuel c1 f h n) (run P tb' fuel c2) = some x from e)
      obtain ⟨sa, oka⟩ := ih1 _ _ _ _ _ nn hy
      rcases e' with ⟨he, rfl⟩ | ⟨he, u, hu, hx⟩
      · refine ⟨sa, fun k W a Q hf H hnew hk => wp_seq ?_⟩
        refine oka k W a _ hf H hnew (fun k' W' a' hd hf' => ?_)
        have := hk k' W' a' hd hf'
        cases hxe : x.e with
        | normal => exact absurd hxe he
        | _ => rw [hxe] at this; exact this
      · obtain ⟨sb, okb⟩ := ih1 _ _ _ _ _ (sa.nn nn) hu
        obtain ⟨s1, s2⟩ := then_ok (b := c2) nn sa oka sb hx he (T := fun Q => c2.wp P Q) okb
        exact ⟨s1, fun k W a Q hf H hnew hk => wp_seq (s2 k W a Q hf H hnew hk)⟩
    | cond c c1 c2 =>
      obtain ⟨t, ht, e'⟩ := onB_some (show onB (evo f c) (run P tb' fuel c1 f h n) (run P tb' fuel c2 f h n) = some x from e)
      have hc : ∀ (k : K) (a : Act), FR k f a → a.eval c = .bool t := fun k a hf => by
        have := hf.ev c; rw [ht] at this; exact this.bool_inv
      cases t with
      | true =>
        obtain ⟨sa, oka⟩ := ih1 _ _ _ _ _ nn e'
        exact ⟨sa, fun k W a Q hf H hnew hk => wp_cond_true (hc k a hf) (oka k W a Q hf H hnew hk)⟩
      | false =>
        obtain ⟨sa, oka⟩ := ih1 _ _ _ _ _ nn e'
        exact ⟨sa, fun k W a Q hf H hnew hk => wp_cond_false (hc k a hf) (oka k W a Q hf H hnew hk)⟩
    | block id c =>
      obtain ⟨y, hy, e'⟩ := bind_some (show (run P tb' fuel c f h n).bind (fun x => some ⟨outE id x.e, x.f, x.h, x.n, x.r, x.w⟩) = some x from e)
      cases e'
      obtain ⟨sa, oka⟩ := ih1 _ _ _ _ _ nn hy
      refine ⟨sa, fun k W a Q hf H hnew hk => wp_block (oka k W a _ hf H hnew fun k' W' a' hd hf' => ?_)⟩
      have := hk k' W' a' hd hf'
      cases hye : y.e with
      | exit i =>
        rw [hye] at this
        show if i = id then Q .normal a' W' else Q (.exit i) a' W'
        by_cases hid : i = id
        · have hb : Nat.beq i id = true := by rw [Nat.beq_eq]; exact hid
          simp only [outE, hb, cond_true] at this
          rw [if_pos hid]; exact this
        · have hb : Nat.beq i id = false := by rw [← Bool.not_eq_true, Nat.beq_eq]; exact hid
          simp only [outE, hb, cond_false] at this
          rw [if_neg hid]; exact this
      | _ => rw [hye] at this; exact this
    | loop c =>
      obtain ⟨s1, s2⟩ := lp c f h n x nn e
      exact ⟨s1, fun k W a Q hf H hnew hk => wp_loop_rounds (fuel + 1) (s2 k W a Q hf H hnew hk)⟩
    | region id ops draw =>
      obtain ⟨s, hs, e'⟩ := bind_some (show (opsL P (call P tb' (run P tb' fuel)) ops ops.toList ⟨f, h, n, 0, 0, []⟩).bind (fun s => bif !draw || (drawOk ops && drawn (bef ops) ops.size s.l) then some ⟨.normal, s.f, s.h, s.n, s.r, s.w⟩ else none) = some x from e)
      obtain ⟨hd, e'⟩ := bif_some e'
      cases e'
      have hcf := call_ok ht ih1
      cases draw with
      | false =>
        obtain ⟨r, w, h1, h2, ss, ok⟩ := list_ok hcf _ _ _ nn hs
        have hr : ∀ i, tb r i ↔ tb s.r i := fun i => by rw [h1]; exact ⟨Or.inr, fun h => h.resolve_left tb_zero⟩
        have hw : ∀ i, tb w i ↔ tb s.w i := fun i => by rw [h2]; exact ⟨Or.inr, fun h => h.resolve_left tb_zero⟩
        refine ⟨ss.congr hr hw, fun k W a Q hf H hnew hk => wp_region_list (ok k W a Q hf (H.sub fun i hi => (hr i).1 hi) hnew fun k' W' a' hd' hf' => hk k' W' a' (hd'.congr hr hw) hf')⟩
      | true =>
        simp only [Bool.not_true, Bool.false_or, Bool.and_eq_true] at hd
        obtain ⟨s1, s2⟩ := draw_ok hcf hmo nn rfl rfl rfl hs hd.1 hd.2
        exact ⟨s1, fun k W a Q hf H hnew hk => s2 k W a Q id hf H hnew hk⟩
    | rangeFunc _ _ _ _ => cases e
    | scope c =>
      obtain ⟨s1, s2⟩ := jumps_ok ih1 c 100000 c f h n x nn (show jumps (run P tb' fuel) c 100000 (run P tb' fuel c f h n) = some x from e)
      exact ⟨s1, fun k W a Q hf H hnew hk => sw_in (s2 k W a Q hf H hnew hk)⟩
    | goto l => cases e; exact ⟨Ss.refl _ _, fun k W a Q hf _ _ hk => wp_goto (hk k W a (Sd.refl _ _ _ _) hf)⟩
    | refuse _ => cases e
/-- What a call of such values comes to, in whatever world. -/
theorem closed {tb' : Tb} (ht : TbOk P tb') (hmo : P.follows .mixedOrders = true) {fuel f : Nat} {args : List Value} (ha : args.all cok1 = true) {x : R5} (e : call0 P (run P tb' fuel) f args he12 0 = some x) (W : World) :
    (∀ a w, (callFunc f a).run P w = .ok (.enter f a) w) ∧ Calls P f args.toArray W fun r W' => ∃ u k', r = .returned u ∧ Sd he12 0 x.h x.n x.r x.w (fun _ => none) W k' W' ∧ VX k' x.v u := by
  obtain ⟨_, h2, h3⟩ := call0_ok (run_ok ht hmo fuel).1 (fun i _ => hget_new i) e
  refine ⟨h2, h3 _ W args (cokL_vx ha) ⟨fun i _ cs h => ?_, fun i j _ _ hi => ?_⟩ (fun _ _ _ => rfl)⟩
  · rw [hget_new] at h; cases h
  · exact absurd hi (not_live (hget_new i))
theorem ok_true {x : Option R5} (h : isTrue x = true) : ∃ y, x = some y ∧ y.v = .bool true := by
  unfold isTrue at h
  split at h
  · rename_i y
    split at h
    · rename_i b hb; subst h; exact ⟨y, rfl, hb⟩
    · cases h
  · cases h
theorem apartL_spec : ∀ {l : List Nat}, apartL l = true → ∀ (i j a : Nat), l[i]? = some a → l[j]? = some a → i = j
  | [], _, _, _, _, h, _ => by cases h
  | x :: l, h, i, j, a, hi, hj => by
    simp only [apartL] at h
    cases hc : l.any (Nat.beq x) with
    | true => rw [hc] at h; cases h
    | false =>
      rw [hc] at h
      have hx : ∀ y ∈ l, x ≠ y := fun y hy e => by
        have := List.any_eq_false.1 hc y hy
        rw [Nat.beq_eq] at this
        exact this e
      cases i with
      | zero => cases j with
        | zero => rfl
        | succ j => simp at hi hj; subst hi; exact absurd rfl (hx x (List.mem_of_getElem? hj))
      | succ i => cases j with
        | zero => simp at hi hj; subst hj; exact absurd rfl (hx x (List.mem_of_getElem? hi))
        | succ j => simp at hi hj; rw [apartL_spec h i j a hi hj]
theorem blocksOk_spec {h : HT} {g : Nat → Nat} : ∀ {is : List Nat} {bs : List (List Value)}, blocksOk h g is bs = true → is.length = bs.length ∧ ∀ (j i : Nat) (b : List Value), is[j]? = some i → bs[j]? = some b → hget h i = some (sL g b)
  | [], [], _ => ⟨rfl, fun j i b h => by cases h⟩
  | [], _ :: _, e => by cases e
  | _ :: _, [], e => by cases e
  | i :: is, b :: bs, e => by
    simp only [blocksOk] at e
    cases hc : hget h i with
    | none => rw [hc] at e; cases e
    | some cs =>
      rw [hc] at e
      simp only at e
      cases hl : leq cs (sL g b) with
      | false => rw [hl] at e; cases e
      | true =>
        rw [hl] at e
        obtain ⟨h1, h2⟩ := blocksOk_spec (is := is) (bs := bs) e
        refine ⟨by simp [h1], fun j i' b' hi hb => ?_⟩
        cases j with
        | zero => simp at hi hb; subst hi; subst hb; rw [hc, leq_eq hl]
        | succ j => exact h2 j i' b' (by simpa using hi) (by simpa using hb)
/-- An entry out of a run. -/
theorem entry {tb' : Tb} (ht : TbOk P tb') (hmo : P.follows .mixedOrders = true) {fuel : Nat} {ids : List Nat} {e : En} (h : entOk (call0 P (run P tb' fuel) e.f e.args he12 0) ids e = true) : EnOk P e := by
  unfold entOk at h
  split at h
  · rename_i x hx
    cases h1 : veq2 x.v (s2 (ix ids) e.v) with
    | false => rw [h1] at h; cases h
    | true =>
      rw [h1] at h
      cases h2 : (apartL ids && Nat.ble x.n 4096 && at2 e.v && e.bs.all (·.all at0) && e.args.all flat1) with
      | false => rw [h2] at h; cases h
      | true =>
        rw [h2] at h
        simp only [Bool.and_eq_true, Nat.ble_eq] at h2
        obtain ⟨⟨⟨⟨c1, c2⟩, c3⟩, c4⟩, c5⟩ := h2
        obtain ⟨l1, l2⟩ := blocksOk_spec h
        have hv := veq2_eq h1
        have hfl : e.args.all cok1 = true := by
          rw [List.all_eq_true] at c5 ⊢
          intro v hv
          have := c5 v hv
          cases v <;> first | rfl | cases this
        have cl := fun W => closed (fuel := fuel) ht hmo hfl hx W
        refine ⟨c3, fun b hb => List.all_eq_true.1 c4 b hb, c5, (cl default).1, fun W => (cl W).2.mono ?_⟩
        rintro r W' ⟨u, k', rfl, hd, hvx⟩
        have hnx : ∀ i, x.n ≤ i → k' i = none := fun i hi => hd.dom i (Or.inr hi)
        have hg : ∀ i p, k' (ix ids i) = some p → (fun i => k' (ix ids i)) i = some p := fun i p h => h
        have hlive : ∀ (j i : Nat) (b : List Value), ids[j]? = some i → e.bs[j]? = some b → tb (Nat.lor x.r x.w) i ∧ live x.h i := fun j i b hi hb => by
          have h3 := l2 j i b hi hb
          refine ⟨tb_or.2 (Or.inr ?_), ⟨_, h3⟩⟩
          refine Classical.byContradiction fun hn => ?_
          have h4 := (call0_ok (run_ok ht hmo fuel).1 (fun i _ => hget_new i) hx).1.same i hn
          rw [h3, hget_new] at h4
          cases h4
        have hix : ∀ (j i : Nat), ids[j]? = some i → ix ids j = i := fun j i h => by unfold ix; rw [h]; rfl
        have hnone : ∀ i, e.bs.length ≤ i → k' (ix ids i) = none := fun i hi => by
          have : ix ids i = 4096 := by unfold ix; rw [List.getElem?_eq_none (by omega)]; rfl
          rw [this]; exact hnx 4096 c2
        have hgi : ∀ i : Nat, i < e.bs.length → ∃ a b, ids[i]? = some a ∧ e.bs[i]? = some b := fun i hi => ⟨ids[i], e.bs[i], by simp [l1, hi], by simp [hi]⟩
        have hsm : ∀ i p, k' (ix ids i) = some p → i < e.bs.length := fun i p hp => by
          rcases Nat.lt_or_ge i e.bs.length with h' | h'
          · exact h'
          · rw [hnone i h'] at hp; cases hp
        refine ⟨u, fun i => k' (ix ids i), rfl, r2 hg c3 (by rw [← hv]; exact hvx), hnone, fun i cs hcs => ?_, fun i j b z b' z' hne hb hb' => ?_, fun b hb => hd.frm b hb (fun j z _ hl => absurd hl (not_live (hget_new j))), hd.size, hd.os, hd.tape, hd.output, hd.fz⟩
        · have hi : i < e.bs.length := (List.getElem?_eq_some_iff.1 hcs).1
          obtain ⟨a, b0, ha, hb0⟩ := hgi i hi
          obtain ⟨ht1, hl1⟩ := hlive i a cs ha hcs
          refine ⟨(hd.rep.rep a ht1 _ (l2 i a cs ha hcs)).mono (fun p hp => by show k' (ix ids i) = _; rw [hix i a ha]; exact hp) (fun _ _ _ _ => rfl) (fun us => rL hg (List.all_eq_true.1 c4 cs (List.mem_of_getElem? hcs))), fun b z e1 => ?_⟩
          have e1 : k' a = some (b, z) := by rw [← hix i a ha]; exact e1
          have han : a < x.n := by
            rcases Nat.lt_or_ge a x.n with h' | h'
            · exact h'
            · rw [hnx a h'] at e1; cases e1
          rcases hd.fresh a b _ (Nat.zero_le _) han hl1 e1 with h' | ⟨j, _, _, h', _⟩
          · exact h'
          · omega
        · have hi := hsm i _ hb
          have hj := hsm j _ hb'
          obtain ⟨a1, b1, ha1, hb1⟩ := hgi i hi
          obtain ⟨a2, b2, ha2, hb2⟩ := hgi j hj
          obtain ⟨t1, l1'⟩ := hlive i a1 b1 ha1 hb1
          obtain ⟨t2, l2'⟩ := hlive j a2 b2 ha2 hb2
          have hb3 : k' a1 = some (b, z) := by rw [← hix i a1 ha1]; exact hb
          have hb4 : k' a2 = some (b', z') := by rw [← hix j a2 ha2]; exact hb'
          exact hd.rep.inj a1 a2 t1 t2 l1' l2' (fun e => hne (apartL_spec c1 i j a1 ha1 (by rw [e]; exact ha2))) b z b' z' hb3 hb4
  · cases h
end
end E
end Go.Proofs.YtfmfeipeeedfpaaGreat
namespace Go.Proofs.YtfmfeipeeedfpaaGreat
namespace E
/-- math/bits.Add64. -/
def xadd (vs : List Value) : Option Value := match vs with
  | [.int .u64 x, .int .u64 y, .int .u64 c] => match x with
    | .ofNat x => match y with
      | .ofNat y => match c with
        | .ofNat c => bif Nat.ble c 1 then Go.CheckFast.force (Nat.add (Nat.add x y) c) fun s => Go.CheckFast.force (Nat.mod s 18446744073709551616) fun a => Go.CheckFast.force (Nat.div s 18446744073709551616) fun b => some (.tuple #[.int .u64 (.ofNat a), .int .u64 (.ofNat b)]) else none
        | _ => none
      | _ => none
    | _ => none
  | _ => none
def tbx : Tb := ⟨[], fun f vs => bif Nat.beq f 217 then xadd vs else none⟩
theorem tbx_ok : TbOk Tryz.prog tbx := by
  refine ⟨fun e h => (by cases h), fun f vs v h => ?_⟩
  obtain ⟨hf, h2⟩ := bif_some (show (bif Nat.beq f 217 then xadd vs else none) = some v from h)
  clear h
  have h := h2
  rw [Nat.beq_eq] at hf
  subst hf
  unfold xadd at h
  split at h
  · rename_i x y c
    split at h
    · rename_i x
      split at h
      · rename_i y
        split at h
        · rename_i c
          obtain ⟨hc, h⟩ := bif_some h
          rw [Nat.ble_eq] at hc
          simp only [Go.CheckFast.force_eq] at h
          cases h
          refine ⟨rfl, fun k => VX.tuple (cs := [_, _]) (us := [_, _]) ⟨_, _, rfl, VX.of0 rfl, _, _, rfl, VX.of0 rfl, rfl⟩, fun w => ?_⟩
          have := run_callFunc_extern (P := Tryz.prog) Tryz.func217 (by kernel_rfl) (by kernel_rfl) (by kernel_rfl) (e := add64Entry) (by kernel_rfl) #[.int .u64 (.ofNat x), .int .u64 (.ofNat y), .int .u64 (.ofNat c)] w
          have h2 := run_add64 (P := Tryz.prog) (.ofNat x) (.ofNat y) (.ofNat c) (Int.natCast_nonneg x) (Int.natCast_nonneg y) (Int.natCast_nonneg c) (by show (c : Int) ≤ 1; omega) w
          rw [this, h2]
          rfl
        · cases h
      · cases h
    · cases h
  · cases h
end E
end Go.Proofs.YtfmfeipeeedfpaaGreat
namespace Go.Proofs.YtfmfeipeeedfpaaGreat
namespace E
set_option maxRecDepth 100000 in
theorem lv_run : isTrue (call0 Tryz.prog (run Tryz.prog tbx 3000) 11 [] he12 0) = true := by kernel_rfl
theorem lv (W : World) : Calls Tryz.prog 11 #[] W fun r W' => r = .returned (.bool true) ∧ W.heap.size ≤ W'.heap.size ∧ W'.os = W.os ∧ Tp W' W ∧ W'.output = W.output ∧ (∀ b, b < W.heap.size → W'.heap[b]? = W.heap[b]?) ∧ ∀ a, W'.frozen? a = W.frozen? a := by
  obtain ⟨y, h1, h2⟩ := ok_true lv_run
  refine (closed tbx_ok rfl rfl h1 W).2.mono ?_
  rintro r W' ⟨u, k', rfl, hd, hv⟩
  rw [h2] at hv
  refine ⟨by rw [hv.bool_inv], hd.size, hd.os, hd.tape, hd.output, fun b hb => hd.frm b hb (fun j z _ hl => absurd hl (not_live (hget_new j))), hd.fz⟩
end E
end Go.Proofs.YtfmfeipeeedfpaaGreat
namespace Go.Proofs.YtfmfeipeeedfpaaGreat
open S Go.RowKit
theorem u_live (w : World) : Calls Tryz.prog 11 #[] w fun e W => e = .returned (.bool true) ∧ Mb w W := (E.lv w).mono (by
  rintro e W ⟨rfl, h1, h2, h3, h4, h5, _⟩
  exact ⟨rfl, ⟨h2, h3.1, h4, h1, h5⟩, h3.2⟩)
set_option maxRecDepth 20000 in
theorem u_fits {d : Nat} {x : Ex} {w : World} {b : Bool} (hb : decide (szX 60 x ≤ 2000) = b) (hL : LT w d x) : Calls Tryz.prog 10 #[.agg x.c.toArray] w fun e W => e = .returned (.bool b) ∧ Mb w W := by
  refine fn_pure [.agg (x.c.map rel1).toArray] Tryz.func10 rfl rfl rfl (run_ok (st mo ?_))
  refine ⟨_, fun nn => r_call (t := .int .i64 (szX 60 x)) rfl rfl Tryz.func28 (fun W M E => t_size 60 x W (by decide) ((hL.mono E).lx 60)), st mo ⟨fun h => st mo ?_, fun h => st mo ?_⟩⟩
  · show _ = _; rw [← hb, decide_eq_true h]
  · show _ = _; rw [← hb, decide_eq_false (by omega)]
set_option maxRecDepth 20000 in
theorem stays_n {d : Nat} {i : It} {e : Ev} (hu : XU d i.x) (w : World) (hL : LT w d i.x) (he : EvL w e) : Calls Tryz.prog 9 #[.agg i.c.toArray, e.v] w fun r W => r = .returned (.bool true) ∧ Mb w W := by
  refine fn_pure [.agg (i.c.map rel1).toArray, e.y] Tryz.func9 rfl rfl rfl (run_ok (st mo ?_))
  cases hf : decide (szX 60 i.x ≤ 2000) with
  | false =>
    refine ⟨_, fun nn => r_call (t := litF) rfl rfl Tryz.func10 (fun W M E => u_fits hf (hL.mono E)), st mo ?_⟩
    exact ⟨_, fun nn => r_call (t := litT) rfl rfl Tryz.func11 (fun W M E => u_live W), st mo rfl⟩
  | true =>
    refine ⟨_, fun nn => r_call (t := litT) rfl rfl Tryz.func10 (fun W M E => u_fits hf (hL.mono E)), st mo ?_⟩
    refine ⟨_, fun nn => r_call (t := litT) rfl rfl Tryz.func11 (fun W M E => u_live W), st mo ?_⟩
    refine ⟨_, fun nn => r_call (t := (evE e d i.x).y) rfl rfl Tryz.func12 (fun W M E => f_Eval hu W (hL.mono E) (he.mb M E)), st mo ?_⟩
    refine ⟨_, fun nn => r_call (t := .int .i64 0) rfl rfl Tryz.func27 (fun W M E => q_check' (fit_ev he hu) W), st mo ⟨fun _ => st mo ?_, fun h => absurd rfl h⟩⟩
    refine ⟨_, fun nn => r_call (t := (itE e d i).y) rfl rfl Tryz.func14 (fun W M E => f_Item hu W (hL.mono E) (he.mb M E)), st mo ?_⟩
    refine ⟨_, fun nn => r_call (t := .int .i64 0) rfl rfl Tryz.func27 (fun W M E => q_check' (fit_it he hu) W), st mo ⟨fun _ => st mo rfl, fun h => absurd rfl h⟩⟩
end Go.Proofs.YtfmfeipeeedfpaaGreat
namespace Go.Proofs.YtfmfeipeeedfpaaGreat
open S Go.RowKit
set_option maxRecDepth 20000 in
theorem evals_n {d : Nat} {x : Ex} {e : Ev} (hu : XU d x) (w : World) (hL : LT w d x) (he : EvL w e) : Calls Tryz.prog 3 #[.agg x.c.toArray, e.v] w fun r W => r = .returned (.bool true) ∧ Mb w W := by
  refine fn_pure [.agg (x.c.map rel1).toArray, e.y] Tryz.func3 rfl rfl rfl (run_ok (st mo ?_))
  cases hf : decide (szX 60 x ≤ 2000) with
  | false =>
    refine ⟨_, fun nn => r_call (t := litF) rfl rfl Tryz.func10 (fun W M E => u_fits hf (hL.mono E)), st mo ?_⟩
    exact ⟨_, fun nn => r_call (t := litT) rfl rfl Tryz.func11 (fun W M E => u_live W), st mo rfl⟩
  | true =>
    refine ⟨_, fun nn => r_call (t := litT) rfl rfl Tryz.func10 (fun W M E => u_fits hf (hL.mono E)), st mo ?_⟩
    refine ⟨_, fun nn => r_call (t := litT) rfl rfl Tryz.func11 (fun W M E => u_live W), st mo ?_⟩
    refine ⟨_, fun nn => r_call (t := (evE e d x).y) rfl rfl Tryz.func12 (fun W M E => f_Eval hu W (hL.mono E) (he.mb M E)), st mo ?_⟩
    refine ⟨_, fun nn => r_call (t := (evE e d x).y) rfl rfl Tryz.func13 (fun W M E => c_eval e d x hu W (hL.mono E) (he.mb M E)), st mo ?_⟩
    exact ⟨_, r_eqV (evE e d x) (evE e d x), fun _ => st mo ⟨dk, st mo rfl⟩, fun q => absurd (q.symm.trans (svv_self _)) (by decide)⟩
set_option maxRecDepth 20000 in
theorem items_n {d : Nat} {i : It} {e : Ev} (hu : XU d i.x) (w : World) (hL : LT w d i.x) (he : EvL w e) : Calls Tryz.prog 4 #[.agg i.c.toArray, e.v] w fun r W => r = .returned (.bool true) ∧ Mb w W := by
  refine fn_pure [.agg (i.c.map rel1).toArray, e.y] Tryz.func4 rfl rfl rfl (run_ok (st mo ?_))
  cases hf : decide (szX 60 i.x ≤ 2000) with
  | false =>
    refine ⟨_, fun nn => r_call (t := litF) rfl rfl Tryz.func10 (fun W M E => u_fits hf (hL.mono E)), st mo ?_⟩
    exact ⟨_, fun nn => r_call (t := litT) rfl rfl Tryz.func11 (fun W M E => u_live W), st mo rfl⟩
  | true =>
    refine ⟨_, fun nn => r_call (t := litT) rfl rfl Tryz.func10 (fun W M E => u_fits hf (hL.mono E)), st mo ?_⟩
    refine ⟨_, fun nn => r_call (t := litT) rfl rfl Tryz.func11 (fun W M E => u_live W), st mo ?_⟩
    refine ⟨_, fun nn => r_call (t := (itE e d i).y) rfl rfl Tryz.func14 (fun W M E => f_Item hu W (hL.mono E) (he.mb M E)), st mo ?_⟩
    refine ⟨_, fun nn => r_call (t := (itE e d i).y) rfl rfl Tryz.func15 (fun W M E => c_item hu W (hL.mono E) (he.mb M E)), st mo ?_⟩
    exact ⟨_, r_eqV (itE e d i) (itE e d i), fun _ => st mo ⟨dk, st mo rfl⟩, fun q => absurd (q.symm.trans (svv_self _)) (by decide)⟩
end Go.Proofs.YtfmfeipeeedfpaaGreat
namespace Go.Proofs.YtfmfeipeeedfpaaGreat
open Go.ChangeShapes Go.WideShapes Go.ChangeAt Go.RowKit
open S (Lies)
theorem LT.le {w : World} {d : Nat} {x : Ex} (h : LT w d x) : ∀ {e : Nat}, d ≤ e → LT w e x := by
  intro e he
  induction he with
  | refl => exact h
  | step _ ih => exact ih.up
theorem LT.xu {w : World} : ∀ {d : Nat} {x : Ex}, LT w d x → XU d x → XU (d + 1) x
  | 0, x, h, u => ⟨u, fun y hy => by rw [show x.a = [] from h] at hy; cases hy⟩
  | d + 1, x, h, u => ⟨u.1, fun y hy => by
    obtain ⟨i, hi⟩ := List.getElem?_of_mem hy
    exact (h.at hi).2.xu (u.2 y hy)⟩
theorem LT.leU {w : World} {d : Nat} {x : Ex} (h : LT w d x) (u : XU d x) : ∀ {e : Nat}, d ≤ e → LT w e x ∧ XU e x := by
  intro e he
  induction he with
  | refl => exact ⟨h, u⟩
  | step _ ih => exact ⟨ih.1.up, ih.1.xu ih.2⟩
namespace D
def dn00 : Dn := ⟨false, 0, 0⟩
theorem cl_int : Tryz.prog.cellsOf 3 = 1 := by kernel_rfl
theorem cl_bool : Tryz.prog.cellsOf 4 = 1 := by kernel_rfl
theorem cl_string : Tryz.prog.cellsOf 9 = 1 := by kernel_rfl
theorem cl_u64 : Tryz.prog.cellsOf 22 = 1 := by kernel_rfl
theorem cl_nat : Tryz.prog.cellsOf 24 = 4 := by kernel_rfl
theorem cl_dec : Tryz.prog.cellsOf 26 = 6 := by kernel_rfl
theorem cl_val : Tryz.prog.cellsOf 28 = 10 := by kernel_rfl
theorem cl_sx : Tryz.prog.cellsOf 29 = 1 := by kernel_rfl
theorem cl_ex : Tryz.prog.cellsOf 31 = 17 := by kernel_rfl
theorem cl_ty : Tryz.prog.cellsOf 42 = 2 := by kernel_rfl
theorem cl_it : Tryz.prog.cellsOf 44 = 23 := by kernel_rfl
theorem cl_st : Tryz.prog.cellsOf 146 = 18 := by kernel_rfl
theorem cl_ss : Tryz.prog.cellsOf 112 = 1 := by kernel_rfl
theorem cl_tb : Tryz.prog.cellsOf 114 = 2 := by kernel_rfl
theorem cl_stb : Tryz.prog.cellsOf 34 = 1 := by kernel_rfl
theorem cl_wd : Tryz.prog.cellsOf 62 = 5 := by kernel_rfl
theorem cl_sm : Tryz.prog.cellsOf 64 = 23 := by kernel_rfl
theorem cl_cl : Tryz.prog.cellsOf 66 = 24 := by kernel_rfl
theorem cl_ev : Tryz.prog.cellsOf 36 = 3 := by kernel_rfl
theorem cl_mn : Tryz.prog.cellsOf 32 = 1 := by kernel_rfl
theorem cl_mc : Tryz.prog.cellsOf 33 = 1 := by kernel_rfl
theorem cl_ck : Tryz.prog.cellsOf 53 = 2 := by kernel_rfl
/-- A slice's elements lie there. -/
def SL (W : World) (n : Nat) {α : Type} (cells : α → List Value) (pa : Option Addr) (L : List α) : Prop := L.length ≤ maxLen ∧ ∀ i o, L[i]? = some o → ∃ b off, pa = some ⟨b, off, none⟩ ∧ b < W.heap.size ∧ W.rangeAt b (off + i * n) (cells o)
theorem wf_i {n : Int} (h : (Lit.int .i64 n).wf = true) : -9223372036854775808 ≤ n ∧ n < 9223372036854775808 := by
  have h : (decide (IntKind.i64.min ≤ n) && decide (n ≤ IntKind.i64.max)) = true := h
  rw [Bool.and_eq_true, decide_eq_true_eq, decide_eq_true_eq] at h
  have e1 : IntKind.i64.min = -9223372036854775808 := by decide
  have e2 : IntKind.i64.max = 9223372036854775807 := by decide
  omega
theorem wf_u {n : Int} (h : (Lit.int .u64 n).wf = true) : U1 n := by
  have h : (decide (IntKind.u64.min ≤ n) && decide (n ≤ IntKind.u64.max)) = true := h
  rw [Bool.and_eq_true, decide_eq_true_eq, decide_eq_true_eq] at h
  have e1 : IntKind.u64.min = 0 := by decide
  have e2 : IntKind.u64.max = 18446744073709551615 := by decide
  unfold U1; omega
section
variable {H : Type} {enc : TypeId × Value → H} {W : World} {sp : Nat → Bool}
/-- A slice that came in, of elements that are read with less fuel. -/
theorem cut_sl {fuel : Nat} {x : DataW H × List MemPlace} {t e : TypeId} (hu : Tryz.prog.underlying t = some (.slice e)) {n : Nat} (hn : 0 < n) (hcl : Tryz.prog.cellsOf e = n) {α : Type} (cells : α → List Value) (dflt : α) (ok : α → Prop) (hlen : ∀ y, (cells y).length = n)
    (hcut : ∀ {m : Nat} {cs : List Value} {y : DataW H × List MemPlace}, m < fuel → DataW.trod enc Tryz.prog W 0 sp true m e cs = some y → ∃ z, ok z ∧ cs = cells z) {v : Value} (h : DataW.trod enc Tryz.prog W 0 sp true fuel t [v] = some x) :
    ∃ (L : List α) (pa : Option Addr) (cap : Nat), v = .slice pa L.length cap ∧ (∀ o ∈ L, ok o) ∧ SL W n cells pa L ∧ L.length ≤ cap := by
  rcases DataW.trod_slice hu h with ⟨hcs, _⟩ | ⟨a, len, cap, elems, rest, k, rfl, hcs, _, _, hlc, hcm, hlen2, hel, _, _⟩
  · simp only [List.cons.injEq, and_true] at hcs
    subst hcs
    exact ⟨[], none, 0, rfl, fun _ e => (by cases e), ⟨Nat.zero_le _, (fun _ _ e => by cases e)⟩, Nat.le_refl _⟩
  · simp only [List.cons.injEq, and_true] at hcs
    subst hcs
    have first : ∀ o : α, ∃ u, (cells o)[0]? = some u := fun o => ⟨(cells o)[0]'(by rw [hlen]; exact hn), List.getElem?_eq_getElem _⟩
    have el : ∀ i, i < len → ∃ cs' y, W.cells? 0 (a.add (i * Tryz.prog.cellsOf e)) (Tryz.prog.cellsOf e) = some cs' ∧ DataW.trod enc Tryz.prog W 0 sp true k e cs' = some y := fun i hi => by
      have h1 := hel i hi
      rw [List.getElem?_eq_getElem (by omega)] at h1
      cases h2 : W.cells? 0 (a.add (i * Tryz.prog.cellsOf e)) (Tryz.prog.cellsOf e) with
      | none => rw [h2] at h1; cases h1
      | some cs' => rw [h2] at h1; exact ⟨cs', _, rfl, h1⟩
    have key : ∀ i : Nat, ∃ S : α, i < len → ok S ∧ ∃ b off, some a = some (⟨b, off, none⟩ : Addr) ∧ b < W.heap.size ∧ W.rangeAt b (off + i * n) (cells S) := by
      intro i
      by_cases hi : i < len
      · obtain ⟨cs', y, hc, ht⟩ := el i hi
        obtain ⟨o, ho, rfl⟩ := hcut (Nat.lt_succ_self k) ht
        refine ⟨o, fun _ => ⟨ho, ?_⟩⟩
        rw [hcl] at hc
        have hb := World.cells?_block hc hn
        obtain ⟨_, _, hcell⟩ := World.cells?_some hc
        obtain ⟨b, off, spot⟩ := a
        have hs : spot = none := by
          obtain ⟨cs0, y0, hc0, ht0⟩ := el 0 (by omega)
          obtain ⟨o0, _, rfl⟩ := hcut (Nat.lt_succ_self k) ht0
          rw [hcl] at hc0
          have h0 := (World.cells?_some hc0).2.2 0 hn
          obtain ⟨u, hu0⟩ := first o0
          rw [hu0] at h0
          have := World.cell?_spot (show W.cell? (((⟨b, off, spot⟩ : Addr).add (0 * n)).add 0) = some u from h0)
          simpa [Addr.add] using this
        subst hs
        refine ⟨b, off, rfl, by simpa [Addr.add_mid] using hb, fun j v hv => ?_⟩
        have hj : j < n := by rw [← hlen o]; exact (List.getElem?_eq_some_iff.1 hv).1
        have := hcell j hj
        rw [Addr.add_mid, Addr.add_mid, hv] at this
        exact this
      · exact ⟨dflt, fun e => absurd e hi⟩
    obtain ⟨f, hf2⟩ := Classical.skolem.1 key
    refine ⟨(List.range len).map f, some a, cap, by simp, fun o ho => ?_, ⟨by simpa using Nat.le_trans hlc hcm, fun i o e => ?_⟩, by simpa using hlc⟩
    · obtain ⟨i, hi, rfl⟩ := List.mem_map.1 ho
      exact (hf2 i (by simpa using hi)).1
    · have hi : i < len := by have := (List.getElem?_eq_some_iff.1 e).1; simpa using this
      rw [List.getElem?_map, List.getElem?_range hi] at e
      cases e
      exact (hf2 i hi).2
set_option maxRecDepth 100000 in
theorem cut_arr {fuel : Nat} {cs : List Value} {x : DataW H × List MemPlace} (h : DataW.trod enc Tryz.prog W 0 sp true fuel 24 cs = some x) : ∃ n0 n1 n2 n3 : Int, U1 n0 ∧ U1 n1 ∧ U1 n2 ∧ U1 n3 ∧ cs = [.int .u64 n0, .int .u64 n1, .int .u64 n2, .int .u64 n3] := by
  obtain ⟨xs, m, rfl, _, hlen, hn, hi⟩ := DataW.trod_array Tryz.underlying24 h
  rw [cl_nat] at hlen
  obtain ⟨c0, c1, c2, c3, rfl⟩ : ∃ c0 c1 c2 c3, cs = [c0, c1, c2, c3] := by
    match cs, hlen with
    | [a0, a1, a2, a3], _ => exact ⟨a0, a1, a2, a3, rfl⟩
  obtain ⟨y0, y1, y2, y3, rfl⟩ : ∃ y0 y1 y2 y3, xs = [y0, y1, y2, y3] := by
    match xs, hn with
    | [a0, a1, a2, a3], _ => exact ⟨a0, a1, a2, a3, rfl⟩
  have i0 := hi 0 (by decide)
  have i1 := hi 1 (by decide)
  have i2 := hi 2 (by decide)
  have i3 := hi 3 (by decide)
  simp only [cl_u64] at i0 i1 i2 i3
  simp at i0 i1 i2 i3
  obtain ⟨x0, e0, _, f0⟩ := DataW.trod_int Tryz.underlying22 i0
  obtain ⟨x1, e1, _, f1⟩ := DataW.trod_int Tryz.underlying22 i1
  obtain ⟨x2, e2, _, f2⟩ := DataW.trod_int Tryz.underlying22 i2
  obtain ⟨x3, e3, _, f3⟩ := DataW.trod_int Tryz.underlying22 i3
  simp at e0 e1 e2 e3
  subst e0 e1 e2 e3
  exact ⟨x0, x1, x2, x3, wf_u f0, wf_u f1, wf_u f2, wf_u f3, rfl⟩
set_option maxRecDepth 100000 in
theorem cut_wd {fuel : Nat} {cs : List Value} {x : DataW H × List MemPlace} (h : DataW.trod enc Tryz.prog W 0 sp true fuel 62 cs = some x) : ∃ n0 n1 n2 n3 n4 : Int, U1 n0 ∧ U1 n1 ∧ U1 n2 ∧ U1 n3 ∧ U1 n4 ∧ cs = [.int .u64 n0, .int .u64 n1, .int .u64 n2, .int .u64 n3, .int .u64 n4] := by
  obtain ⟨xs, m, rfl, _, hlen, hn, hi⟩ := DataW.trod_array Tryz.underlying62 h
  rw [cl_wd] at hlen
  obtain ⟨c0, c1, c2, c3, c4, rfl⟩ : ∃ c0 c1 c2 c3 c4, cs = [c0, c1, c2, c3, c4] := by
    match cs, hlen with
    | [a0, a1, a2, a3, a4], _ => exact ⟨a0, a1, a2, a3, a4, rfl⟩
  obtain ⟨y0, y1, y2, y3, y4, rfl⟩ : ∃ y0 y1 y2 y3 y4, xs = [y0, y1, y2, y3, y4] := by
    match xs, hn with
    | [a0, a1, a2, a3, a4], _ => exact ⟨a0, a1, a2, a3, a4, rfl⟩
  have i0 := hi 0 (by decide)
  have i1 := hi 1 (by decide)
  have i2 := hi 2 (by decide)
  have i3 := hi 3 (by decide)
  have i4 := hi 4 (by decide)
  simp only [cl_u64] at i0 i1 i2 i3 i4
  simp at i0 i1 i2 i3 i4
  obtain ⟨x0, e0, _, f0⟩ := DataW.trod_int Tryz.underlying22 i0
  obtain ⟨x1, e1, _, f1⟩ := DataW.trod_int Tryz.underlying22 i1
  obtain ⟨x2, e2, _, f2⟩ := DataW.trod_int Tryz.underlying22 i2
  obtain ⟨x3, e3, _, f3⟩ := DataW.trod_int Tryz.underlying22 i3
  obtain ⟨x4, e4, _, f4⟩ := DataW.trod_int Tryz.underlying22 i4
  simp at e0 e1 e2 e3 e4
  subst e0 e1 e2 e3 e4
  exact ⟨x0, x1, x2, x3, x4, wf_u f0, wf_u f1, wf_u f2, wf_u f3, wf_u f4, rfl⟩
theorem cut_nat {fuel : Nat} {cs : List Value} {x : DataW H × List MemPlace} (h : DataW.trod enc Tryz.prog W 0 sp true fuel 24 cs = some x) : ∃ n : Int, (0 ≤ n ∧ n < MM) ∧ cs = [.int .u64 (l0 n), .int .u64 (l1 n), .int .u64 (l2 n), .int .u64 (l3 n)] := by
  obtain ⟨a, b, c, d, h0, h1, h2, h3, rfl⟩ := cut_arr h
  have u : U4 a b c d := ⟨h0, h1, h2, h3⟩
  exact ⟨vl a b c d, vl_bd u, by rw [l0_vl u, l1_vl u, l2_vl u, l3_vl u]⟩
set_option maxRecDepth 100000 in
theorem cut_dn {fuel : Nat} {cs : List Value} {x : DataW H × List MemPlace} (h : DataW.trod enc Tryz.prog W 0 sp true fuel 26 cs = some x) : ∃ d : Dn, d.ok ∧ cs = d.cells := by
  obtain ⟨xs, m, rfl, _, hl, hlen, hi⟩ := DataW.trod_struct Tryz.underlying26 h
  rw [cl_dec] at hl
  obtain ⟨c0, c1, c2, c3, c4, c5, rfl⟩ : ∃ c0 c1 c2 c3 c4 c5, cs = [c0, c1, c2, c3, c4, c5] := by
    match cs, hl with
    | [a0, a1, a2, a3, a4, a5], _ => exact ⟨a0, a1, a2, a3, a4, a5, rfl⟩
  obtain ⟨y0, y1, y2, rfl⟩ : ∃ y0 y1 y2, xs = [y0, y1, y2] := by
    match xs, hlen with
    | [a0, a1, a2], _ => exact ⟨a0, a1, a2, rfl⟩
  have i0 := hi 0 _ rfl
  have i1 := hi 1 _ rfl
  have i2 := hi 2 _ rfl
  simp [cl_bool, cl_nat, cl_int] at i0 i1 i2
  obtain ⟨b, e0, _⟩ := DataW.trod_bool Tryz.underlying4 i0
  obtain ⟨n, hn, e1⟩ := cut_nat i1
  obtain ⟨s, e2, _, f2⟩ := DataW.trod_int Tryz.underlying3 i2
  simp at e0 e1 e2
  obtain ⟨e1_0, e1_1, e1_2, e1_3⟩ := e1
  subst e0 e1_0 e1_1 e1_2 e1_3 e2
  exact ⟨⟨b, n, s⟩, hn, rfl⟩
set_option maxRecDepth 100000 in
theorem cut_vl {fuel : Nat} {cs : List Value} {x : DataW H × List MemPlace} (h : DataW.trod enc Tryz.prog W 0 sp true fuel 28 cs = some x) : ∃ v : VL, v.ok ∧ cs = v.cells := by
  obtain ⟨xs, m, rfl, _, hl, hlen, hi⟩ := DataW.trod_struct Tryz.underlying28 h
  rw [cl_val] at hl
  obtain ⟨c0, c1, c2, c3, c4, c5, c6, c7, c8, c9, rfl⟩ : ∃ c0 c1 c2 c3 c4 c5 c6 c7 c8 c9, cs = [c0, c1, c2, c3, c4, c5, c6, c7, c8, c9] := by
    match cs, hl with
    | [a0, a1, a2, a3, a4, a5, a6, a7, a8, a9], _ => exact ⟨a0, a1, a2, a3, a4, a5, a6, a7, a8, a9, rfl⟩
  obtain ⟨y0, y1, y2, y3, y4, rfl⟩ : ∃ y0 y1 y2 y3 y4, xs = [y0, y1, y2, y3, y4] := by
    match xs, hlen with
    | [a0, a1, a2, a3, a4], _ => exact ⟨a0, a1, a2, a3, a4, rfl⟩
  have i0 := hi 0 _ rfl
  have i1 := hi 1 _ rfl
  have i2 := hi 2 _ rfl
  have i3 := hi 3 _ rfl
  have i4 := hi 4 _ rfl
  simp [cl_int, cl_dec, cl_bool, cl_string] at i0 i1 i2 i3 i4
  obtain ⟨k, e0, _, f0⟩ := DataW.trod_int Tryz.underlying3 i0
  obtain ⟨d, hd, e1⟩ := cut_dn i1
  obtain ⟨f, e2, _⟩ := DataW.trod_bool Tryz.underlying4 i2
  obtain ⟨t, e3, _, _⟩ := DataW.trod_string Tryz.underlying9 i3
  obtain ⟨er, e4, _, f4⟩ := DataW.trod_int Tryz.underlying3 i4
  simp only [Dn.cells] at e1
  simp at e0 e1 e2 e3 e4
  obtain ⟨e1_0, e1_1, e1_2, e1_3, e1_4, e1_5⟩ := e1
  subst e0 e1_0 e1_1 e1_2 e1_3 e1_4 e1_5 e2 e3 e4
  exact ⟨⟨k, d.b, d.n, d.s, f, t, er⟩, hd, rfl⟩
set_option maxRecDepth 100000 in
theorem cut_st {fuel : Nat} {cs : List Value} {x : DataW H × List MemPlace} (h : DataW.trod enc Tryz.prog W 0 sp true fuel 146 cs = some x) : ∃ s : Stp, s.ok ∧ cs = s.cells := by
  obtain ⟨xs, m, rfl, _, hl, hlen, hi⟩ := DataW.trod_struct Tryz.underlying146 h
  rw [cl_st] at hl
  obtain ⟨c0, c1, c2, c3, c4, c5, c6, c7, c8, c9, c10, c11, c12, c13, c14, c15, c16, c17, rfl⟩ : ∃ c0 c1 c2 c3 c4 c5 c6 c7 c8 c9 c10 c11 c12 c13 c14 c15 c16 c17, cs = [c0, c1, c2, c3, c4, c5, c6, c7, c8, c9, c10, c11, c12, c13, c14, c15, c16, c17] := by
    match cs, hl with
    | [a0, a1, a2, a3, a4, a5, a6, a7, a8, a9, a10, a11, a12, a13, a14, a15, a16, a17], _ => exact ⟨a0, a1, a2, a3, a4, a5, a6, a7, a8, a9, a10, a11, a12, a13, a14, a15, a16, a17, rfl⟩
  obtain ⟨y0, y1, y2, rfl⟩ : ∃ y0 y1 y2, xs = [y0, y1, y2] := by
    match xs, hlen with
    | [a0, a1, a2], _ => exact ⟨a0, a1, a2, rfl⟩
  have i0 := hi 0 _ rfl
  have i1 := hi 1 _ rfl
  have i2 := hi 2 _ rfl
  simp [cl_dec] at i0 i1 i2
  obtain ⟨a, ha, e0⟩ := cut_dn i0
  obtain ⟨b, hb, e1⟩ := cut_dn i1
  obtain ⟨c, hc, e2⟩ := cut_dn i2
  simp only [Dn.cells] at e0 e1 e2
  simp at e0 e1 e2
  obtain ⟨e0_0, e0_1, e0_2, e0_3, e0_4, e0_5⟩ := e0
  obtain ⟨e1_0, e1_1, e1_2, e1_3, e1_4, e1_5⟩ := e1
  obtain ⟨e2_0, e2_1, e2_2, e2_3, e2_4, e2_5⟩ := e2
  subst e0_0 e0_1 e0_2 e0_3 e0_4 e0_5 e1_0 e1_1 e1_2 e1_3 e1_4 e1_5 e2_0 e2_1 e2_2 e2_3 e2_4 e2_5
  exact ⟨⟨a, b, c⟩, ⟨ha, hb, hc⟩, rfl⟩
set_option maxRecDepth 100000 in
theorem cut_tb {fuel : Nat} {cs : List Value} {x : DataW H × List MemPlace} (h : DataW.trod enc Tryz.prog W 0 sp true fuel 114 cs = some x) : ∃ t : Tb, TbL W t ∧ cs = t.cells := by
  obtain ⟨xs, m, rfl, _, hl, hlen, hi⟩ := DataW.trod_struct Tryz.underlying114 h
  rw [cl_tb] at hl
  obtain ⟨c0, c1, rfl⟩ : ∃ c0 c1, cs = [c0, c1] := by
    match cs, hl with
    | [a0, a1], _ => exact ⟨a0, a1, rfl⟩
  obtain ⟨y0, y1, rfl⟩ : ∃ y0 y1, xs = [y0, y1] := by
    match xs, hlen with
    | [a0, a1], _ => exact ⟨a0, a1, rfl⟩
  have i0 := hi 0 _ rfl
  have i1 := hi 1 _ rfl
  simp [cl_string, cl_ss] at i0 i1
  obtain ⟨nm, e0, _, _⟩ := DataW.trod_string Tryz.underlying9 i0
  obtain ⟨L, pa, cap, e1, hL, hS, _⟩ := cut_sl Tryz.underlying112 (n := 18) (by decide) cl_st Stp.cells ⟨dn00, dn00, dn00⟩ Stp.ok Stp.len (fun _ h => cut_st h) i1
  simp at e0
  subst e0 e1
  exact ⟨⟨nm, pa, cap, L⟩, ⟨fun i y hy => by
    obtain ⟨b, o, h1, _, h2⟩ := hS.2 i y hy
    exact ⟨b, o, h1, h2⟩, hL, hS.1⟩, rfl⟩
set_option maxRecDepth 100000 in
theorem cut_sm {fuel : Nat} {cs : List Value} {x : DataW H × List MemPlace} (h : DataW.trod enc Tryz.prog W 0 sp true fuel 64 cs = some x) : ∃ m : SM, m.ok ∧ cs = m.cells := by
  obtain ⟨xs, m, rfl, _, hl, hlen, hi⟩ := DataW.trod_struct Tryz.underlying64 h
  rw [cl_sm] at hl
  obtain ⟨c0, c1, c2, c3, c4, c5, c6, c7, c8, c9, c10, c11, c12, c13, c14, c15, c16, c17, c18, c19, c20, c21, c22, rfl⟩ : ∃ c0 c1 c2 c3 c4 c5 c6 c7 c8 c9 c10 c11 c12 c13 c14 c15 c16 c17 c18 c19 c20 c21 c22, cs = [c0, c1, c2, c3, c4, c5, c6, c7, c8, c9, c10, c11, c12, c13, c14, c15, c16, c17, c18, c19, c20, c21, c22] := by
    match cs, hl with
    | [a0, a1, a2, a3, a4, a5, a6, a7, a8, a9, a10, a11, a12, a13, a14, a15, a16, a17, a18, a19, a20, a21, a22], _ => exact ⟨a0, a1, a2, a3, a4, a5, a6, a7, a8, a9, a10, a11, a12, a13, a14, a15, a16, a17, a18, a19, a20, a21, a22, rfl⟩
  obtain ⟨y0, y1, y2, y3, y4, y5, y6, y7, y8, rfl⟩ : ∃ y0 y1 y2 y3 y4 y5 y6 y7 y8, xs = [y0, y1, y2, y3, y4, y5, y6, y7, y8] := by
    match xs, hlen with
    | [a0, a1, a2, a3, a4, a5, a6, a7, a8], _ => exact ⟨a0, a1, a2, a3, a4, a5, a6, a7, a8, rfl⟩
  have i0 := hi 0 _ rfl
  have i1 := hi 1 _ rfl
  have i2 := hi 2 _ rfl
  have i3 := hi 3 _ rfl
  have i4 := hi 4 _ rfl
  have i5 := hi 5 _ rfl
  have i6 := hi 6 _ rfl
  have i7 := hi 7 _ rfl
  have i8 := hi 8 _ rfl
  simp [cl_int, cl_wd, cl_bool, cl_dec] at i0 i1 i2 i3 i4 i5 i6 i7 i8
  obtain ⟨ro, e0, _, f0⟩ := DataW.trod_int Tryz.underlying3 i0
  obtain ⟨fi, e1, _, f1⟩ := DataW.trod_int Tryz.underlying3 i1
  obtain ⟨bl, e2, _, f2⟩ := DataW.trod_int Tryz.underlying3 i2
  obtain ⟨bd, e3, _, f3⟩ := DataW.trod_int Tryz.underlying3 i3
  obtain ⟨er, e4, _, f4⟩ := DataW.trod_int Tryz.underlying3 i4
  obtain ⟨t0, t1, t2, t3, t4, g0, g1, g2, g3, g4, e5⟩ := cut_wd i5
  obtain ⟨so, e6, _⟩ := DataW.trod_bool Tryz.underlying4 i6
  obtain ⟨mn, hmn, e7⟩ := cut_dn i7
  obtain ⟨mx, hmx, e8⟩ := cut_dn i8
  simp only [Dn.cells] at e7 e8
  simp at e0 e1 e2 e3 e4 e5 e6 e7 e8
  obtain ⟨e5_0, e5_1, e5_2, e5_3, e5_4⟩ := e5
  obtain ⟨e7_0, e7_1, e7_2, e7_3, e7_4, e7_5⟩ := e7
  obtain ⟨e8_0, e8_1, e8_2, e8_3, e8_4, e8_5⟩ := e8
  subst e0 e1 e2 e3 e4 e5_0 e5_1 e5_2 e5_3 e5_4 e6 e7_0 e7_1 e7_2 e7_3 e7_4 e7_5 e8_0 e8_1 e8_2 e8_3 e8_4 e8_5
  exact ⟨⟨ro, fi, bl, bd, er, t0, t1, t2, t3, t4, so, mn.b, mn.n, mn.s, mx.b, mx.n, mx.s⟩, ⟨wf_i f0, wf_i f1, g0, g1, g2, g3, g4, hmn, hmx⟩, rfl⟩
set_option maxRecDepth 100000 in
theorem cut_cl {fuel : Nat} {cs : List Value} {x : DataW H × List MemPlace} (h : DataW.trod enc Tryz.prog W 0 sp true fuel 66 cs = some x) : ∃ c : CL, c.m.ok ∧ cs = c.cells := by
  obtain ⟨xs, m, rfl, _, hl, hlen, hi⟩ := DataW.trod_struct Tryz.underlying66 h
  rw [cl_cl] at hl
  obtain ⟨c0, c1, c2, c3, c4, c5, c6, c7, c8, c9, c10, c11, c12, c13, c14, c15, c16, c17, c18, c19, c20, c21, c22, c23, rfl⟩ : ∃ c0 c1 c2 c3 c4 c5 c6 c7 c8 c9 c10 c11 c12 c13 c14 c15 c16 c17 c18 c19 c20 c21 c22 c23, cs = [c0, c1, c2, c3, c4, c5, c6, c7, c8, c9, c10, c11, c12, c13, c14, c15, c16, c17, c18, c19, c20, c21, c22, c23] := by
    match cs, hl with
    | [a0, a1, a2, a3, a4, a5, a6, a7, a8, a9, a10, a11, a12, a13, a14, a15, a16, a17, a18, a19, a20, a21, a22, a23], _ => exact ⟨a0, a1, a2, a3, a4, a5, a6, a7, a8, a9, a10, a11, a12, a13, a14, a15, a16, a17, a18, a19, a20, a21, a22, a23, rfl⟩
  obtain ⟨y0, y1, rfl⟩ : ∃ y0 y1, xs = [y0, y1] := by
    match xs, hlen with
    | [a0, a1], _ => exact ⟨a0, a1, rfl⟩
  have i0 := hi 0 _ rfl
  have i1 := hi 1 _ rfl
  simp [cl_sm, cl_int] at i0 i1
  obtain ⟨m, hm, e0⟩ := cut_sm i0
  obtain ⟨s, e1, _, f1⟩ := DataW.trod_int Tryz.underlying3 i1
  simp only [SM.cells] at e0
  simp at e0 e1
  obtain ⟨e0_0, e0_1, e0_2, e0_3, e0_4, e0_5, e0_6, e0_7, e0_8, e0_9, e0_10, e0_11, e0_12, e0_13, e0_14, e0_15, e0_16, e0_17, e0_18, e0_19, e0_20, e0_21, e0_22⟩ := e0
  subst e0_0 e0_1 e0_2 e0_3 e0_4 e0_5 e0_6 e0_7 e0_8 e0_9 e0_10 e0_11 e0_12 e0_13 e0_14 e0_15 e0_16 e0_17 e0_18 e0_19 e0_20 e0_21 e0_22 e1
  exact ⟨⟨m, s⟩, hm, rfl⟩
set_option maxRecDepth 100000 in
theorem cut_ex : ∀ (fuel : Nat) {cs : List Value} {x : DataW H × List MemPlace}, DataW.trod enc Tryz.prog W 0 sp true fuel 31 cs = some x → ∃ e : Ex, (LT W fuel e ∧ XU fuel e) ∧ cs = e.c := by
  intro fuel
  induction fuel using Nat.strongRecOn with
  | ind fuel ih =>
    intro cs x h
    obtain ⟨xs, m, rfl, _, hl, hlen, hi⟩ := DataW.trod_struct Tryz.underlying31 h
    rw [cl_ex] at hl
    obtain ⟨c0, c1, c2, c3, c4, c5, c6, c7, c8, c9, c10, c11, c12, c13, c14, c15, c16, rfl⟩ : ∃ c0 c1 c2 c3 c4 c5 c6 c7 c8 c9 c10 c11 c12 c13 c14 c15 c16, cs = [c0, c1, c2, c3, c4, c5, c6, c7, c8, c9, c10, c11, c12, c13, c14, c15, c16] := by
      match cs, hl with
      | [a0, a1, a2, a3, a4, a5, a6, a7, a8, a9, a10, a11, a12, a13, a14, a15, a16], _ => exact ⟨a0, a1, a2, a3, a4, a5, a6, a7, a8, a9, a10, a11, a12, a13, a14, a15, a16, rfl⟩
    obtain ⟨y0, y1, y2, y3, y4, y5, y6, y7, rfl⟩ : ∃ y0 y1 y2 y3 y4 y5 y6 y7, xs = [y0, y1, y2, y3, y4, y5, y6, y7] := by
      match xs, hlen with
      | [a0, a1, a2, a3, a4, a5, a6, a7], _ => exact ⟨a0, a1, a2, a3, a4, a5, a6, a7, rfl⟩
    have i0 := hi 0 _ rfl
    have i1 := hi 1 _ rfl
    have i2 := hi 2 _ rfl
    have i3 := hi 3 _ rfl
    have i4 := hi 4 _ rfl
    have i5 := hi 5 _ rfl
    have i6 := hi 6 _ rfl
    have i7 := hi 7 _ rfl
    simp [cl_int, cl_string, cl_val, cl_sx] at i0 i1 i2 i3 i4 i5 i6 i7
    obtain ⟨k, e0, _, f0⟩ := DataW.trod_int Tryz.underlying3 i0
    obtain ⟨op, e1, _, f1⟩ := DataW.trod_int Tryz.underlying3 i1
    obtain ⟨nm, e2, _, _⟩ := DataW.trod_string Tryz.underlying9 i2
    obtain ⟨se, e3, _, _⟩ := DataW.trod_string Tryz.underlying9 i3
    obtain ⟨v, hv, e4⟩ := cut_vl i4
    obtain ⟨sc, e5, _, f5⟩ := DataW.trod_int Tryz.underlying3 i5
    obtain ⟨po, e6, _, f6⟩ := DataW.trod_int Tryz.underlying3 i6
    obtain ⟨A, pa, cap, e7, hL, hS, _⟩ := cut_sl Tryz.underlying29 (n := 17) (by decide) cl_ex Ex.c (.mk 0 0 ⟨#[]⟩ ⟨#[]⟩ 0 false 0 0 0 0 0 false ⟨#[]⟩ 0 0 0 none 0 []) (fun z => LT W m z ∧ XU m z) (fun _ => rfl) (fun hm h => by obtain ⟨z, ⟨h1, h2⟩, h3⟩ := ih _ (by omega) h; exact ⟨z, h1.leU h2 (by omega), h3⟩) i7
    simp only [VL.cells] at e4
    simp at e0 e1 e2 e3 e4 e5 e6
    obtain ⟨e4_0, e4_1, e4_2, e4_3, e4_4, e4_5, e4_6, e4_7, e4_8, e4_9⟩ := e4
    subst e0 e1 e2 e3 e4_0 e4_1 e4_2 e4_3 e4_4 e4_5 e4_6 e4_7 e4_8 e4_9 e5 e6 e7
    refine ⟨.mk k op nm se v.k v.b (l0 v.n) (l1 v.n) (l2 v.n) (l3 v.n) v.s v.f v.t v.e sc po pa cap A, ⟨⟨hS.1, fun i y hy => ⟨?_, (hL y (List.mem_of_getElem? hy)).1⟩⟩, u4_lb v.n, fun y hy => (hL y hy).2⟩, rfl⟩
    obtain ⟨b, o, h1, _, h2⟩ := hS.2 i y hy
    exact ⟨b, o, h1, h2⟩
set_option maxRecDepth 100000 in
theorem cut_ty {fuel : Nat} {cs : List Value} {x : DataW H × List MemPlace} (h : DataW.trod enc Tryz.prog W 0 sp true fuel 42 cs = some x) : ∃ k s : Int, cs = [.int .i64 k, .int .i64 s] := by
  obtain ⟨xs, m, rfl, _, hl, hlen, hi⟩ := DataW.trod_struct Tryz.underlying42 h
  rw [cl_ty] at hl
  obtain ⟨c0, c1, rfl⟩ : ∃ c0 c1, cs = [c0, c1] := by
    match cs, hl with
    | [a0, a1], _ => exact ⟨a0, a1, rfl⟩
  obtain ⟨y0, y1, rfl⟩ : ∃ y0 y1, xs = [y0, y1] := by
    match xs, hlen with
    | [a0, a1], _ => exact ⟨a0, a1, rfl⟩
  have i0 := hi 0 _ rfl
  have i1 := hi 1 _ rfl
  simp [cl_int] at i0 i1
  obtain ⟨k, e0, _, f0⟩ := DataW.trod_int Tryz.underlying3 i0
  obtain ⟨s, e1, _, f1⟩ := DataW.trod_int Tryz.underlying3 i1
  simp at e0 e1
  subst e0 e1
  exact ⟨k, s, rfl⟩
set_option maxRecDepth 100000 in
theorem cut_it {fuel : Nat} {cs : List Value} {x : DataW H × List MemPlace} (h : DataW.trod enc Tryz.prog W 0 sp true fuel 44 cs = some x) : ∃ (d : Nat) (i : It), (LT W d i.x ∧ XU d i.x) ∧ cs = i.c := by
  obtain ⟨xs, m, rfl, _, hl, hlen, hi⟩ := DataW.trod_struct Tryz.underlying44 h
  rw [cl_it] at hl
  obtain ⟨c0, c1, c2, c3, c4, c5, c6, c7, c8, c9, c10, c11, c12, c13, c14, c15, c16, c17, c18, c19, c20, c21, c22, rfl⟩ : ∃ c0 c1 c2 c3 c4 c5 c6 c7 c8 c9 c10 c11 c12 c13 c14 c15 c16 c17 c18 c19 c20 c21 c22, cs = [c0, c1, c2, c3, c4, c5, c6, c7, c8, c9, c10, c11, c12, c13, c14, c15, c16, c17, c18, c19, c20, c21, c22] := by
    match cs, hl with
    | [a0, a1, a2, a3, a4, a5, a6, a7, a8, a9, a10, a11, a12, a13, a14, a15, a16, a17, a18, a19, a20, a21, a22], _ => exact ⟨a0, a1, a2, a3, a4, a5, a6, a7, a8, a9, a10, a11, a12, a13, a14, a15, a16, a17, a18, a19, a20, a21, a22, rfl⟩
  obtain ⟨y0, y1, y2, y3, y4, y5, rfl⟩ : ∃ y0 y1 y2 y3 y4 y5, xs = [y0, y1, y2, y3, y4, y5] := by
    match xs, hlen with
    | [a0, a1, a2, a3, a4, a5], _ => exact ⟨a0, a1, a2, a3, a4, a5, rfl⟩
  have i0 := hi 0 _ rfl
  have i1 := hi 1 _ rfl
  have i2 := hi 2 _ rfl
  have i3 := hi 3 _ rfl
  have i4 := hi 4 _ rfl
  have i5 := hi 5 _ rfl
  simp [cl_string, cl_int, cl_ty, cl_bool, cl_ex] at i0 i1 i2 i3 i4 i5
  obtain ⟨nm, e0, _, _⟩ := DataW.trod_string Tryz.underlying9 i0
  obtain ⟨k, e1, _, f1⟩ := DataW.trod_int Tryz.underlying3 i1
  obtain ⟨tk, ts, e2⟩ := cut_ty i2
  obtain ⟨nd, e3, _⟩ := DataW.trod_bool Tryz.underlying4 i3
  obtain ⟨pl, e4, _, f4⟩ := DataW.trod_int Tryz.underlying3 i4
  obtain ⟨z, hz, e5⟩ := cut_ex _ i5
  simp only [Ex.c] at e5
  simp at e0 e1 e2 e3 e4 e5
  obtain ⟨e2_0, e2_1⟩ := e2
  obtain ⟨e5_0, e5_1, e5_2, e5_3, e5_4, e5_5, e5_6, e5_7, e5_8, e5_9, e5_10, e5_11, e5_12, e5_13, e5_14, e5_15, e5_16⟩ := e5
  subst e0 e1 e2_0 e2_1 e3 e4 e5_0 e5_1 e5_2 e5_3 e5_4 e5_5 e5_6 e5_7 e5_8 e5_9 e5_10 e5_11 e5_12 e5_13 e5_14 e5_15 e5_16
  exact ⟨_, ⟨nm, k, tk, ts, nd, pl, z⟩, hz, rfl⟩
/-- Pairs of a map that came in. -/
theorem cut_map {fuel : Nat} {x : DataW H × List MemPlace} {t kt vt : TypeId} {κ β : Type} {ek : κ → Value} {ev : β → Value} {ok : β → Prop} (hu : Tryz.prog.underlying t = some (.map kt vt))
    (hk : ∀ v l, keyOf Tryz.prog kt v = some l → ∃ a, v = ek a) (hv : ∀ {n : Nat} {v : Value} {y : DataW H × List MemPlace}, v.formed Tryz.prog vt = true → DataW.trod enc Tryz.prog W 0 sp true n vt v.cells.toList = some y → ∃ b, ok b ∧ v = ev b) {v : Value}
    (h : DataW.trod enc Tryz.prog W 0 sp true fuel t [v] = some x) : ∃ (r : Option Nat) (al : List (κ × β)), v = .map r ∧ MapV W ek ev v al ∧ ∀ p ∈ al, ok p.2 := by
  rcases WideElems.open_map hu h with ⟨h1, _⟩ | ⟨b, es, clock, n, _, h1, hb, _, F, _⟩
  · simp at h1; subst h1
    exact ⟨none, [], rfl, Or.inl ⟨rfl, rfl⟩, fun _ q => by cases q⟩
  · simp at h1; subst h1
    have key : ∀ (l : List MapEntry), (∀ y ∈ l, ∃ z, WideElems.rd Tryz.prog kt (WideElems.elemAt enc Tryz.prog W 0 sp true n vt) y = some z) → ∃ al : List (κ × β), l.map (fun e => (e.key, e.val)) = prB ek ev al ∧ ∀ p ∈ al, ok p.2 := by
      intro l
      induction l with
      | nil => exact fun _ => ⟨[], rfl, fun _ q => by cases q⟩
      | cons e l ih =>
        intro hl
        obtain ⟨al, h2, h3⟩ := ih fun y hy => hl y (List.mem_cons_of_mem _ hy)
        obtain ⟨z, hz⟩ := hl e (List.mem_cons_self ..)
        obtain ⟨a, ha⟩ := hk _ _ (WideElems.rd_key hz)
        obtain ⟨bb, hb1, hb2⟩ : ∃ b, ok b ∧ e.val = ev b := by
          unfold WideElems.rd WideElems.elemAt at hz
          simp only [Option.bind_eq_some_iff, Option.map_eq_some_iff] at hz
          obtain ⟨_, _, y, hy, _⟩ := hz
          by_cases hf : e.val.formed Tryz.prog vt = true
          · rw [if_pos hf] at hy; exact hv hf hy
          · simp [hf] at hy
        refine ⟨(a, bb) :: al, by simp [h2, ha, hb2], fun p hp => ?_⟩
        rcases List.mem_cons.1 hp with rfl | hp
        · exact hb1
        · exact h3 p hp
    obtain ⟨al, h2, h3⟩ := key es.toList F.reads
    exact ⟨some b, al, rfl, Or.inr ⟨b, es, _, rfl, hb, h2⟩, h3⟩
end
end D
end Go.Proofs.YtfmfeipeeedfpaaGreat
namespace Go.Proofs.YtfmfeipeeedfpaaGreat
open Go.ChangeShapes Go.WideShapes Go.ChangeAt Go.RowKit
open S (Lies)
namespace D
set_option maxRecDepth 100000 in
theorem fm_agg {t : TypeId} {fs : Array Field} (hu : Tryz.prog.underlying t = some (.struct fs)) {v : Value} (h : v.formed Tryz.prog t = true) : ∃ cs, v = .agg cs := by
  cases v with
  | agg cs => exact ⟨cs, rfl⟩
  | _ => unfold Value.formed at h; rw [hu] at h; first | cases h | (simp at h)
set_option maxRecDepth 100000 in
theorem key9 (v : Value) (l : Lit) (h : keyOf Tryz.prog 9 v = some l) : ∃ s, v = es9 s := by
  unfold keyOf at h
  rw [Tryz.underlying9] at h
  dsimp only at h
  unfold mapKey at h
  rw [Tryz.underlying9] at h
  cases v with
  | string s => exact ⟨s, rfl⟩
  | _ => simp at h
set_option maxRecDepth 100000 in
theorem kl9 {d : Nat} {c : Value} {l : List Lit} (h : Tryz.prog.keyLits d 9 [c] = some l) : ∃ s, c = .string s := by
  cases d with
  | zero => simp [Program.keyLits] at h
  | succ d =>
    unfold Program.keyLits at h
    rw [Tryz.underlying9] at h
    cases c with
    | string s => exact ⟨s, rfl⟩
    | _ => simp at h
set_option maxRecDepth 100000 in
theorem key53 (v : Value) (l : Lit) (h : keyOf Tryz.prog 53 v = some l) : ∃ p, v = es53 p := by
  unfold keyOf at h
  rw [ht53] at h
  dsimp only at h
  split at h
  next hq =>
    have hf : v.formed Tryz.prog 53 = true := by simp only [Bool.and_eq_true] at hq; exact hq.2
    obtain ⟨cs, rfl⟩ := fm_agg ht53 hf
    have hs : cs.size = 2 := by
      unfold Value.formed at hf
      rw [ht53] at hf
      have : cs.size = Tryz.prog.cellsOf 53 := by simpa using hf
      rw [this, cl_ck]
    obtain ⟨c0, c1, rfl⟩ : ∃ c0 c1, cs = #[c0, c1] := by
      match cs, hs with
      | ⟨[a, b]⟩, _ => exact ⟨a, b, rfl⟩
    cases e : Tryz.prog.keyLits (Tryz.prog.types.size + 1) 53 (Value.agg #[c0, c1]).cells.toList with
    | none => rw [e] at h; cases h
    | some ls =>
      clear h
      unfold Program.keyLits at e
      rw [ht53] at e
      dsimp only at e
      have hfo := fo53
      have hcl : Tryz.prog.cellsOf 53 = 2 := cl_ck
      split at e
      · generalize (Tryz.prog.fieldsOf 53).toList = L at hfo e
        have hl : L.length = 2 := by have := congrArg List.length hfo; simpa using this
        match L, hl with
        | [f0, f1], _ =>
          simp at hfo
          obtain ⟨⟨a0, a1, a2⟩, ⟨b0, b1, b2⟩⟩ := hfo
          have hc9 : Tryz.prog.cellsOf 9 = 1 := cl_string
          have hce : (Value.agg #[c0, c1]).cells.toList = [c0, c1] := rfl
          rw [hce] at e
          simp only [List.mapM_cons, List.mapM_nil, a1, a2, b1, b2, hc9, List.drop_zero, List.take_succ_cons, List.take_zero, List.drop_succ_cons, Option.map_eq_some_iff, Option.bind_eq_bind, Option.bind_eq_some_iff] at e
          obtain ⟨_, ⟨l0, h0, _, ⟨l1, h1, _⟩, _⟩, _⟩ := e
          obtain ⟨s, rfl⟩ := kl9 h0
          obtain ⟨t, rfl⟩ := kl9 h1
          exact ⟨(s, t), rfl⟩
      · cases e
  next => cases h
section
variable {H : Type} {enc : TypeId × Value → H} {W : World} {sp : Nat → Bool}
theorem mv28 {n : Nat} {v : Value} {y : DataW H × List MemPlace} (hf : v.formed Tryz.prog 28 = true) (h : DataW.trod enc Tryz.prog W 0 sp true n 28 v.cells.toList = some y) : ∃ b : VL, b.ok ∧ v = b.v := by
  obtain ⟨cs, rfl⟩ := fm_agg Tryz.underlying28 hf
  obtain ⟨b, hb, e⟩ := cut_vl h
  exact ⟨b, hb, by rw [VL.v, ← e]; rfl⟩
theorem mv66 {n : Nat} {v : Value} {y : DataW H × List MemPlace} (hf : v.formed Tryz.prog 66 = true) (h : DataW.trod enc Tryz.prog W 0 sp true n 66 v.cells.toList = some y) : ∃ b : CL, b.m.ok ∧ v = b.v := by
  obtain ⟨cs, rfl⟩ := fm_agg Tryz.underlying66 hf
  obtain ⟨b, hb, e⟩ := cut_cl h
  exact ⟨b, hb, by rw [CL.v, ← e]; rfl⟩
set_option maxRecDepth 100000 in
theorem cut_ev {fuel : Nat} {cs : List Value} {x : DataW H × List MemPlace} (h : DataW.trod enc Tryz.prog W 0 sp true fuel 36 cs = some x) : ∃ e : Ev, EvL W e ∧ cs = e.cells := by
  obtain ⟨xs, m, rfl, _, hl, hlen, hi⟩ := DataW.trod_struct Tryz.underlying36 h
  rw [cl_ev] at hl
  obtain ⟨c0, c1, c2, rfl⟩ : ∃ c0 c1 c2, cs = [c0, c1, c2] := by
    match cs, hl with
    | [a0, a1, a2], _ => exact ⟨a0, a1, a2, rfl⟩
  obtain ⟨y0, y1, y2, rfl⟩ : ∃ y0 y1 y2, xs = [y0, y1, y2] := by
    match xs, hlen with
    | [a0, a1, a2], _ => exact ⟨a0, a1, a2, rfl⟩
  have i0 := hi 0 _ rfl
  have i1 := hi 1 _ rfl
  have i2 := hi 2 _ rfl
  simp [cl_mn, cl_mc, cl_stb] at i0 i1 i2
  obtain ⟨r0, N, rfl, hN, hN2⟩ := cut_map (ok := VL.ok) u32 key9 mv28 i0
  obtain ⟨r1, C, rfl, hC, hC2⟩ := cut_map (ok := fun c : CL => c.m.ok) u33 key53 mv66 i1
  obtain ⟨L, pa, cap, rfl, hL, hS, _⟩ := cut_sl Tryz.underlying34 (n := 2) (by decide) cl_tb Tb.cells ⟨⟨#[]⟩, none, 0, []⟩ (TbL W) (fun _ => rfl) (fun _ h => cut_tb h) i2
  exact ⟨⟨r0, r1, pa, cap, N, C, L⟩, ⟨hN, hC, hN2, hC2, fun i y hy => by
    obtain ⟨b, o, h1, _, h2⟩ := hS.2 i y hy
    exact ⟨b, o, h1, h2⟩, hL, hS.1⟩, rfl⟩
end
end D
open D
section
variable {H : Type} {enc : TypeId × Value → H} {W : World} {base : Nat} {v : Value} {d : DataW H} {p : List MemPlace}
set_option maxRecDepth 100000 in
theorem open_ev (hv : Value.okWide Tryz.prog W .any base 36 v) (h : DataW.Trod enc Tryz.prog W 0 (fun _ => true) true 36 v d p) : ∃ e : Ev, EvL W e ∧ v = e.v := by
  obtain ⟨a, rfl, _⟩ := okWide_struct Tryz.underlying36 hv
  obtain ⟨fuel, hf⟩ := h
  obtain ⟨e, he, h1⟩ := cut_ev hf
  exact ⟨e, he, by rw [Ev.v, ← h1]; simp [Value.cells]⟩
set_option maxRecDepth 100000 in
theorem open_it (hv : Value.okWide Tryz.prog W .any base 44 v) (h : DataW.Trod enc Tryz.prog W 0 (fun _ => true) true 44 v d p) : ∃ (n : Nat) (i : It), (LT W n i.x ∧ XU n i.x) ∧ v = .agg i.c.toArray := by
  obtain ⟨a, rfl, _⟩ := okWide_struct Tryz.underlying44 hv
  obtain ⟨fuel, hf⟩ := h
  obtain ⟨n, i, hi, h1⟩ := cut_it hf
  exact ⟨n, i, hi, by rw [← h1]; simp [Value.cells]⟩
set_option maxRecDepth 100000 in
theorem open_ex (hv : Value.okWide Tryz.prog W .any base 31 v) (h : DataW.Trod enc Tryz.prog W 0 (fun _ => true) true 31 v d p) : ∃ (n : Nat) (x : Ex), (LT W n x ∧ XU n x) ∧ v = .agg x.c.toArray := by
  obtain ⟨a, rfl, _⟩ := okWide_struct Tryz.underlying31 hv
  obtain ⟨fuel, hf⟩ := h
  obtain ⟨x, hx, h1⟩ := cut_ex fuel hf
  exact ⟨fuel, x, hx, by rw [← h1]; simp [Value.cells]⟩
end
theorem laidOut : laidOutB Tryz.prog = true := by kernel_rfl
/-- What came in reads as it did, where its places are the same. -/
theorem trodAll_stays {H : Type} {enc : TypeId × Value → H} {W W' : World} {sp' : Nat → Bool} : ∀ {ts : List TypeId} {vs : List Value} {ds : List (DataW H)} {ps : List MemPlace}, (∀ t ∈ ts, Tryz.prog.readableRec t = true ∧ t < Tryz.prog.types.size) → DataW.TrodAll enc Tryz.prog W 0 (fun _ => true) true ts vs ds ps → (∀ p ∈ ps, W.sameAt W' p) → (∀ p ∈ ps, sp' p.block = true) → DataW.TrodAll enc Tryz.prog W' 0 sp' true ts vs ds ps
  | [], [], [], _, _, h, _, _ => h
  | _ :: _, _ :: _, _ :: _, _, hT, ⟨p, q, h1, h2, e⟩, hm, hs => ⟨p, q, WideElems.Trod_stays laidOut (hT _ (List.mem_cons.2 (Or.inl rfl))).1 (hT _ (List.mem_cons.2 (Or.inl rfl))).2 h1 (fun x hx => hm x (by rw [e]; exact List.mem_append_left _ hx)) (fun x hx => hs x (by rw [e]; exact List.mem_append_left _ hx)),
      trodAll_stays (fun t ht => hT t (List.mem_cons.2 (Or.inr ht))) h2 (fun x hx => hm x (by rw [e]; exact List.mem_append_right _ hx)) (fun x hx => hs x (by rw [e]; exact List.mem_append_right _ hx)), e⟩
/-- The end of a row: what was there has not turned. -/
theorem post_mw {H : Type} {enc : TypeId × Value → H} {P : Program} {f : Func} {s : ChangeSpec} {apart fresh handsOn : Bool} {W W' : World} {args : Array Value} {v : Value} {ds gs : List (DataW H)} {p : List MemPlace}
    (hW : DataW.Whole enc P f.params.toList s.vars apart W args.toList ds gs p)
    (hres : ∀ (b : Nat) (sp : Nat → Bool) (hd : Bool), DataW.TrodAll enc P W' b sp hd f.resultTypes.toList (v.resultList f.resultTypes.size) (s.fn H (ds ++ gs)).results [])
    (hargs : ∀ sp : Nat → Bool, (∀ x ∈ p, sp x.block = true) → DataW.TrodAll enc P W' 0 sp true f.params.toList args.toList (s.fn H (ds ++ gs)).args p)
    (hvars : ∀ sp : Nat → Bool, DataW.TrodVars enc P W' sp s.vars (s.fn H (ds ++ gs)).vars []) (hk : Below W.heap.size W W') :
    s.post enc P f apart fresh handsOn false W args v W' :=
  ⟨ds, gs, p, [], p, [], hW, hres _ _ _, hargs _ (fun x hx => by simpa using hW.lt x hx), hvars _, World.keptBut_mono (fun x hx => ⟨hx, Or.inr (Or.inl hx)⟩) (Below.frame hk (· ∈ p)), fun h => by cases h⟩
end Go.Proofs.YtfmfeipeeedfpaaGreat
