/-
  One more comes up; all have come up. Calls whose answers are known. Code, calls: what was reckoned of a closed call is what each run of it does. Calls that the model stands in for; live. What live answers. The law FormulaStays. What came in, cut: numbers, values, tables, columns, expressions, items, what is handed in to evaluate in. What is handed in to evaluate in, and items, opened. Expressions that came in: how many nodes their reading has. Calls that come to something in new memory: what is told of grows with them. Folding: the pure side; trees in new memory. Folding: the program's small calls. Folding: the program. Folding: Fold of the program, whole. Tables that are handed in, opened. Folding: what comes of it, by itself: constants that were folded; folded twice; evaluated. The document's Ten, whatever the number: the walk. Division bit by bit: plain arithmetic, no program in sight. The document's Bit, whatever the number: the walks. The document's Div, whatever the numbers: the walk. Decimals as the document says them: numbers of twice as many bits, sums, differences, how two stand.
-/
import Derived.Test.YtfmfeipeeedfpaaGreatKe
import Derived.Scope
import Derived.Laws.Externs
import Derived.KernelRfl
import Derived.Test.YtfmfeipeeedfpaaGreatKd
import Derived.Test.YtfmfeipeeedfpaaGreatRows
import Derived.ProofKit
import Derived.OpenShut
import Derived.ChangeArms
import Derived.Deep.Slices
import Derived.Deep.MidRow
import Derived.ReadAgain
import Derived.WideKeyArgs
import Derived.WideKeyElems2
import Derived.JoinedCond
import Derived.Carry
import Derived.ChangeMaps5
import Derived.SizedLaws
import Derived.Test.YtfmfeipeeedfpaaGreatKb
import Derived.Test.YtfmfeipeeedfpaaGreatKc
namespace Go.Proofs.YtfmfeipeeedfpaaGreat
namespace E
open Go.CheckFast (force force_eq)
section
variable {P : Program} {ops : Array Oper} {st : Nat → RL} {r w : Nat → Nat} {v : Nat → Value} {RR WW : Nat → Prop} {k0 : K} {W0 : World}
theorem Iv.step (D : ∀ i o, ops[i]? = some o → Dt P ops st r w v i o) (nn : ∀ i, (st 0).n ≤ i → hget (st 0).h i = none) (hle : (st 0).f.m ≤ 256)
    (hdh : drawn (bef ops) ops.size (dl (fun i => (r i, w i)) ops.size) = true) (hdt : drawn (bef ops) ops.size (dl (fun i => (lookT ops (ops.getD i default), setT (ops.getD i default))) ops.size) = true)
    (hRr : ∀ j, j < ops.size → ∀ i, tb (r j) i → RR i) (hRw : ∀ j, j < ops.size → ∀ i, tb (w j) i → RR i) (hWw : ∀ j, j < ops.size → ∀ i, tb (w j) i → WW i)
    {listed : Array Bool} {a : Act} {W : World} {k : K} (I : Iv ops st w RR WW k0 W0 listed a W k) (hsz : listed.size = ops.size) {i : Nat} {o : Oper} (ho : ops[i]? = some o) (hu : listed.getD i true = false)
    (hall : ∀ e ∈ o.after, Region.binds .any e = true → listed.getD e.on false = true) (Q : Exit → Act → World → Prop) (K' : Act → World → Prop)
    (hK : ∀ a' W' k', Iv ops st w RR WW k0 W0 (listed.setIfInBounds i true) a' W' k' → K' a' W') :
    if Region.wanted o (yielded ops a.tmps) = true then o.wp P a W K' Q else K' (a.put o.dst undef) W := by
  have hi := (Array.getElem?_eq_some_iff.1 ho).1
  have hil : i < listed.size := by omega
  have hu' : ¬ listed.getD i false = true := by simp [hil] at hu ⊢; exact hu
  have hgd : ops.getD i default = o := by simp [hi] at ho ⊢; exact ho
  have hL : ∀ j, j ≠ i → ((listed.setIfInBounds i true).getD j false = true ↔ listed.getD j false = true) := fun j hj => by rw [getD_set_ne false (Ne.symm hj)]
  have hLi : (listed.setIfInBounds i true).getD i false = true := by simp [hil]
  have nni := st_nn D nn
  have d := D i o ho
  -- cuts at the operation itself
  have ch : ∀ m, (tb (r i) m ∨ tb (w i) m) → Cn ops.size (fun j => listed.getD j false = true) (fun j => tb (w j) m) i := fun m hm j hj hw => order hdh I.sh ho hu' hall (m := m) hm j hj hw
  have ct : ∀ t, (tb (lookT ops o) t ∨ wt ops t i) → Cn ops.size (fun j => listed.getD j false = true) (wt ops t) i := fun t ht j hj hw => by
    refine order hdt I.sh ho hu' hall (m := t) ?_ j hj ?_
    · rw [hgd]; exact ht.imp id (wt_tb ho).1
    · have : ops.getD j default = ops[j] := by simp [hj]
      rw [this]; exact (wt_tb (op_at hj)).1 hw
  -- a place that the operation writes, at a cut behind it
  have wcut : ∀ (wr : Nat → Prop) c, wr i → Cn ops.size (fun j => listed.getD j false = true) wr i → Cn ops.size (fun j => (listed.setIfInBounds i true).getD j false = true) wr c → i < c ∧ ∀ j, i + 1 ≤ j → j < c → j < ops.size → ¬ wr j := by
    intro wr c hwi h1 h2
    refine ⟨(h2 i hi hwi).1 hLi, fun j hj hjc hjs hw => ?_⟩
    have h3 : (listed.setIfInBounds i true).getD j false = true := (h2 j hjs hw).2 hjc
    rw [hL j (by omega)] at h3
    have := (h1 j hjs hw).1 h3
    omega
  have hsame : ∀ m c, c ≤ ops.size → tb (w i) m → Cn ops.size (fun j => (listed.setIfInBounds i true).getD j false = true) (fun j => tb (w j) m) c → hget (st c).h m = hget (st (i + 1)).h m := fun m c hc hm h => by
    obtain ⟨h1, h2⟩ := wcut (fun j => tb (w j) m) c hm (ch m (Or.inr hm)) h
    exact st_h D h1 hc (fun j a b => h2 j a b (by omega))
  have hold : ∀ m c, ¬ tb (w i) m → Cn ops.size (fun j => (listed.setIfInBounds i true).getD j false = true) (fun j => tb (w j) m) c → Cn ops.size (fun j => listed.getD j false = true) (fun j => tb (w j) m) c := fun m c hm h => Cn.same hL hm h
  refine d.ok k W a K' Q (by rw [st_m D i (by omega)]; exact I.m) (fun y hy => ev_of y fun t ht => ?_) (fun j b t hg ht => ?_) ⟨fun m hm => ?_, fun m m' hm hm' => ?_⟩ (fun m h1 h2 => I.new i hi hu' m h1 h2) (fun u W' k' hd hv => hK _ _ k' ?_)
  · subst ht; exact I.fr t i (by omega) (ct t (Or.inl (look_op hy)))
  · exact I.fr t i (by omega) (ct t (Or.inl (look_guard hg ht)))
  · exact I.hp m i (by omega) (hRr i hi m hm) (ch m (Or.inl hm))
  · exact I.inj m m' i i (by omega) (by omega) (hRr i hi m hm) (hRr i hi m' hm') (ch m (Or.inl hm)) (ch m' (Or.inl hm'))
  -- what lived there and was not written
  have hkk : ∀ m c, c ≤ ops.size → RR m → ¬ tb (w i) m → Cn ops.size (fun j => listed.getD j false = true) (fun j => tb (w j) m) c → live (st c).h m → ∀ b z, k' m = some (b, z) → k m = some (b, z) ∧ b < W.heap.size := fun m c hc hR hm h hl b z hk => by
    obtain ⟨b', z', e1, e2⟩ := (I.hp m c hc hR h).lt hl
    have := hd.ext m _ e1
    rw [hk] at this; cases this
    exact ⟨e1, e2⟩
  have hlo : ∀ m, live (st i).h m → m < (st i).n := fun m hl => by
    rcases Nat.lt_or_ge m (st i).n with h' | h'
    · exact h'
    · exact absurd hl (not_live (nni i (by omega) m h'))
  have hlo1 : ∀ m, live (st (i + 1)).h m → m < (st (i + 1)).n := fun m hl => by
    rcases Nat.lt_or_ge m (st (i + 1)).n with h' | h'
    · exact h'
    · exact absurd hl (not_live (nni (i + 1) (by omega) m h'))
  have hmix : ∀ m m' c c', c ≤ ops.size → c' ≤ ops.size → RR m → RR m' → ¬ tb (w i) m → tb (w i) m' → Cn ops.size (fun j => (listed.setIfInBounds i true).getD j false = true) (fun j => tb (w j) m) c → Cn ops.size (fun j => (listed.setIfInBounds i true).getD j false = true) (fun j => tb (w j) m') c' →
      live (st c).h m → live (st c').h m' → m ≠ m' → ∀ b z b' z', k' m = some (b, z) → k' m' = some (b', z') → b ≠ b' := by
    intro m m' c c' hc hc' hR hR' hm hm' h h' hl hl' hne b z b' z' ek ek'
    have h0 := hold m c hm h
    obtain ⟨km, hb⟩ := hkk m c hc hR hm h0 hl b z ek
    have hl1 : live (st (i + 1)).h m' := by obtain ⟨cs, e⟩ := hl'; exact ⟨cs, by rw [← hsame m' c' hc' hm' h']; exact e⟩
    rcases Nat.lt_or_ge m' (st i).n with hn | hn
    · have hl0 := d.ss.back m' hn hl1
      rw [hd.dom m' (Or.inl hn)] at ek'
      exact I.inj m m' c i hc (by omega) hR hR' h0 (ch m' (Or.inr hm')) hl hl0 hne b z b' z' km ek'
    · rcases hd.fresh m' b' z' hn (hlo1 m' hl1) hl1 ek' with hB | ⟨j, zj, j1, j2, j3, _, j5⟩
      · omega
      · exact I.inj m j c i hc (by omega) hR (hRw i hi j j1) h0 (ch j (Or.inr j1)) hl j3 (fun e => hm (e ▸ j1)) b z b' zj km j5
  -- what was let go stays so
  have hdead : ∀ j, j < (st 0).n → (∀ c', c' ≤ ops.size → Cn ops.size (fun j => listed.getD j false = true) (fun i => tb (w i) j) c' → ¬ live (st c').h j) → ∀ c', c' ≤ ops.size → Cn ops.size (fun j => (listed.setIfInBounds i true).getD j false = true) (fun i => tb (w i) j) c' → ¬ live (st c').h j := by
    intro j hj h c' hc' hcn hl
    by_cases hw : tb (w i) j
    · have hl1 : live (st (i + 1)).h j := by obtain ⟨cs, e⟩ := hl; exact ⟨cs, by rw [← hsame j c' hc' hw hcn]; exact e⟩
      exact h i (by omega) (ch j (Or.inr hw)) (d.ss.back j (Nat.lt_of_lt_of_le hj (st_n D (Nat.zero_le i) (by omega))) hl1)
    · exact h c' hc' (hold j c' hw hcn) hl
  have hfresh : ∀ m b z, (st 0).n ≤ m → m < (st i).n → (tb (r i) m ∨ tb (w i) m) → live (st i).h m → k m = some (b, z) → W0.heap.size ≤ b ∨ ∃ j z', WW j ∧ j < (st 0).n ∧ live (st 0).h j ∧ (∀ c', c' ≤ ops.size → Cn ops.size (fun j => (listed.setIfInBounds i true).getD j false = true) (fun i => tb (w i) j) c' → ¬ live (st c').h j) ∧ k0 j = some (b, z') := by
    intro m b z h1 h2 h3 h4 h5
    rcases I.fresh m i b z (by omega) (h3.elim (hRr i hi m) (hRw i hi m)) (ch m h3) h1 (Nat.lt_of_lt_of_le h2 (st_n D (by omega) (Nat.le_refl _))) h4 h5 with h | ⟨j, z', a1, a2, a3, a4, a5⟩
    · exact Or.inl h
    · exact Or.inr ⟨j, z', a1, a2, a3, hdead j a2 a4, a5⟩
  refine ⟨?_, ?_, ?_, ?_, ?_, ?_, fun m p hp => hd.ext m p (I.ext m p hp), ?_, ?_, ?_, ?_, Nat.le_trans I.size hd.size, hd.os.trans I.os, hd.tape.trans I.tape, hd.output.trans I.output, fun x => (hd.fz x).trans (I.fz x)⟩
  · intro j oj hoj hlj e he hb
    by_cases hji : j = i
    · subst hji
      rw [ho] at hoj; cases hoj
      exact getD_set_true (hall e he hb)
    · rw [hL j hji] at hlj
      exact getD_set_true (I.sh j oj hoj hlj e he hb)
  · rw [put_sz]; exact I.m
  · rw [put_df]; exact I.df
  · intro t c hc hcn
    by_cases hw : wt ops t i
    · obtain ⟨h1, h2⟩ := wcut (wt ops t) c hw (ct t (Or.inr hw)) hcn
      rw [st_f D hle h1 hc (fun j a b => h2 j a b (by omega)), d.f]
      exact put_get (by rw [st_m D i (by omega)]; exact I.m) (by rw [st_m D i (by omega)]; exact hle) hv t ((I.fr t i (by omega) (ct t (Or.inr hw))).mono hd.ext)
    · rw [put_other (fun e => hw ⟨o, ho, e⟩)]
      exact (I.fr t c hc (Cn.same hL hw hcn)).mono hd.ext
  · intro m c hc hR hcn
    by_cases hw : tb (w i) m
    · intro cs hcs
      rw [hsame m c hc hw hcn] at hcs
      exact hd.rep.rep m (tb_or.2 (Or.inr hw)) cs hcs
    · intro cs hcs
      have h0 := hold m c hw hcn
      refine (I.hp m c hc hR h0 cs hcs).mono (hd.ext m) (fun b z e1 hb => ?_) (fun us => LX.mono hd.ext)
      refine hd.frm b hb (fun j z hj hl hk => ?_)
      exact I.inj m j c i hc (by omega) hR (hRw i hi j hj) h0 (ch j (Or.inr hj)) ⟨cs, hcs⟩ hl (fun e => hw (e ▸ hj)) _ _ _ _ e1 hk rfl
  · intro m m' c c' hc hc' hR hR' hcn hcn' hl hl' hne b z b' z' ek ek'
    by_cases hw : tb (w i) m <;> by_cases hw' : tb (w i) m'
    · have e1 := hsame m c hc hw hcn
      have e2 := hsame m' c' hc' hw' hcn'
      obtain ⟨cs, e⟩ := hl
      obtain ⟨cs', e'⟩ := hl'
      exact hd.rep.inj m m' (tb_or.2 (Or.inr hw)) (tb_or.2 (Or.inr hw')) ⟨cs, by rw [← e1]; exact e⟩ ⟨cs', by rw [← e2]; exact e'⟩ hne b z b' z' ek ek'
    · exact fun e => hmix m' m c' c hc' hc hR' hR hw' hw hcn' hcn hl' hl (Ne.symm hne) b' z' b z ek' ek e.symm
    · exact hmix m m' c c' hc hc' hR hR' hw hw' hcn hcn' hl hl' hne b z b' z' ek ek'
    · have h0 := hold m c hw hcn
      have h0' := hold m' c' hw' hcn'
      exact I.inj m m' c c' hc hc' hR hR' h0 h0' hl hl' hne b z b' z' (hkk m c hc hR hw h0 hl b z ek).1 (hkk m' c' hc' hR' hw' h0' hl' b' z' ek').1
  · intro m hm
    have h1 := st_n D (Nat.zero_le i) (by omega)
    have h2 := st_n D (show i + 1 ≤ ops.size by omega) (Nat.le_refl _)
    rw [hd.dom m (by omega)]
    exact I.dom m hm
  · intro j hj hnl m h1 h2
    by_cases hji : j = i
    · subst hji; exact absurd hLi hnl
    · rw [hL j hji] at hnl
      have : k' m = k m := by
        rcases Nat.lt_or_ge j i with h | h
        · exact hd.dom m (Or.inl (Nat.lt_of_lt_of_le h2 (st_n D h (by omega))))
        · exact hd.dom m (Or.inr (Nat.le_trans (st_n D (show i + 1 ≤ j by omega) (by omega)) h1))
      rw [this]
      exact I.new j hj hnl m h1 h2
  · intro b hb hj
    rw [hd.frm b (Nat.lt_of_lt_of_le hb I.size) (fun j z hw hl hk => ?_)]
    · exact I.frm b hb hj
    · rcases Nat.lt_or_ge j (st 0).n with hjn | hjn
      · have hin := st_n D (Nat.zero_le i) (by omega)
        exact hj j z (hWw i hi j hw) (st_back D hjn i (by omega) hl) (by rw [← I.dom j (Or.inl hjn)]; exact hk)
      · rcases hfresh j b z hjn (hlo j hl) (Or.inr hw) hl hk with h' | ⟨j0, z0, a1, a2, a3, _, a5⟩
        · omega
        · exact hj j0 z0 a1 a3 a5
  · intro m c b z hc hR hcn hm1 hm2 hl hk
    by_cases hw : tb (w i) m
    · have hl1 : live (st (i + 1)).h m := by obtain ⟨cs, e⟩ := hl; exact ⟨cs, by rw [← hsame m c hc hw hcn]; exact e⟩
      rcases Nat.lt_or_ge m (st i).n with hn | hn
      · rw [hd.dom m (Or.inl hn)] at hk
        exact hfresh m b z hm1 hn (Or.inr hw) (d.ss.back m hn hl1) hk
      · rcases hd.fresh m b z hn (hlo1 m hl1) hl1 hk with hB | ⟨j, zj, j1, j2, j3, j4, j5⟩
        · exact Or.inl (Nat.le_trans I.size hB)
        · rcases Nat.lt_or_ge j (st 0).n with hjn | hjn
          · refine Or.inr ⟨j, zj, hWw i hi j j1, hjn, st_back D hjn i (by omega) j3, fun c' hc' hcn' hl' => ?_, by rw [← I.dom j (Or.inl hjn)]; exact j5⟩
            obtain ⟨cs, e⟩ := hl'
            exact j4 ⟨cs, by rw [← hsame j c' hc' j1 hcn']; exact e⟩
          · exact hfresh j b zj hjn j2 (Or.inr j1) j3 j5
    · have h0 := hold m c hw hcn
      rcases I.fresh m c b z hc hR h0 hm1 hm2 hl (hkk m c hc hR hw h0 hl b z hk).1 with h | ⟨j, z', a1, a2, a3, a4, a5⟩
      · exact Or.inl h
      · exact Or.inr ⟨j, z', a1, a2, a3, hdead j a2 a4, a5⟩
theorem draw_ok {cf : Nat → List Value → HT → Nat → Option R5} (hcf : Cs P cf) (hmo : P.follows .mixedOrders = true) {s s' : RL} (nn : ∀ i, s.n ≤ i → hget s.h i = none) (hl : s.l = []) (hr0 : s.r = 0) (hw0 : s.w = 0)
    (e : opsL P cf ops ops.toList s = some s') (hdk : drawOk ops = true) (hdr : drawn (bef ops) ops.size s'.l = true) :
    Ss s.h s.n s'.h s'.n s'.r s'.w ∧
      ∀ (k : K) (W : World) (a : Act) (Q : Exit → Act → World → Prop) (id : Nat), FR k s.f a → HR k s.h W s'.r → (∀ i, s.n ≤ i → i < s'.n → k i = none) → (∀ k' W' a', Sd s.h s.n s'.h s'.n s'.r s'.w k W k' W' → FR k' s'.f a' → Q .normal a' W') → (Code.region id ops true).wp P Q a W := by
  obtain ⟨r1, w1, h1, h2, ss, _⟩ := list_ok hcf _ _ _ nn e
  have ss' : Ss s.h s.n s'.h s'.n s'.r s'.w := ss.congr (fun i => by rw [h1, hr0]; exact ⟨Or.inr, fun h => h.resolve_left tb_zero⟩) (fun i => by rw [h2, hw0]; exact ⟨Or.inr, fun h => h.resolve_left tb_zero⟩)
  refine ⟨ss', ?_⟩
  obtain ⟨st, e0, eN, hst⟩ := opsL_states _ _ _ e
  rw [show ops.toList.length = ops.size by simp] at eN
  -- what each operation does
  have nnst : ∀ i, i ≤ ops.size → ∀ m, (st i).n ≤ m → hget (st i).h m = none := by
    intro i
    induction i with
    | zero => intro _; rw [e0]; exact nn
    | succ i ih =>
      intro hi
      obtain ⟨_, _, _, _, _, _, _, hs, _⟩ := step_ok hcf (ih (by omega)) (hst i ops[i] (by rw [Array.getElem?_toList]; exact op_at (by omega)))
      exact hs.nn (ih (by omega))
  have ex : ∀ i, ∃ q : Nat × Nat × Value, ∀ o, ops[i]? = some o → Dt P ops st (fun _ => q.1) (fun _ => q.2.1) (fun _ => q.2.2) i o := by
    intro i
    cases ho : ops[i]? with
    | none => exact ⟨(0, 0, undef), fun o h => by cases h⟩
    | some o =>
      obtain ⟨r, w, v, a1, a2, a3, a4, a5, a6⟩ := step_ok hcf (nnst i (Nat.le_of_lt (Array.getElem?_eq_some_iff.1 ho).1)) (hst i o (by rw [Array.getElem?_toList]; exact ho))
      refine ⟨(r, w, v), fun o' h => ?_⟩
      cases h
      exact ⟨a1, a2, a3, a4, a5, a6⟩
  let q : Nat → Nat × Nat × Value := fun i => Classical.choose (ex i)
  have D : ∀ i o, ops[i]? = some o → Dt P ops st (fun i => (q i).1) (fun i => (q i).2.1) (fun i => (q i).2.2) i o := fun i o ho => by
    have := Classical.choose_spec (ex i) o ho
    exact ⟨this.l, this.f, this.mr, this.mw, this.ss, this.ok⟩
  generalize hqr : (fun i => (q i).1) = r at D
  generalize hqw : (fun i => (q i).2.1) = w at D
  generalize hqv : (fun i => (q i).2.2) = v at D
  have hdl : ∀ i, i ≤ ops.size → (st i).l = dl (fun i => (r i, w i)) i := by
    intro i
    induction i with
    | zero => intro _; rw [e0, hl]; rfl
    | succ i ih => intro hi; rw [(D i _ (op_at (by omega))).l, ih (by omega)]; rfl
  have hmr : ∀ i, i ≤ ops.size → ∀ m, tb (st i).r m ↔ ∃ j, j < i ∧ tb (r j) m := by
    intro i
    induction i with
    | zero => intro _ m; rw [e0, hr0]; exact ⟨fun h => absurd h tb_zero, fun ⟨j, h, _⟩ => absurd h (by omega)⟩
    | succ i ih =>
      intro hi m
      rw [(D i _ (op_at (by omega))).mr, ih (by omega)]
      constructor
      · rintro (⟨j, a, b⟩ | h)
        · exact ⟨j, by omega, b⟩
        · exact ⟨i, by omega, h⟩
      · rintro ⟨j, a, b⟩
        by_cases hji : j = i
        · subst hji; exact Or.inr b
        · exact Or.inl ⟨j, by omega, b⟩
  have hmw : ∀ i, i ≤ ops.size → ∀ m, tb (st i).w m ↔ ∃ j, j < i ∧ tb (w j) m := by
    intro i
    induction i with
    | zero => intro _ m; rw [e0, hw0]; exact ⟨fun h => absurd h tb_zero, fun ⟨j, h, _⟩ => absurd h (by omega)⟩
    | succ i ih =>
      intro hi m
      rw [(D i _ (op_at (by omega))).mw, ih (by omega)]
      constructor
      · rintro (⟨j, a, b⟩ | h)
        · exact ⟨j, by omega, b⟩
        · exact ⟨i, by omega, h⟩
      · rintro ⟨j, a, b⟩
        by_cases hji : j = i
        · subst hji; exact Or.inr b
        · exact Or.inl ⟨j, by omega, b⟩
  have hR := hmr ops.size (Nat.le_refl _)
  have hW := hmw ops.size (Nat.le_refl _)
  rw [eN] at hR hW
  unfold drawOk at hdk
  simp only [Bool.and_eq_true] at hdk
  obtain ⟨hedge, hdt⟩ := hdk
  rw [dl_ops ops _ default] at hdt
  have hdh : drawn (bef ops) ops.size (dl (fun i => (r i, w i)) ops.size) = true := by rw [← hdl ops.size (Nat.le_refl _), eN]; exact hdr
  intro k W a Q id hf H hnew hk
  have hle : (st 0).f.m ≤ 256 := by rw [e0]; exact hf.le
  have nn0 : ∀ i, (st 0).n ≤ i → hget (st 0).h i = none := by rw [e0]; exact nn
  refine wp_region_any hmo ?_
  refine wpAny_inv (fun listed a' W' => listed.size = ops.size ∧ ∃ k', Iv ops st w (fun i => tb s'.r i ∨ tb s'.w i) (fun i => tb s'.w i) k { W with drawn := W.drawn + 1 } listed a' W' k') hedge ?_ ?_ _ _ _ _ ?_ ⟨by simp, k, ?_⟩
  · rintro listed a' W' i o ⟨hsz, k', I⟩ ho hu hall
    refine wpOp_step ho fun K hK => ?_
    refine I.step D nn0 hle hdh hdt (fun j hj m hm => Or.inl ((hR m).2 ⟨j, hj, hm⟩)) (fun j hj m hm => Or.inr ((hW m).2 ⟨j, hj, hm⟩)) (fun j hj m hm => (hW m).2 ⟨j, hj, hm⟩) hsz ho hu hall Q K (fun a2 W2 k2 I2 => hK _ _ ⟨by simpa using hsz, k2, I2⟩)
  · rintro listed a' W' ⟨hsz, k', I⟩ hall
    have hc : ∀ wr : Nat → Prop, Cn ops.size (fun j => listed.getD j false = true) wr ops.size := fun wr j hj _ => ⟨fun _ => hj, fun _ => by
      have := hall j hj
      have h2 : j < listed.size := by omega
      simpa [h2] using this⟩
    have hfr := fun t => I.fr t ops.size (Nat.le_refl _) (hc _)
    have hhp := fun i hi => I.hp i ops.size (Nat.le_refl _) hi (hc _)
    rw [eN] at hfr hhp
    refine hk k' W' a' ⟨I.ext, ?_, ⟨fun i hi => hhp i (tb_or.1 hi), fun i j hi hj li lj hne => ?_⟩, ?_, ?_, I.size, I.os, ⟨I.tape.1, Nat.le_trans (Nat.le_succ _) I.tape.2⟩, I.output, I.fz⟩ ⟨?_, ?_, hfr, I.df⟩
    · have := I.dom; rw [e0, eN] at this; exact this
    · exact I.inj i j ops.size ops.size (Nat.le_refl _) (Nat.le_refl _) (tb_or.1 hi) (tb_or.1 hj) (hc _) (hc _) (by rw [eN]; exact li) (by rw [eN]; exact lj) hne
    · have := I.frm; rw [e0] at this; exact this
    · intro i b z h1 h2 h3 h4
      by_cases hwi : tb s'.w i
      · rcases I.fresh i ops.size b z (Nat.le_refl _) (Or.inr hwi) (hc _) (by rw [e0]; exact h1) (by rw [eN]; exact h2) (by rw [eN]; exact h3) h4 with h | ⟨j, z', a1, a2, a3, a4, a5⟩
        · exact Or.inl h
        · rw [e0] at a2 a3
          refine Or.inr ⟨j, z', a1, a2, a3, ?_, a5⟩
          have := a4 ops.size (Nat.le_refl _) (hc _)
          rw [eN] at this; exact this
      · obtain ⟨cs, h3⟩ := h3
        rw [ss'.same i hwi, nn i h1] at h3
        cases h3
    · have := st_m D ops.size (Nat.le_refl _)
      rw [eN, e0] at this
      rw [this, ← e0]; exact I.m
    · have := st_m D ops.size (Nat.le_refl _)
      rw [eN, e0] at this
      rw [this]; exact hf.le
  · simp
  · have hz : ∀ j, ¬ (Array.replicate ops.size false).getD j false = true := fun j => by
      rcases Nat.lt_or_ge j ops.size with h | h <;> simp [h]
    have hcn : ∀ wr c, c ≤ ops.size → Cn ops.size (fun j => (Array.replicate ops.size false).getD j false = true) wr c → ∀ j, 0 ≤ j → j < c → ¬ wr j := fun wr c hc h j _ hj hw => hz j ((h j (by omega) hw).2 hj)
    have hh : ∀ i c, c ≤ ops.size → Cn ops.size (fun j => (Array.replicate ops.size false).getD j false = true) (fun j => tb (w j) i) c → hget (st c).h i = hget s.h i := fun i c hc h => by
      rw [st_h D (Nat.zero_le c) hc (hcn _ c hc h), e0]
    -- what is written and was there was read
    have hrd : ∀ i c, c ≤ ops.size → (tb s'.r i ∨ tb s'.w i) → live s.h i → tb s'.r i := fun i c _ h hl => by
      rcases h with h | h
      · exact h
      · refine ss'.old i h ?_
        rcases Nat.lt_or_ge i s.n with h' | h'
        · exact h'
        · exact absurd hl (not_live (nn i h'))
    refine ⟨fun j o _ h => absurd h (hz j), by rw [e0]; exact hf.m, hf.df, fun t c hc h => ?_, fun i c hc hi h cs hcs => ?_, fun i i' c c' hc hc' hi hi' h h' hl hl' hne => ?_, fun _ _ h => h, fun _ _ => rfl, fun j hj _ i h1 h2 => ?_, fun _ _ _ => rfl, fun i c b z hc hi h h1 h2 hl => ?_, Nat.le_refl _, rfl, ⟨rfl, Nat.le_refl _⟩, rfl, fun _ => rfl⟩
    · rw [st_f D hle (Nat.zero_le c) hc (hcn _ c hc h), e0]; exact hf.get t
    · rw [hh i c hc h] at hcs
      exact H.rep i (hrd i c hc hi ⟨cs, hcs⟩) cs hcs
    · obtain ⟨cs, hl⟩ := hl
      obtain ⟨cs', hl'⟩ := hl'
      rw [hh i c hc h] at hl
      rw [hh i' c' hc' h'] at hl'
      exact H.inj i i' (hrd i c hc hi ⟨cs, hl⟩) (hrd i' c' hc' hi' ⟨cs', hl'⟩) ⟨cs, hl⟩ ⟨cs', hl'⟩ hne
    · have a1 := st_n D (Nat.zero_le j) (by omega)
      have a2 := st_n D (show j + 1 ≤ ops.size by omega) (Nat.le_refl _)
      rw [e0] at a1; rw [eN] at a2
      exact hnew i (by omega) (by omega)
    · obtain ⟨cs, hl⟩ := hl
      rw [hh i c hc h, nn i (by rw [e0] at h1; exact h1)] at hl
      cases hl
end
end E
end Go.Proofs.YtfmfeipeeedfpaaGreat
namespace Go.Proofs.YtfmfeipeeedfpaaGreat
namespace E
open Go.CheckFast (force force_eq)
theorem beqL_some {a b : ByteArray} (h : beqL a.data.toList b.data.toList = true) : a = b := by
  rw [beqL_eq] at h
  apply ByteArray.ext
  apply Array.ext'
  simpa using h
theorem aeq_eq {v u : Value} (h : aeq v u = true) : v = u := by
  unfold aeq at h
  split at h <;> (try split at h) <;> first
    | (cases h; done)
    | rfl
    | (simp only [Bool.and_eq_true, Nat.beq_eq] at h; obtain ⟨h1, h2⟩ := h; subst h1; subst h2; rfl)
    | (simp only [Bool.and_eq_true, Nat.beq_eq] at h; obtain ⟨⟨⟨h1, h2⟩, h3⟩, h4⟩ := h; subst h1; subst h2; subst h3; subst h4; rfl)
    | (rw [beqL_some h])
    | (simp only [Bool.and_eq_true, keq, decide_eq_true_eq] at h; obtain ⟨h1, h2⟩ := h; rw [ieq_eq] at h2; rw [h1, eq_of_beq h2])
    | (rw [eq_of_beq h])
theorem leq_eq : ∀ {l m : List Value}, leq l m = true → l = m
  | [], [], _ => rfl
  | [], _ :: _, h => by cases h
  | _ :: _, [], h => by cases h
  | v :: x, u :: y, h => by
    simp only [leq] at h
    cases ha : aeq v u with
    | false => rw [ha] at h; cases h
    | true => rw [ha] at h; rw [aeq_eq ha, leq_eq h]
theorem veq1_eq {v u : Value} (h : veq1 v u = true) : v = u := by
  unfold veq1 at h
  split at h
  · split at h
    · congr 1; exact Array.ext' (leq_eq h)
    · cases h
  · exact aeq_eq h
theorem leq1_eq : ∀ {l m : List Value}, leq1 l m = true → l = m
  | [], [], _ => rfl
  | [], _ :: _, h => by cases h
  | _ :: _, [], h => by cases h
  | v :: x, u :: y, h => by
    simp only [leq1] at h
    cases ha : veq1 v u with
    | false => rw [ha] at h; cases h
    | true => rw [ha] at h; rw [veq1_eq ha, leq1_eq h]
theorem veq2_eq {v u : Value} (h : veq2 v u = true) : v = u := by
  unfold veq2 at h
  split at h
  · split at h
    · congr 1; exact Array.ext' (leq1_eq h)
    · cases h
  · exact veq1_eq h
/-! Other numbers for blocks. -/
section
variable {k k' : K} {g : Nat → Nat}
theorem r0 (hg : ∀ i p, k (g i) = some p → k' i = some p) {v u : Value} (ha : at0 v = true) (h : VX k (s0 g v) u) : VX k' v u := by
  cases v with
  | pointer a => cases a with
    | none => exact VX.of0 (h.v0 trivial)
    | some a => obtain ⟨h1, b, z, h2, h3⟩ := h.ptr_inv; exact VX.of0 ⟨h1, b, z, hg _ _ h2, h3⟩
  | slice a n c => cases a with
    | none => exact VX.of0 h.nilslc_inv
    | some a => obtain ⟨h1, b, z, c, h2, h3⟩ := h.slc_inv; exact VX.of0 ⟨h1, b, z, c, hg _ _ h2, h3⟩
  | agg _ => cases ha
  | tuple _ => cases ha
  | func _ _ _ => cases ha
  | iface _ _ => cases ha
  | chan _ => cases ha
  | map _ => cases ha
  | _ => exact VX.of0 (h.v0 trivial)
theorem rL (hg : ∀ i p, k (g i) = some p → k' i = some p) : ∀ {l m : List Value}, l.all at0 = true → LR (VX k) (sL g l) m → LR (VX k') l m
  | [], _, _, h => h
  | v :: l, _, ha, ⟨y, ys, e, h1, h2⟩ => by
    simp only [List.all_cons, Bool.and_eq_true] at ha
    exact ⟨y, ys, e, r0 hg ha.1 h1, rL hg ha.2 h2⟩
theorem r1 (hg : ∀ i p, k (g i) = some p → k' i = some p) {v u : Value} (ha : at1 v = true) (h : VX k (s1 g v) u) : VX k' v u := by
  cases v with
  | agg cs =>
    obtain ⟨us, e, h1⟩ := h.agg_inv
    rw [e]
    have := VX.agg (rL hg ha (by simpa using h1))
    simpa using this
  | _ => exact r0 hg ha h
theorem rM (hg : ∀ i p, k (g i) = some p → k' i = some p) : ∀ {l m : List Value}, l.all at1 = true → LR (VX k) (sM g l) m → LR (VX k') l m
  | [], _, _, h => h
  | v :: l, _, ha, ⟨y, ys, e, h1, h2⟩ => by
    simp only [List.all_cons, Bool.and_eq_true] at ha
    exact ⟨y, ys, e, r1 hg ha.1 h1, rM hg ha.2 h2⟩
theorem r2 (hg : ∀ i p, k (g i) = some p → k' i = some p) {v u : Value} (ha : at2 v = true) (h : VX k (s2 g v) u) : VX k' v u := by
  cases v with
  | tuple cs =>
    obtain ⟨us, e, h1⟩ := h.tuple_inv
    rw [e]
    have := VX.tuple (rM hg ha (by simpa using h1))
    simpa using this
  | _ => exact r1 hg ha h
theorem t0 (hg : ∀ i p, k' i = some p → k (g i) = some p) {v u : Value} (ha : at0 v = true) (h : VX k' v u) : VX k (s0 g v) u := by
  cases v with
  | pointer a => cases a with
    | none => exact VX.of0 (h.v0 trivial)
    | some a => obtain ⟨h1, b, z, h2, h3⟩ := h.ptr_inv; exact VX.of0 ⟨h1, b, z, hg _ _ h2, h3⟩
  | slice a n c => cases a with
    | none => exact VX.of0 h.nilslc_inv
    | some a => obtain ⟨h1, b, z, c, h2, h3⟩ := h.slc_inv; exact VX.of0 ⟨h1, b, z, c, hg _ _ h2, h3⟩
  | agg _ => cases ha
  | tuple _ => cases ha
  | func _ _ _ => cases ha
  | iface _ _ => cases ha
  | chan _ => cases ha
  | map _ => cases ha
  | _ => exact VX.of0 (h.v0 trivial)
theorem tL (hg : ∀ i p, k' i = some p → k (g i) = some p) : ∀ {l m : List Value}, l.all at0 = true → LR (VX k') l m → LR (VX k) (sL g l) m
  | [], _, _, h => h
  | v :: l, _, ha, ⟨y, ys, e, h1, h2⟩ => by
    simp only [List.all_cons, Bool.and_eq_true] at ha
    exact ⟨y, ys, e, t0 hg ha.1 h1, tL hg ha.2 h2⟩
theorem t1 (hg : ∀ i p, k' i = some p → k (g i) = some p) {v u : Value} (ha : at1 v = true) (h : VX k' v u) : VX k (s1 g v) u := by
  cases v with
  | agg cs =>
    obtain ⟨us, e, h1⟩ := h.agg_inv
    rw [e]
    exact VX.agg (tL hg ha h1)
  | _ => have hh := fun p => t0 hg p h; exact hh ha
theorem tM (hg : ∀ i p, k' i = some p → k (g i) = some p) : ∀ {l m : List Value}, l.all at1 = true → LR (VX k') l m → LR (VX k) (sM g l) m
  | [], _, _, h => h
  | v :: l, _, ha, ⟨y, ys, e, h1, h2⟩ => by
    simp only [List.all_cons, Bool.and_eq_true] at ha
    exact ⟨y, ys, e, t1 hg ha.1 h1, tM hg ha.2 h2⟩
theorem t2 (hg : ∀ i p, k' i = some p → k (g i) = some p) {v u : Value} (ha : at2 v = true) (h : VX k' v u) : VX k (s2 g v) u := by
  cases v with
  | tuple cs =>
    obtain ⟨us, e, h1⟩ := h.tuple_inv
    rw [e]
    exact VX.tuple (tM hg ha h1)
  | _ => have hh := fun p => t1 hg p h; exact hh ha
end
/-- An entry tells what each such call does. -/
structure EnOk (P : Program) (e : En) : Prop where
  wv : at2 e.v = true
  wb : ∀ b ∈ e.bs, b.all at0 = true
  wa : e.args.all flat1 = true
  enter : ∀ args w, (callFunc e.f args).run P w = .ok (.enter e.f args) w
  ok : ∀ W, Calls P e.f e.args.toArray W fun r W' => ∃ u k', r = .returned u ∧ VX k' e.v u ∧ (∀ i, e.bs.length ≤ i → k' i = none) ∧
    (∀ i cs, e.bs[i]? = some cs → RB k' W' i cs ∧ ∀ b z, k' i = some (b, z) → W.heap.size ≤ b) ∧
    (∀ i j b z b' z', i ≠ j → k' i = some (b, z) → k' j = some (b', z') → b ≠ b') ∧ (∀ b, b < W.heap.size → W'.heap[b]? = W.heap[b]?) ∧ W.heap.size ≤ W'.heap.size ∧ W'.os = W.os ∧ Tp W' W ∧ W'.output = W.output ∧ ∀ a, W'.frozen? a = W.frozen? a
theorem tb_bits : ∀ {m n i : Nat}, tb (bits n m) i ↔ n ≤ i ∧ i < n + m
  | 0, n, i => by simp only [bits]; exact ⟨fun h => absurd h tb_zero, fun h => by omega⟩
  | m + 1, n, i => by
    simp only [bits, tb_or, tb_bit, tb_bits (m := m)]
    omega
theorem lays_get {n : Nat} : ∀ (l : List (List Value)) (i : Nat) (h : HT) (j : Nat), i + l.length ≤ 4096 → hget (lays n l i h) j = if i ≤ j ∧ j < i + l.length then (l[j - i]?).map (sL (Nat.add n)) else hget h j
  | [], i, h, j, _ => by rw [lays, if_neg (by simp only [List.length_nil]; omega)]
  | b :: l, i, h, j, hl => by
    simp only [List.length_cons] at hl ⊢
    rw [lays, lays_get l (Nat.succ i) _ j (by omega)]
    by_cases e : i = j
    · subst e
      rw [if_neg (by omega), if_pos (by omega), hget_same _ (by omega)]
      simp
    · rw [hget_ne _ (by omega) e]
      by_cases h1 : i ≤ j ∧ j < i + (l.length + 1)
      · rw [if_pos (by omega), if_pos h1, show j - i = (j - Nat.succ i) + 1 by omega, List.getElem?_cons_succ]
      · rw [if_neg (by omega), if_neg h1]
theorem find_some {f : Nat} {args : List Value} : ∀ {l : List En} {e : En}, find f args l = some e → e ∈ l ∧ f = e.f ∧ args = e.args
  | [], _, h => by cases h
  | x :: l, e, h => by
    simp only [find] at h
    cases hc : (Nat.beq f x.f && leq args x.args) with
    | false =>
      rw [hc] at h
      obtain ⟨h1, h2⟩ := find_some (l := l) h
      exact ⟨by simp [h1], h2⟩
    | true =>
      rw [hc] at h
      cases h
      simp only [Bool.and_eq_true, Nat.beq_eq] at hc
      exact ⟨by simp, hc.1, leq_eq hc.2⟩
theorem known_ok {P : Program} {e : En} (he : EnOk P e) {h : HT} {n : Nat} {x : R5} (hx : known e h n = some x) : Ss h n x.h x.n x.r x.w ∧ (∀ args w, (callFunc e.f args).run P w = .ok (.enter e.f args) w) ∧
    ∀ (k : K) (W : World) (us : List Value), LR (VX k) e.args us → HR k h W x.r → (∀ i, n ≤ i → i < x.n → k i = none) → Calls P e.f us.toArray W fun r W' => ∃ u k', r = .returned u ∧ Sd h n x.h x.n x.r x.w k W k' W' ∧ VX k' x.v u := by
  obtain ⟨hle, hx⟩ := bif_some hx
  rw [Nat.ble_eq] at hle
  cases hx
  have hg := fun j => lays_get (n := n) e.bs n h j hle
  refine ⟨⟨Nat.le_add_right _ _, fun nn i hi => ?_, fun i hi => ?_, fun i hi hn => ?_, fun i hi => (tb_bits.1 hi).2, fun i hi ⟨cs, hl⟩ => ?_⟩, he.enter, fun k W us hus H hnew => ?_⟩
  · have hi' : n + e.bs.length ≤ i := hi
    rw [hg, if_neg (by omega)]; exact nn i (by omega)
  · rw [hg, if_neg (fun h => hi (tb_bits.2 h))]
  · have := (tb_bits.1 hi).1; omega
  · rw [hg, if_neg (by omega)] at hl; exact ⟨cs, hl⟩
  · have hue := flatL_eq hus he.wa
    subst hue
    refine (he.ok W).mono ?_
    rintro r W' ⟨u, k', rfl, a1, a2, a3, a4, a5, a6, a7, a8, a9, a10⟩
    let k2 : K := fun i => if n ≤ i ∧ i < n + e.bs.length then k' (i - n) else k i
    have hin : ∀ i, n ≤ i → i < n + e.bs.length → k2 i = k' (i - n) := fun i h1 h2 => if_pos ⟨h1, h2⟩
    have hout : ∀ i, ¬ (n ≤ i ∧ i < n + e.bs.length) → k2 i = k i := fun i h => if_neg h
    have hk2 : ∀ i p, k' i = some p → k2 (Nat.add n i) = some p := fun i p hp => by
      have hi : i < e.bs.length := by
        rcases Nat.lt_or_ge i e.bs.length with h' | h'
        · exact h'
        · rw [a2 i h'] at hp; cases hp
      show k2 (n + i) = some p
      rw [hin (n + i) (by omega) (by omega), show n + i - n = i by omega]; exact hp
    refine ⟨u, k2, rfl, ⟨fun i p hp => ?_, fun i hi => hout i (by simp only at hi; omega), ⟨fun i hi cs hcs => ?_, fun i j hi hj _ _ hne b z b' z' hb hb' => ?_⟩, fun b hb _ => a5 b hb, fun i b z h1 h2 _ hk => Or.inl ?_, a6, a7, a8, a9, a10⟩, t2 hk2 he.wv a1⟩
    · rw [hout i (fun h => by rw [hnew i h.1 h.2] at hp; cases hp)]; exact hp
    · have hi' := tb_bits.1 ((tb_or.1 hi).resolve_left tb_zero)
      rw [hg, if_pos hi'] at hcs
      cases hb : e.bs[i - n]? with
      | none => rw [hb] at hcs; cases hcs
      | some c =>
        rw [hb] at hcs
        cases hcs
        exact (a3 (i - n) c hb).1.mono (fun p hp => by rw [hin i hi'.1 hi'.2]; exact hp) (fun _ _ _ _ => rfl) (fun us => tL hk2 (he.wb c (List.mem_of_getElem? hb)))
    · have hi' := tb_bits.1 ((tb_or.1 hi).resolve_left tb_zero)
      have hj' := tb_bits.1 ((tb_or.1 hj).resolve_left tb_zero)
      rw [hin i hi'.1 hi'.2] at hb
      rw [hin j hj'.1 hj'.2] at hb'
      exact a4 (i - n) (j - n) b z b' z' (by omega) hb hb'
    · rw [hin i h1 h2] at hk
      cases hb : e.bs[i - n]? with
      | none => rw [a2 (i - n) (by rw [List.getElem?_eq_none_iff] at hb; exact hb)] at hk; cases hk
      | some c =>
        exact (a3 (i - n) c hb).2 _ _ hk
end E
end Go.Proofs.YtfmfeipeeedfpaaGreat
namespace Go.Proofs.YtfmfeipeeedfpaaGreat
namespace E
open Go.CheckFast (force force_eq)
section
variable {P : Program}
/-- What is said of code. -/
def Rn (P : Program) (rn : Code → FT → HT → Nat → Option RC) : Prop := ∀ c f h n x, (∀ i, n ≤ i → hget h i = none) → rn c f h n = some x → Ss h n x.h x.n x.r x.w ∧
  ∀ (k : K) (W : World) (a : Act) (Q : Exit → Act → World → Prop), FR k f a → HR k h W x.r → (∀ i, n ≤ i → i < x.n → k i = none) → (∀ k' W' a', Sd h n x.h x.n x.r x.w k W k' W' → FR k' x.f a' → Q x.e a' W') → c.wp P Q a W
theorem args_m : ∀ (l : List Value) (f : FT) (i : Nat), (args' f i l).m = f.m
  | [], _, _ => rfl
  | v :: l, f, i => by rw [args', args_m l, fput_m]
theorem args_get : ∀ (l : List Value) (f : FT) (i t : Nat), f.m ≤ 256 → i + l.length ≤ f.m → fget (args' f i l) t = if i ≤ t then (l[t - i]?).getD (fget f t) else fget f t
  | [], f, i, t, _, _ => by simp [args']
  | v :: l, f, i, t, hm, hl => by
    simp only [List.length_cons] at hl
    rw [args', args_get l (fput f i v) (i + 1) t (by rw [fput_m]; exact hm) (by rw [fput_m]; omega)]
    by_cases e : i = t
    · subst e
      rw [if_neg (by omega), if_pos (Nat.le_refl _), fget_same v hm (by omega)]
      simp
    · rw [fget_ne v hm e]
      by_cases h : i ≤ t
      · rw [if_pos (by omega), if_pos h, show t - i = (t - (i + 1)) + 1 by omega, List.getElem?_cons_succ]
      · rw [if_neg (by omega), if_neg h]
theorem LR.get' {R : Value → Value → Prop} : ∀ {l m : List Value} (i : Nat) (d : Value), LR R l m → R d d → R ((l[i]?).getD d) ((m[i]?).getD d)
  | [], _, i, d, e, h => by rw [e]; simpa using h
  | x :: xs, _, 0, d, ⟨y, ys, e, r, _⟩, h => by rw [e]; simpa using r
  | x :: xs, _, i + 1, d, ⟨y, ys, e, _, q⟩, h => by rw [e]; simpa using q.get' i d h
theorem args_fr {k : K} {vs us : List Value} {m : Nat} (h : LR (VX k) vs us) (hm : m ≤ 256) (hl : vs.length ≤ m) : FR k (args' ⟨m, fe5, fe8⟩ 0 vs) { tmps := us.toArray ++ Array.replicate (m - us.toArray.size) undef, defers := [] } := by
  have hlen := h.len
  refine ⟨by rw [args_m]; simp; omega, by rw [args_m]; exact hm, fun t => ?_, rfl⟩
  rw [args_get vs _ 0 t hm (by simpa using hl), if_pos (Nat.zero_le _), fget_new, Nat.sub_zero]
  have : (us.toArray ++ Array.replicate (m - us.toArray.size) undef).getD t undef = (us[t]?).getD undef := by
    rw [Array.getD_eq_getD_getElem?]
    by_cases ht : t < us.length
    · rw [Array.getElem?_append_left (by simpa using ht)]; simp
    · rw [Array.getElem?_append_right (by simpa using ht)]
      rw [List.getElem?_eq_none (by omega)]
      by_cases h2 : t - us.toArray.size < m - us.toArray.size
      · rw [Array.getElem?_replicate, if_pos h2]; rfl
      · rw [Array.getElem?_replicate, if_neg h2]
  rw [this]
  exact h.get' t undef undef_vx
def resF (tmps : Array Value) (x : ResultVar) : Sem Value := match x with
  | .tmp t => pure (tmps.getD t undef)
  | .cell b t => do loadVar t (← asAddr (tmps.getD b undef))
theorem res_ok {k : K} {f : FT} {a : Act} {h : HT} {W : World} (hf : FR k f a) : ∀ (l : List ResultVar) (y : List Value × Nat), res P f h l = some y → HR k h W y.2 →
    ∃ us, LR (VX k) y.1 us ∧ (l.mapM (resF a.tmps)).run P W = .ok us W
  | [], y, e, _ => by cases e; exact ⟨[], rfl, rfl⟩
  | x :: l, y, e, H => by
    simp only [res] at e
    obtain ⟨y', h1, e⟩ := bind_some e
    cases x with
    | tmp t =>
      cases e
      obtain ⟨us, h2, h3⟩ := res_ok hf l y' h1 H
      exact ⟨_, ⟨_, us, rfl, hf.get t, h2⟩, by rw [List.mapM_cons]; simp only [resF, Sem.run_bind, Sem.run_pure, Result.andThen_ok, h3]⟩
    | cell b t =>
      obtain ⟨z, h4, e⟩ := bind_some e
      cases e
      obtain ⟨us, h2, h3⟩ := res_ok hf l y' h1 (H.sub fun i hi => tb_or.2 (Or.inl hi))
      obtain ⟨p, q, hv, h5⟩ := onP_some h4
      obtain ⟨_, _, hr, _, h6⟩ := ld_ok h5
      have h7 := hf.get b
      have hv' : fget f b = .pointer (some ⟨p, q, none⟩) := hv
      rw [hv'] at h7
      obtain ⟨_, b', zz, hk, h8⟩ := h7.ptr_inv
      obtain ⟨u, h9, h10⟩ := h6 k W b' zz (H.sub fun i hi => tb_or.2 (Or.inr (by rw [hr]; exact hi))) hk
      refine ⟨u :: us, ⟨u, us, rfl, h9, h2⟩, ?_⟩
      rw [List.mapM_cons]
      simp only [resF, Sem.run_bind, Sem.run_pure, Result.andThen_ok, h8, asAddr, h10, h3]
theorem results_run {k : K} {f : FT} {a : Act} {h : HT} {W : World} {fn : Func} (hf : FR k f a) {y : List Value × Nat} (e : res P f h fn.results.toList = some y) (H : HR k h W y.2) : ∃ u, VX k (single y.1) u ∧ (results fn a.tmps).run P W = .ok u W := by
  obtain ⟨us, h1, h2⟩ := res_ok (P := P) hf _ y e H
  refine ⟨if us.length = 1 then us.headD undef else .tuple us.toArray, ?_, ?_⟩
  · obtain ⟨vs, m⟩ := y
    simp only at h1 ⊢
    cases vs with
    | nil => rw [h1]; exact VX.tuple (cs := []) (us := []) rfl
    | cons v vs =>
      obtain ⟨u, us', rfl, r1, r2⟩ := h1
      cases vs with
      | nil => rw [r2]; exact r1
      | cons v' vs' =>
        have hl := r2.len
        rw [if_neg (by intro h0; simp only [List.length_cons] at h0 hl; omega)]
        exact VX.tuple ⟨u, us', rfl, r1, r2⟩
  · have e1 : results fn a.tmps = (do
        let vs ← fn.results.mapM (resF a.tmps)
        pure (if h : vs.size = 1 then vs[0] else .tuple vs)) := rfl
    rw [e1, Array.mapM_eq_mapM_toList]
    simp only [map_eq_pure_bind, Sem.run_bind, h2, Result.andThen_ok, Sem.run_pure]
    congr 1
    by_cases hl : us.length = 1
    · rw [if_pos hl, dif_pos (by simpa using hl)]
      cases us with
      | nil => cases hl
      | cons u us => simp
    · rw [if_neg hl, dif_neg (by simpa using hl)]
theorem call0_ok {rn : Code → FT → HT → Nat → Option RC} (hrn : Rn P rn) {f : Nat} {vs : List Value} {h : HT} {n : Nat} {x : R5} (nn : ∀ i, n ≤ i → hget h i = none) (e : call0 P rn f vs h n = some x) : Ss h n x.h x.n x.r x.w ∧ (∀ args w, (callFunc f args).run P w = .ok (.enter f args) w) ∧
    ∀ (k : K) (W : World) (us : List Value), LR (VX k) vs us → HR k h W x.r → (∀ i, n ≤ i → i < x.n → k i = none) → Calls P f us.toArray W fun e W' => ∃ u k', e = .returned u ∧ Sd h n x.h x.n x.r x.w k W k' W' ∧ VX k' x.v u := by
  unfold call0 at e
  split at e
  · rename_i fn hfn
    split at e
    · rename_i c hc
      obtain ⟨hok, e⟩ := bif_some e
      unfold fnok at hok
      simp only [Bool.and_eq_true, Nat.ble_eq, Bool.not_eq_true'] at hok
      obtain ⟨⟨o1, o2⟩, o3⟩ := hok
      unfold callB at e
      obtain ⟨y, hy, e⟩ := bind_some e
      obtain ⟨z, hz, e⟩ := bind_some e
      obtain ⟨he, e⟩ := bif_some e
      cases e
      obtain ⟨ss, ok⟩ := hrn _ _ _ _ _ nn hy
      have ssr : Ss h n y.h y.n (Nat.lor y.r z.2) y.w := (ss.trans (Ss.read y.h y.n z.2)).congr (fun _ => Iff.rfl) (fun i => ⟨fun h => (tb_or.1 h).resolve_right tb_zero, fun h => tb_or.2 (Or.inl h)⟩)
      refine ⟨ssr, fun args w => ?_, fun k W us hvs H hnew => ?_⟩
      · have hb : fn.body.isNone = false := by rw [hc]; rfl
        simp only [callFunc, Sem.run_bind, program, Sem.run, Result.andThen_ok, hfn]
        rw [if_neg (by rw [o3]; simp), hb]
        simp
      · refine calls_of_wp hfn hc ?_
        refine ok k W _ _ (args_fr hvs o2 o1) (H.sub fun i hi => tb_or.2 (Or.inl hi)) hnew (fun k' W' a' hd hf => ?_)
        have H2 := Sd.next ss hd nn H
        have H3 : HR k' y.h W' z.2 := H2.sub fun i hi => tb_or.2 (Or.inr hi)
        obtain ⟨u, h1, h2⟩ := results_run hf hz H3
        have hd' : Sd h n y.h y.n (Nat.lor y.r z.2) y.w k W k' W' := (Sd.trans ss hd (Ss.read y.h y.n z.2) (Sd.read H3) nn H).congr (fun _ => Iff.rfl) (fun i => ⟨fun h => (tb_or.1 h).resolve_right tb_zero, fun h => tb_or.2 (Or.inl h)⟩)
        cases hye : y.e with
        | normal => exact ⟨hf.df, u, h2, u, k', rfl, hd', h1⟩
        | ret => exact ⟨hf.df, u, h2, u, k', rfl, hd', h1⟩
        | _ => rw [hye] at he; cases he
    · cases e
  · cases e
structure TbOk (P : Program) (t : Tb) : Prop where
  l : ∀ e ∈ t.l, EnOk P e
  x : ∀ f vs v, t.x f vs = some v → vs.all flat1 = true ∧ (∀ k : K, VX k v v) ∧ ∀ w, (callFunc f vs.toArray).run P w = .ok (.value v) w
theorem call_ok {tb' : Tb} {rn : Code → FT → HT → Nat → Option RC} (ht : TbOk P tb') (hrn : Rn P rn) : Cs P (call P tb' rn) := by
  intro f vs h n x nn e
  unfold call at e
  split at e
  · rename_i v hv
    cases e
    obtain ⟨h1, h2, h3⟩ := ht.x f vs v hv
    exact ⟨Ss.refl h n, fun k W us hus _ _ => Or.inr ⟨v, by rw [flatL_eq hus h1]; exact h3 W, v, k, rfl, Sd.refl h n k W, h2 k⟩⟩
  · split at e
    · rename_i en hfd
      obtain ⟨h1, rfl, rfl⟩ := find_some hfd
      obtain ⟨a1, a2, a3⟩ := known_ok (ht.l en h1) e
      exact ⟨a1, fun k W us hus H hn => Or.inl ⟨a2 _ _, a3 k W us hus H hn⟩⟩
    · obtain ⟨a1, a2, a3⟩ := call0_ok hrn nn e
      exact ⟨a1, fun k W us hus H hn => Or.inl ⟨a2 _ _, a3 k W us hus H hn⟩⟩
/-- One thing behind another. -/
theorem then_ok {f : FT} {h : HT} {n : Nat} {x y z : RC} {a b : Code} (nn : ∀ i, n ≤ i → hget h i = none)
    (sa : Ss h n x.h x.n x.r x.w) (oka : ∀ (k : K) (W : World) (a' : Act) (Q : Exit → Act → World → Prop), FR k f a' → HR k h W x.r → (∀ i, n ≤ i → i < x.n → k i = none) → (∀ k' W' a', Sd h n x.h x.n x.r x.w k W k' W' → FR k' x.f a' → Q x.e a' W') → a.wp P Q a' W)
    (sb : Ss x.h x.n y.h y.n y.r y.w) (hz : z = ⟨y.e, y.f, y.h, y.n, Nat.lor x.r y.r, Nat.lor x.w y.w⟩) (he : x.e = .normal)
    {T : (Exit → Act → World → Prop) → Act → World → Prop} (okb : ∀ (k : K) (W : World) (a' : Act) (Q : Exit → Act → World → Prop), FR k x.f a' → HR k x.h W y.r → (∀ i, x.n ≤ i → i < y.n → k i = none) → (∀ k' W' a', Sd x.h x.n y.h y.n y.r y.w k W k' W' → FR k' y.f a' → Q y.e a' W') → T Q a' W) :
    Ss h n z.h z.n z.r z.w ∧ ∀ (k : K) (W : World) (a' : Act) (Q : Exit → Act → World → Prop), FR k f a' → HR k h W z.r → (∀ i, n ≤ i → i < z.n → k i = none) → (∀ k' W' a', Sd h n z.h z.n z.r z.w k W k' W' → FR k' z.f a' → Q z.e a' W') → a.wp P (Exit.then (T Q) Q) a' W := by
  have _ := b
  subst hz
  refine ⟨sa.trans sb, fun k W a' Q hf H hnew hk => ?_⟩
  refine oka k W a' _ hf (H.sub fun i hi => tb_or.2 (Or.inl hi)) (fun i h1 h2 => hnew i h1 (Nat.lt_of_lt_of_le h2 sb.le)) (fun k1 W1 a1 hd hf1 => ?_)
  rw [he]
  have H2 := Sd.next sa hd nn H
  refine okb k1 W1 a1 Q hf1 (H2.sub fun i hi => tb_or.2 (Or.inr hi)) (fun i h1 h2 => by rw [hd.dom i (Or.inr h1)]; exact hnew i (Nat.le_trans sa.le h1) h2) (fun k2 W2 a2 hd2 hf2 => hk k2 W2 a2 (Sd.trans sa hd sb hd2 nn H) hf2)
theorem thenC_some {x : Option RC} {g : FT → HT → Nat → Option RC} {z : RC} (e : thenC x g = some z) : ∃ y, x = some y ∧ ((y.e ≠ .normal ∧ z = y) ∨ (y.e = .normal ∧ ∃ u, g y.f y.h y.n = some u ∧ z = ⟨u.e, u.f, u.h, u.n, Nat.lor y.r u.r, Nat.lor y.w u.w⟩)) := by
  obtain ⟨y, hy, e⟩ := bind_some e
  refine ⟨y, hy, ?_⟩
  cases he : y.e with
  | normal =>
    rw [he] at e
    obtain ⟨u, hu, e⟩ := bind_some (x := g y.f y.h y.n) e
    rw [force_eq, force_eq] at e
    cases e
    exact Or.inr ⟨rfl, u, hu, rfl⟩
  | _ => rw [he] at e; cases e; exact Or.inl ⟨by simp, rfl⟩
/-- A run of a piece of a scope's code, within the scope. -/
def SW (P : Program) (c d : Code) (Q : Exit → Act → World → Prop) (a : Act) (w : World) : Prop :=
  ∀ (b : Frame) (k : List Item) (cs : List Frame), ∃ e a' w', Q e a' w' ∧ Arrives P (lone (b.at a (.code d :: .inScope c :: k)) cs w) b k cs e a' w'
theorem sw_in {c : Code} {Q : Exit → Act → World → Prop} {a : Act} {w : World} (h : SW P c c Q a w) : (Code.scope c).wp P Q a w := fun b k cs => by
  obtain ⟨e, a', w', hq, harr⟩ := h b k cs
  exact ⟨e, a', w', hq, .of_steps (.one step_scope) harr⟩
/-- As Q, but for a goto to one label. -/
def toL (l : Nat) (J : Act → World → Prop) (Q : Exit → Act → World → Prop) : Exit → Act → World → Prop
  | .goto l', a, w => l' = l ∧ J a w
  | e, a, w => Q e a w
theorem sw_go {c d r : Code} {l : Nat} {Q : Exit → Act → World → Prop} {a : Act} {w : World} (hf : findLabel c l = some r) (h : d.wp P (toL l (SW P c r Q) Q) a w) : SW P c d Q a w := fun b k cs => by
  obtain ⟨e, a₁, w₁, hq, harr⟩ := h b (.inScope c :: k) cs
  cases e with
  | normal => exact ⟨.normal, a₁, w₁, hq, Steps.trans harr (.one step_inScope)⟩
  | exit id => exact ⟨.exit id, a₁, w₁, hq, fun k' hk => harr k' (by simp [exitTo, hk])⟩
  | goto l' =>
    obtain ⟨rfl, hJ⟩ := hq
    obtain ⟨e₂, a₂, w₂, hq₂, harr₂⟩ := hJ b k cs
    exact ⟨e₂, a₂, w₂, hq₂, .of_steps (harr _ (by simp [gotoIn, hf])) harr₂⟩
  | ret => exact ⟨_, a₁, w₁, hq, harr⟩
  | panic ch => exact ⟨_, a₁, w₁, hq, harr⟩
  | outgrown => exact ⟨_, a₁, w₁, hq, harr⟩
def noG (Q : Exit → Act → World → Prop) : Exit → Act → World → Prop
  | .goto _, _, _ => False
  | e, a, w => Q e a w
theorem sw_no {c d : Code} {Q : Exit → Act → World → Prop} {a : Act} {w : World} (h : d.wp P (noG Q) a w) : SW P c d Q a w := fun b k cs => by
  obtain ⟨e, a₁, w₁, hq, harr⟩ := h b (.inScope c :: k) cs
  cases e with
  | normal => exact ⟨.normal, a₁, w₁, hq, Steps.trans harr (.one step_inScope)⟩
  | exit id => exact ⟨.exit id, a₁, w₁, hq, fun k' hk => harr k' (by simp [exitTo, hk])⟩
  | goto l' => exact absurd hq id
  | ret => exact ⟨_, a₁, w₁, hq, harr⟩
  | panic ch => exact ⟨_, a₁, w₁, hq, harr⟩
  | outgrown => exact ⟨_, a₁, w₁, hq, harr⟩
theorem jumps_ok {rn : Code → FT → HT → Nat → Option RC} (hrn : Rn P rn) (c : Code) : ∀ (m : Nat) (d : Code) f h n x, (∀ i, n ≤ i → hget h i = none) → jumps rn c m (rn d f h n) = some x → Ss h n x.h x.n x.r x.w ∧
    ∀ (k : K) (W : World) (a : Act) (Q : Exit → Act → World → Prop), FR k f a → HR k h W x.r → (∀ i, n ≤ i → i < x.n → k i = none) → (∀ k' W' a', Sd h n x.h x.n x.r x.w k W k' W' → FR k' x.f a' → Q x.e a' W') → SW P c d Q a W := by
  intro m
  induction m with
  | zero => intro d f h n x _ e; cases e
  | succ m ih =>
    intro d f h n x nn e
    obtain ⟨y, hy, e⟩ := bind_some (show (rn d f h n).bind _ = some x from e)
    obtain ⟨sa, oka⟩ := hrn _ _ _ _ _ nn hy
    cases hye : y.e with
    | goto l =>
      rw [hye] at e
      have e : (match findLabel c l with
        | some r => orC (jumps rn c m (rn r y.f y.h y.n)) y.r y.w
        | none => none) = some x := e
      cases hfl : findLabel c l with
      | none => rw [hfl] at e; cases e
      | some r =>
        rw [hfl] at e
        obtain ⟨u, hu, e⟩ := bind_some (show (jumps rn c m (rn r y.f y.h y.n)).bind _ = some x from e)
        rw [force_eq, force_eq] at e
        cases e
        obtain ⟨sb, okb⟩ := ih r y.f y.h y.n u (sa.nn nn) hu
        refine ⟨sa.trans sb, fun k W a Q hf H hnew hk => sw_go hfl ?_⟩
        refine oka k W a _ hf (H.sub fun i hi => tb_or.2 (Or.inl hi)) (fun i h1 h2 => hnew i h1 (Nat.lt_of_lt_of_le h2 sb.le)) (fun k1 W1 a1 hd hf1 => ?_)
        rw [hye]
        have H2 := Sd.next sa hd nn H
        exact ⟨rfl, okb k1 W1 a1 Q hf1 (H2.sub fun i hi => tb_or.2 (Or.inr hi)) (fun i h1 h2 => by rw [hd.dom i (Or.inr h1)]; exact hnew i (Nat.le_trans sa.le h1) h2) (fun k2 W2 a2 hd2 hf2 => hk k2 W2 a2 (Sd.trans sa hd sb hd2 nn H) hf2)⟩
    | _ =>
      rw [hye] at e
      cases e
      refine ⟨sa, fun k W a Q hf H hnew hk => sw_no (oka k W a _ hf H hnew fun k' W' a' hd hf' => ?_)⟩
      have := hk k' W' a' hd hf'
      rw [hye] at this ⊢
      exact this
theorem run_ok {tb' : Tb} (ht : TbOk P tb') (hmo : P.follows .mixedOrders = true) : ∀ fuel, Rn P (run P tb' fuel) ∧ ∀ c f h n x, (∀ i, n ≤ i → hget h i = none) → run P tb' fuel (.loop c) f h n = some x → Ss h n x.h x.n x.r x.w ∧
    ∀ (k : K) (W : World) (a : Act) (Q : Exit → Act → World → Prop), FR k f a → HR k h W x.r → (∀ i, n ≤ i → i < x.n → k i = none) → (∀ k' W' a', Sd h n x.h x.n x.r x.w k W k' W' → FR k' x.f a' → Q x.e a' W') → Code.rounds P c Q fuel a W := by
  intro fuel
  induction fuel with
  | zero => exact ⟨fun c f h n x _ e => (by cases e), fun c f h n x _ e => (by cases e)⟩
  | succ fuel ih =>
    obtain ⟨ih1, ih2⟩ := ih
    have lp : ∀ c f h n x, (∀ i, n ≤ i → hget h i = none) → run P tb' (fuel + 1) (.loop c) f h n = some x → Ss h n x.h x.n x.r x.w ∧
        ∀ (k : K) (W : World) (a : Act) (Q : Exit → Act → World → Prop), FR k f a → HR k h W x.r → (∀ i, n ≤ i → i < x.n → k i = none) → (∀ k' W' a', Sd h n x.h x.n x.r x.w k W k' W' → FR k' x.f a' → Q x.e a' W') → Code.rounds P c Q (fuel + 1) a W := by
      intro c f h n x nn e
      obtain ⟨y, hy, e'⟩ := thenC_some (show thenC (run P tb' fuel c f h n) (run P tb' fuel (.loop c)) = some x from e)
      obtain ⟨sa, oka⟩ := ih1 _ _ _ _ _ nn hy
      rcases e' with ⟨he, rfl⟩ | ⟨he, u, hu, hx⟩
      · refine ⟨sa, fun k W a Q hf H hnew hk => ?_⟩
        refine oka k W a _ hf H hnew (fun k' W' a' hd hf' => ?_)
        have := hk k' W' a' hd hf'
        cases hxe : x.e with
        | normal => exact absurd hxe he
        | _ => rw [hxe] at this; exact this
      · obtain ⟨sb, okb⟩ := ih2 _ _ _ _ _ (sa.nn nn) hu
        exact then_ok (b := .skip) nn sa oka sb hx he (T := fun Q => Code.rounds P c Q fuel) okb
    refine ⟨fun c f h n x nn e => ?_, lp⟩
    cases c with
    | skip => cases e; exact ⟨Ss.refl _ _, fun k W a Q hf _ _ hk => wp_skip (hk k W a (Sd.refl _ _ _ _) hf)⟩
    | label l => cases e; exact ⟨Ss.refl _ _, fun k W a Q hf _ _ hk => wp_label (hk k W a (Sd.refl _ _ _ _) hf)⟩
    | ret => cases e; exact ⟨Ss.refl _ _, fun k W a Q hf _ _ hk => wp_ret (hk k W a (Sd.refl _ _ _ _) hf)⟩
    | exit i => cases e; exact ⟨Ss.refl _ _, fun k W a Q hf _ _ hk => wp_exit (hk k W a (Sd.refl _ _ _ _) hf)⟩
    | seq c1 c2 =>
      obtain ⟨y, hy, e'⟩ := thenC_some (show thenC (run P tb' fuel c1 f h n) (run P tb' fuel c2) = some x from e)
      obtain ⟨sa, oka⟩ := ih1 _ _ _ _ _ nn hy
      rcases e' with ⟨he, rfl⟩ | ⟨he, u, hu, hx⟩
      · refine ⟨sa, fun k W a Q hf H hnew hk => wp_seq ?_⟩
        refine oka k W a _ hf H hnew (fun k' W' a' hd hf' => ?_)
        have := hk k' W' a' hd hf'
        cases hxe : x.e with
        | normal => exact absurd hxe he
        | _ => rw [hxe] at this; exact this
      · obtain ⟨sb, okb⟩ := ih1 _ _ _ _ _ (sa.nn nn) hu
        obtain ⟨s1, s2⟩ := then_ok (b := c2) nn sa oka sb hx he (T := fun Q => c2.wp P Q) okb
        exact ⟨s1, fun k W a Q hf H hnew hk => wp_seq (s2 k W a Q hf H hnew hk)⟩
    | cond c c1 c2 =>
      obtain ⟨t, ht, e'⟩ := onB_some (show onB (evo f c) (run P tb' fuel c1 f h n) (run P tb' fuel c2 f h n) = some x from e)
      have hc : ∀ (k : K) (a : Act), FR k f a → a.eval c = .bool t := fun k a hf => by
        have := hf.ev c; rw [ht] at this; exact this.bool_inv
      cases t with
      | true =>
        obtain ⟨sa, oka⟩ := ih1 _ _ _ _ _ nn e'
        exact ⟨sa, fun k W a Q hf H hnew hk => wp_cond_true (hc k a hf) (oka k W a Q hf H hnew hk)⟩
      | false =>
        obtain ⟨sa, oka⟩ := ih1 _ _ _ _ _ nn e'
        exact ⟨sa, fun k W a Q hf H hnew hk => wp_cond_false (hc k a hf) (oka k W a Q hf H hnew hk)⟩
    | block id c =>
      obtain ⟨y, hy, e'⟩ := bind_some (show (run P tb' fuel c f h n).bind (fun x => some ⟨outE id x.e, x.f, x.h, x.n, x.r, x.w⟩) = some x from e)
      cases e'
      obtain ⟨sa, oka⟩ := ih1 _ _ _ _ _ nn hy
      refine ⟨sa, fun k W a Q hf H hnew hk => wp_block (oka k W a _ hf H hnew fun k' W' a' hd hf' => ?_)⟩
      have := hk k' W' a' hd hf'
      cases hye : y.e with
      | exit i =>
        rw [hye] at this
        show if i = id then Q .normal a' W' else Q (.exit i) a' W'
        by_cases hid : i = id
        · have hb : Nat.beq i id = true := by rw [Nat.beq_eq]; exact hid
          simp only [outE, hb, cond_true] at this
          rw [if_pos hid]; exact this
        · have hb : Nat.beq i id = false := by rw [← Bool.not_eq_true, Nat.beq_eq]; exact hid
          simp only [outE, hb, cond_false] at this
          rw [if_neg hid]; exact this
      | _ => rw [hye] at this; exact this
    | loop c =>
      obtain ⟨s1, s2⟩ := lp c f h n x nn e
      exact ⟨s1, fun k W a Q hf H hnew hk => wp_loop_rounds (fuel + 1) (s2 k W a Q hf H hnew hk)⟩
    | region id ops draw =>
      obtain ⟨s, hs, e'⟩ := bind_some (show (opsL P (call P tb' (run P tb' fuel)) ops ops.toList ⟨f, h, n, 0, 0, []⟩).bind (fun s => bif !draw || (drawOk ops && drawn (bef ops) ops.size s.l) then some ⟨.normal, s.f, s.h, s.n, s.r, s.w⟩ else none) = some x from e)
      obtain ⟨hd, e'⟩ := bif_some e'
      cases e'
      have hcf := call_ok ht ih1
      cases draw with
      | false =>
        obtain ⟨r, w, h1, h2, ss, ok⟩ := list_ok hcf _ _ _ nn hs
        have hr : ∀ i, tb r i ↔ tb s.r i := fun i => by rw [h1]; exact ⟨Or.inr, fun h => h.resolve_left tb_zero⟩
        have hw : ∀ i, tb w i ↔ tb s.w i := fun i => by rw [h2]; exact ⟨Or.inr, fun h => h.resolve_left tb_zero⟩
        refine ⟨ss.congr hr hw, fun k W a Q hf H hnew hk => wp_region_list (ok k W a Q hf (H.sub fun i hi => (hr i).1 hi) hnew fun k' W' a' hd' hf' => hk k' W' a' (hd'.congr hr hw) hf')⟩
      | true =>
        simp only [Bool.not_true, Bool.false_or, Bool.and_eq_true] at hd
        obtain ⟨s1, s2⟩ := draw_ok hcf hmo nn rfl rfl rfl hs hd.1 hd.2
        exact ⟨s1, fun k W a Q hf H hnew hk => s2 k W a Q id hf H hnew hk⟩
    | rangeFunc _ _ _ _ => cases e
    | scope c =>
      obtain ⟨s1, s2⟩ := jumps_ok ih1 c 100000 c f h n x nn (show jumps (run P tb' fuel) c 100000 (run P tb' fuel c f h n) = some x from e)
      exact ⟨s1, fun k W a Q hf H hnew hk => sw_in (s2 k W a Q hf H hnew hk)⟩
    | goto l => cases e; exact ⟨Ss.refl _ _, fun k W a Q hf _ _ hk => wp_goto (hk k W a (Sd.refl _ _ _ _) hf)⟩
    | refuse _ => cases e
/-- What a call of such values comes to, in whatever world. -/
theorem closed {tb' : Tb} (ht : TbOk P tb') (hmo : P.follows .mixedOrders = true) {fuel f : Nat} {args : List Value} (ha : args.all cok1 = true) {x : R5} (e : call0 P (run P tb' fuel) f args he12 0 = some x) (W : World) :
    (∀ a w, (callFunc f a).run P w = .ok (.enter f a) w) ∧ Calls P f args.toArray W fun r W' => ∃ u k', r = .returned u ∧ Sd he12 0 x.h x.n x.r x.w (fun _ => none) W k' W' ∧ VX k' x.v u := by
  obtain ⟨_, h2, h3⟩ := call0_ok (run_ok ht hmo fuel).1 (fun i _ => hget_new i) e
  refine ⟨h2, h3 _ W args (cokL_vx ha) ⟨fun i _ cs h => ?_, fun i j _ _ hi => ?_⟩ (fun _ _ _ => rfl)⟩
  · rw [hget_new] at h; cases h
  · exact absurd hi (not_live (hget_new i))
theorem ok_true {x : Option R5} (h : isTrue x = true) : ∃ y, x = some y ∧ y.v = .bool true := by
  unfold isTrue at h
  split at h
  · rename_i y
    split at h
    · rename_i b hb; subst h; exact ⟨y, rfl, hb⟩
    · cases h
  · cases h
theorem apartL_spec : ∀ {l : List Nat}, apartL l = true → ∀ (i j a : Nat), l[i]? = some a → l[j]? = some a → i = j
  | [], _, _, _, _, h, _ => by cases h
  | x :: l, h, i, j, a, hi, hj => by
    simp only [apartL] at h
    cases hc : l.any (Nat.beq x) with
    | true => rw [hc] at h; cases h
    | false =>
      rw [hc] at h
      have hx : ∀ y ∈ l, x ≠ y := fun y hy e => by
        have := List.any_eq_false.1 hc y hy
        rw [Nat.beq_eq] at this
        exact this e
      cases i with
      | zero => cases j with
        | zero => rfl
        | succ j => simp at hi hj; subst hi; exact absurd rfl (hx x (List.mem_of_getElem? hj))
      | succ i => cases j with
        | zero => simp at hi hj; subst hj; exact absurd rfl (hx x (List.mem_of_getElem? hi))
        | succ j => simp at hi hj; rw [apartL_spec h i j a hi hj]
theorem blocksOk_spec {h : HT} {g : Nat → Nat} : ∀ {is : List Nat} {bs : List (List Value)}, blocksOk h g is bs = true → is.length = bs.length ∧ ∀ (j i : Nat) (b : List Value), is[j]? = some i → bs[j]? = some b → hget h i = some (sL g b)
  | [], [], _ => ⟨rfl, fun j i b h => by cases h⟩
  | [], _ :: _, e => by cases e
  | _ :: _, [], e => by cases e
  | i :: is, b :: bs, e => by
    simp only [blocksOk] at e
    cases hc : hget h i with
    | none => rw [hc] at e; cases e
    | some cs =>
      rw [hc] at e
      simp only at e
      cases hl : leq cs (sL g b) with
      | false => rw [hl] at e; cases e
      | true =>
        rw [hl] at e
        obtain ⟨h1, h2⟩ := blocksOk_spec (is := is) (bs := bs) e
        refine ⟨by simp [h1], fun j i' b' hi hb => ?_⟩
        cases j with
        | zero => simp at hi hb; subst hi; subst hb; rw [hc, leq_eq hl]
        | succ j => exact h2 j i' b' (by simpa using hi) (by simpa using hb)
/-- An entry out of a run. -/
theorem entry {tb' : Tb} (ht : TbOk P tb') (hmo : P.follows .mixedOrders = true) {fuel : Nat} {ids : List Nat} {e : En} (h : entOk (call0 P (run P tb' fuel) e.f e.args he12 0) ids e = true) : EnOk P e := by
  unfold entOk at h
  split at h
  · rename_i x hx
    cases h1 : veq2 x.v (s2 (ix ids) e.v) with
    | false => rw [h1] at h; cases h
    | true =>
      rw [h1] at h
      cases h2 : (apartL ids && Nat.ble x.n 4096 && at2 e.v && e.bs.all (·.all at0) && e.args.all flat1) with
      | false => rw [h2] at h; cases h
      | true =>
        rw [h2] at h
        simp only [Bool.and_eq_true, Nat.ble_eq] at h2
        obtain ⟨⟨⟨⟨c1, c2⟩, c3⟩, c4⟩, c5⟩ := h2
        obtain ⟨l1, l2⟩ := blocksOk_spec h
        have hv := veq2_eq h1
        have hfl : e.args.all cok1 = true := by
          rw [List.all_eq_true] at c5 ⊢
          intro v hv
          have := c5 v hv
          cases v <;> first | rfl | cases this
        have cl := fun W => closed (fuel := fuel) ht hmo hfl hx W
        refine ⟨c3, fun b hb => List.all_eq_true.1 c4 b hb, c5, (cl default).1, fun W => (cl W).2.mono ?_⟩
        rintro r W' ⟨u, k', rfl, hd, hvx⟩
        have hnx : ∀ i, x.n ≤ i → k' i = none := fun i hi => hd.dom i (Or.inr hi)
        have hg : ∀ i p, k' (ix ids i) = some p → (fun i => k' (ix ids i)) i = some p := fun i p h => h
        have hlive : ∀ (j i : Nat) (b : List Value), ids[j]? = some i → e.bs[j]? = some b → tb (Nat.lor x.r x.w) i ∧ live x.h i := fun j i b hi hb => by
          have h3 := l2 j i b hi hb
          refine ⟨tb_or.2 (Or.inr ?_), ⟨_, h3⟩⟩
          refine Classical.byContradiction fun hn => ?_
          have h4 := (call0_ok (run_ok ht hmo fuel).1 (fun i _ => hget_new i) hx).1.same i hn
          rw [h3, hget_new] at h4
          cases h4
        have hix : ∀ (j i : Nat), ids[j]? = some i → ix ids j = i := fun j i h => by unfold ix; rw [h]; rfl
        have hnone : ∀ i, e.bs.length ≤ i → k' (ix ids i) = none := fun i hi => by
          have : ix ids i = 4096 := by unfold ix; rw [List.getElem?_eq_none (by omega)]; rfl
          rw [this]; exact hnx 4096 c2
        have hgi : ∀ i : Nat, i < e.bs.length → ∃ a b, ids[i]? = some a ∧ e.bs[i]? = some b := fun i hi => ⟨ids[i], e.bs[i], by simp [l1, hi], by simp [hi]⟩
        have hsm : ∀ i p, k' (ix ids i) = some p → i < e.bs.length := fun i p hp => by
          rcases Nat.lt_or_ge i e.bs.length with h' | h'
          · exact h'
          · rw [hnone i h'] at hp; cases hp
        refine ⟨u, fun i => k' (ix ids i), rfl, r2 hg c3 (by rw [← hv]; exact hvx), hnone, fun i cs hcs => ?_, fun i j b z b' z' hne hb hb' => ?_, fun b hb => hd.frm b hb (fun j z _ hl => absurd hl (not_live (hget_new j))), hd.size, hd.os, hd.tape, hd.output, hd.fz⟩
        · have hi : i < e.bs.length := (List.getElem?_eq_some_iff.1 hcs).1
          obtain ⟨a, b0, ha, hb0⟩ := hgi i hi
          obtain ⟨ht1, hl1⟩ := hlive i a cs ha hcs
          refine ⟨(hd.rep.rep a ht1 _ (l2 i a cs ha hcs)).mono (fun p hp => by show k' (ix ids i) = _; rw [hix i a ha]; exact hp) (fun _ _ _ _ => rfl) (fun us => rL hg (List.all_eq_true.1 c4 cs (List.mem_of_getElem? hcs))), fun b z e1 => ?_⟩
          have e1 : k' a = some (b, z) := by rw [← hix i a ha]; exact e1
          have han : a < x.n := by
            rcases Nat.lt_or_ge a x.n with h' | h'
            · exact h'
            · rw [hnx a h'] at e1; cases e1
          rcases hd.fresh a b _ (Nat.zero_le _) han hl1 e1 with h' | ⟨j, _, _, h', _⟩
          · exact h'
          · omega
        · have hi := hsm i _ hb
          have hj := hsm j _ hb'
          obtain ⟨a1, b1, ha1, hb1⟩ := hgi i hi
          obtain ⟨a2, b2, ha2, hb2⟩ := hgi j hj
          obtain ⟨t1, l1'⟩ := hlive i a1 b1 ha1 hb1
          obtain ⟨t2, l2'⟩ := hlive j a2 b2 ha2 hb2
          have hb3 : k' a1 = some (b, z) := by rw [← hix i a1 ha1]; exact hb
          have hb4 : k' a2 = some (b', z') := by rw [← hix j a2 ha2]; exact hb'
          exact hd.rep.inj a1 a2 t1 t2 l1' l2' (fun e => hne (apartL_spec c1 i j a1 ha1 (by rw [e]; exact ha2))) b z b' z' hb3 hb4
  · cases h
end
end E
end Go.Proofs.YtfmfeipeeedfpaaGreat
namespace Go.Proofs.YtfmfeipeeedfpaaGreat
namespace E
/-- math/bits.Add64. -/
def xadd (vs : List Value) : Option Value := match vs with
  | [.int .u64 x, .int .u64 y, .int .u64 c] => match x with
    | .ofNat x => match y with
      | .ofNat y => match c with
        | .ofNat c => bif Nat.ble c 1 then Go.CheckFast.force (Nat.add (Nat.add x y) c) fun s => Go.CheckFast.force (Nat.mod s 18446744073709551616) fun a => Go.CheckFast.force (Nat.div s 18446744073709551616) fun b => some (.tuple #[.int .u64 (.ofNat a), .int .u64 (.ofNat b)]) else none
        | _ => none
      | _ => none
    | _ => none
  | _ => none
def tbx : Tb := ⟨[], fun f vs => bif Nat.beq f 217 then xadd vs else none⟩
theorem tbx_ok : TbOk Tryz.prog tbx := by
  refine ⟨fun e h => (by cases h), fun f vs v h => ?_⟩
  obtain ⟨hf, h2⟩ := bif_some (show (bif Nat.beq f 217 then xadd vs else none) = some v from h)
  clear h
  have h := h2
  rw [Nat.beq_eq] at hf
  subst hf
  unfold xadd at h
  split at h
  · rename_i x y c
    split at h
    · rename_i x
      split at h
      · rename_i y
        split at h
        · rename_i c
          obtain ⟨hc, h⟩ := bif_some h
          rw [Nat.ble_eq] at hc
          simp only [Go.CheckFast.force_eq] at h
          cases h
          refine ⟨rfl, fun k => VX.tuple (cs := [_, _]) (us := [_, _]) ⟨_, _, rfl, VX.of0 rfl, _, _, rfl, VX.of0 rfl, rfl⟩, fun w => ?_⟩
          have := run_callFunc_extern (P := Tryz.prog) Tryz.func217 (by kernel_rfl) (by kernel_rfl) (by kernel_rfl) (e := add64Entry) (by kernel_rfl) #[.int .u64 (.ofNat x), .int .u64 (.ofNat y), .int .u64 (.ofNat c)] w
          have h2 := run_add64 (P := Tryz.prog) (.ofNat x) (.ofNat y) (.ofNat c) (Int.natCast_nonneg x) (Int.natCast_nonneg y) (Int.natCast_nonneg c) (by show (c : Int) ≤ 1; omega) w
          rw [this, h2]
          rfl
        · cases h
      · cases h
    · cases h
  · cases h
end E
namespace E
set_option maxRecDepth 100000 in
theorem lv_run : isTrue (call0 Tryz.prog (run Tryz.prog tbx 3000) 11 [] he12 0) = true := by kernel_rfl
theorem lv (W : World) : Calls Tryz.prog 11 #[] W fun r W' => r = .returned (.bool true) ∧ W.heap.size ≤ W'.heap.size ∧ W'.os = W.os ∧ Tp W' W ∧ W'.output = W.output ∧ (∀ b, b < W.heap.size → W'.heap[b]? = W.heap[b]?) ∧ ∀ a, W'.frozen? a = W.frozen? a := by
  obtain ⟨y, h1, h2⟩ := ok_true lv_run
  refine (closed tbx_ok rfl rfl h1 W).2.mono ?_
  rintro r W' ⟨u, k', rfl, hd, hv⟩
  rw [h2] at hv
  refine ⟨by rw [hv.bool_inv], hd.size, hd.os, hd.tape, hd.output, fun b hb => hd.frm b hb (fun j z _ hl => absurd hl (not_live (hget_new j))), hd.fz⟩
end E
end Go.Proofs.YtfmfeipeeedfpaaGreat
namespace Go.Proofs.YtfmfeipeeedfpaaGreat
open S Go.RowKit
theorem u_live (w : World) : Calls Tryz.prog 11 #[] w fun e W => e = .returned (.bool true) ∧ Mb w W := (E.lv w).mono (by
  rintro e W ⟨rfl, h1, h2, h3, h4, h5, _⟩
  exact ⟨rfl, ⟨h2, h3.1, h4, h1, h5⟩, h3.2⟩)
set_option maxRecDepth 20000 in
theorem u_fits {d : Nat} {x : Ex} {w : World} {b : Bool} (hb : decide (szX 60 x ≤ 2000) = b) (hL : LT w d x) : Calls Tryz.prog 10 #[.agg x.c.toArray] w fun e W => e = .returned (.bool b) ∧ Mb w W := by
  refine fn_pure [.agg (x.c.map rel1).toArray] Tryz.func10 rfl rfl rfl (run_ok (st mo ?_))
  refine ⟨_, fun nn => r_call (t := .int .i64 (szX 60 x)) rfl rfl Tryz.func28 (fun W M E => t_size 60 x W (by decide) ((hL.mono E).lx 60)), st mo ⟨fun h => st mo ?_, fun h => st mo ?_⟩⟩
  · show _ = _; rw [← hb, decide_eq_true h]
  · show _ = _; rw [← hb, decide_eq_false (by omega)]
end Go.Proofs.YtfmfeipeeedfpaaGreat
namespace Go.Proofs.YtfmfeipeeedfpaaGreat
open Go.ChangeShapes Go.WideShapes Go.ChangeAt Go.RowKit
open S (Lies)
theorem LT.le {w : World} {d : Nat} {x : Ex} (h : LT w d x) : ∀ {e : Nat}, d ≤ e → LT w e x := by
  intro e he
  induction he with
  | refl => exact h
  | step _ ih => exact ih.up
theorem LT.xu {w : World} : ∀ {d : Nat} {x : Ex}, LT w d x → XU d x → XU (d + 1) x
  | 0, x, h, u => ⟨u, fun y hy => by rw [show x.a = [] from h] at hy; cases hy⟩
  | d + 1, x, h, u => ⟨u.1, fun y hy => by
    obtain ⟨i, hi⟩ := List.getElem?_of_mem hy
    exact (h.at hi).2.xu (u.2 y hy)⟩
theorem LT.leU {w : World} {d : Nat} {x : Ex} (h : LT w d x) (u : XU d x) : ∀ {e : Nat}, d ≤ e → LT w e x ∧ XU e x := by
  intro e he
  induction he with
  | refl => exact ⟨h, u⟩
  | step _ ih => exact ⟨ih.1.up, ih.1.xu ih.2⟩
namespace D
def dn00 : Dn := ⟨false, 0, 0⟩
theorem cl_int : Tryz.prog.cellsOf 3 = 1 := by kernel_rfl
theorem cl_bool : Tryz.prog.cellsOf 4 = 1 := by kernel_rfl
theorem cl_string : Tryz.prog.cellsOf 9 = 1 := by kernel_rfl
theorem cl_u64 : Tryz.prog.cellsOf 22 = 1 := by kernel_rfl
theorem cl_nat : Tryz.prog.cellsOf 24 = 4 := by kernel_rfl
theorem cl_dec : Tryz.prog.cellsOf 26 = 6 := by kernel_rfl
theorem cl_val : Tryz.prog.cellsOf 28 = 10 := by kernel_rfl
theorem cl_sx : Tryz.prog.cellsOf 29 = 1 := by kernel_rfl
theorem cl_ex : Tryz.prog.cellsOf 31 = 17 := by kernel_rfl
theorem cl_st : Tryz.prog.cellsOf 146 = 18 := by kernel_rfl
theorem cl_ss : Tryz.prog.cellsOf 112 = 1 := by kernel_rfl
theorem cl_tb : Tryz.prog.cellsOf 114 = 2 := by kernel_rfl
/-- A slice's elements lie there. -/
def SL (W : World) (n : Nat) {α : Type} (cells : α → List Value) (pa : Option Addr) (L : List α) : Prop := L.length ≤ maxLen ∧ ∀ i o, L[i]? = some o → ∃ b off, pa = some ⟨b, off, none⟩ ∧ b < W.heap.size ∧ W.rangeAt b (off + i * n) (cells o)
theorem wf_u {n : Int} (h : (Lit.int .u64 n).wf = true) : U1 n := by
  have h : (decide (IntKind.u64.min ≤ n) && decide (n ≤ IntKind.u64.max)) = true := h
  rw [Bool.and_eq_true, decide_eq_true_eq, decide_eq_true_eq] at h
  have e1 : IntKind.u64.min = 0 := by decide
  have e2 : IntKind.u64.max = 18446744073709551615 := by decide
  unfold U1; omega
section
variable {H : Type} {enc : TypeId × Value → H} {W : World} {sp : Nat → Bool}
/-- A slice that came in, of elements that are read with less fuel. -/
theorem cut_sl {fuel : Nat} {x : DataW H × List MemPlace} {t e : TypeId} (hu : Tryz.prog.underlying t = some (.slice e)) {n : Nat} (hn : 0 < n) (hcl : Tryz.prog.cellsOf e = n) {α : Type} (cells : α → List Value) (dflt : α) (ok : α → Prop) (hlen : ∀ y, (cells y).length = n)
    (hcut : ∀ {m : Nat} {cs : List Value} {y : DataW H × List MemPlace}, m < fuel → DataW.trod enc Tryz.prog W 0 sp true m e cs = some y → ∃ z, ok z ∧ cs = cells z) {v : Value} (h : DataW.trod enc Tryz.prog W 0 sp true fuel t [v] = some x) :
    ∃ (L : List α) (pa : Option Addr) (cap : Nat), v = .slice pa L.length cap ∧ (∀ o ∈ L, ok o) ∧ SL W n cells pa L ∧ L.length ≤ cap := by
  rcases DataW.trod_slice hu h with ⟨hcs, _⟩ | ⟨a, len, cap, elems, rest, k, rfl, hcs, _, _, hlc, hcm, hlen2, hel, _, _⟩
  · simp only [List.cons.injEq, and_true] at hcs
    subst hcs
    exact ⟨[], none, 0, rfl, fun _ e => (by cases e), ⟨Nat.zero_le _, (fun _ _ e => by cases e)⟩, Nat.le_refl _⟩
  · simp only [List.cons.injEq, and_true] at hcs
    subst hcs
    have first : ∀ o : α, ∃ u, (cells o)[0]? = some u := fun o => ⟨(cells o)[0]'(by rw [hlen]; exact hn), List.getElem?_eq_getElem _⟩
    have el : ∀ i, i < len → ∃ cs' y, W.cells? 0 (a.add (i * Tryz.prog.cellsOf e)) (Tryz.prog.cellsOf e) = some cs' ∧ DataW.trod enc Tryz.prog W 0 sp true k e cs' = some y := fun i hi => by
      have h1 := hel i hi
      rw [List.getElem?_eq_getElem (by omega)] at h1
      cases h2 : W.cells? 0 (a.add (i * Tryz.prog.cellsOf e)) (Tryz.prog.cellsOf e) with
      | none => rw [h2] at h1; cases h1
      | some cs' => rw [h2] at h1; exact ⟨cs', _, rfl, h1⟩
    have key : ∀ i : Nat, ∃ S : α, i < len → ok S ∧ ∃ b off, some a = some (⟨b, off, none⟩ : Addr) ∧ b < W.heap.size ∧ W.rangeAt b (off + i * n) (cells S) := by
      intro i
      by_cases hi : i < len
      · obtain ⟨cs', y, hc, ht⟩ := el i hi
        obtain ⟨o, ho, rfl⟩ := hcut (Nat.lt_succ_self k) ht
        refine ⟨o, fun _ => ⟨ho, ?_⟩⟩
        rw [hcl] at hc
        have hb := World.cells?_block hc hn
        obtain ⟨_, _, hcell⟩ := World.cells?_some hc
        obtain ⟨b, off, spot⟩ := a
        have hs : spot = none := by
          obtain ⟨cs0, y0, hc0, ht0⟩ := el 0 (by omega)
          obtain ⟨o0, _, rfl⟩ := hcut (Nat.lt_succ_self k) ht0
          rw [hcl] at hc0
          have h0 := (World.cells?_some hc0).2.2 0 hn
          obtain ⟨u, hu0⟩ := first o0
          rw [hu0] at h0
          have := World.cell?_spot (show W.cell? (((⟨b, off, spot⟩ : Addr).add (0 * n)).add 0) = some u from h0)
          simpa [Addr.add] using this
        subst hs
        refine ⟨b, off, rfl, by simpa [Addr.add_mid] using hb, fun j v hv => ?_⟩
        have hj : j < n := by rw [← hlen o]; exact (List.getElem?_eq_some_iff.1 hv).1
        have := hcell j hj
        rw [Addr.add_mid, Addr.add_mid, hv] at this
        exact this
      · exact ⟨dflt, fun e => absurd e hi⟩
    obtain ⟨f, hf2⟩ := Classical.skolem.1 key
    refine ⟨(List.range len).map f, some a, cap, by simp, fun o ho => ?_, ⟨by simpa using Nat.le_trans hlc hcm, fun i o e => ?_⟩, by simpa using hlc⟩
    · obtain ⟨i, hi, rfl⟩ := List.mem_map.1 ho
      exact (hf2 i (by simpa using hi)).1
    · have hi : i < len := by have := (List.getElem?_eq_some_iff.1 e).1; simpa using this
      rw [List.getElem?_map, List.getElem?_range hi] at e
      cases e
      exact (hf2 i hi).2
set_option maxRecDepth 100000 in
theorem cut_arr {fuel : Nat} {cs : List Value} {x : DataW H × List MemPlace} (h : DataW.trod enc Tryz.prog W 0 sp true fuel 24 cs = some x) : ∃ n0 n1 n2 n3 : Int, U1 n0 ∧ U1 n1 ∧ U1 n2 ∧ U1 n3 ∧ cs = [.int .u64 n0, .int .u64 n1, .int .u64 n2, .int .u64 n3] := by
  obtain ⟨xs, m, rfl, _, hlen, hn, hi⟩ := DataW.trod_array Tryz.underlying24 h
  rw [cl_nat] at hlen
  obtain ⟨c0, c1, c2, c3, rfl⟩ : ∃ c0 c1 c2 c3, cs = [c0, c1, c2, c3] := by
    match cs, hlen with
    | [a0, a1, a2, a3], _ => exact ⟨a0, a1, a2, a3, rfl⟩
  obtain ⟨y0, y1, y2, y3, rfl⟩ : ∃ y0 y1 y2 y3, xs = [y0, y1, y2, y3] := by
    match xs, hn with
    | [a0, a1, a2, a3], _ => exact ⟨a0, a1, a2, a3, rfl⟩
  have i0 := hi 0 (by decide)
  have i1 := hi 1 (by decide)
  have i2 := hi 2 (by decide)
  have i3 := hi 3 (by decide)
  simp only [cl_u64] at i0 i1 i2 i3
  simp at i0 i1 i2 i3
  obtain ⟨x0, e0, _, f0⟩ := DataW.trod_int Tryz.underlying22 i0
  obtain ⟨x1, e1, _, f1⟩ := DataW.trod_int Tryz.underlying22 i1
  obtain ⟨x2, e2, _, f2⟩ := DataW.trod_int Tryz.underlying22 i2
  obtain ⟨x3, e3, _, f3⟩ := DataW.trod_int Tryz.underlying22 i3
  simp at e0 e1 e2 e3
  subst e0 e1 e2 e3
  exact ⟨x0, x1, x2, x3, wf_u f0, wf_u f1, wf_u f2, wf_u f3, rfl⟩
theorem cut_nat {fuel : Nat} {cs : List Value} {x : DataW H × List MemPlace} (h : DataW.trod enc Tryz.prog W 0 sp true fuel 24 cs = some x) : ∃ n : Int, (0 ≤ n ∧ n < MM) ∧ cs = [.int .u64 (l0 n), .int .u64 (l1 n), .int .u64 (l2 n), .int .u64 (l3 n)] := by
  obtain ⟨a, b, c, d, h0, h1, h2, h3, rfl⟩ := cut_arr h
  have u : U4 a b c d := ⟨h0, h1, h2, h3⟩
  exact ⟨vl a b c d, vl_bd u, by rw [l0_vl u, l1_vl u, l2_vl u, l3_vl u]⟩
set_option maxRecDepth 100000 in
theorem cut_dn {fuel : Nat} {cs : List Value} {x : DataW H × List MemPlace} (h : DataW.trod enc Tryz.prog W 0 sp true fuel 26 cs = some x) : ∃ d : Dn, d.ok ∧ cs = d.cells := by
  obtain ⟨xs, m, rfl, _, hl, hlen, hi⟩ := DataW.trod_struct Tryz.underlying26 h
  rw [cl_dec] at hl
  obtain ⟨c0, c1, c2, c3, c4, c5, rfl⟩ : ∃ c0 c1 c2 c3 c4 c5, cs = [c0, c1, c2, c3, c4, c5] := by
    match cs, hl with
    | [a0, a1, a2, a3, a4, a5], _ => exact ⟨a0, a1, a2, a3, a4, a5, rfl⟩
  obtain ⟨y0, y1, y2, rfl⟩ : ∃ y0 y1 y2, xs = [y0, y1, y2] := by
    match xs, hlen with
    | [a0, a1, a2], _ => exact ⟨a0, a1, a2, rfl⟩
  have i0 := hi 0 _ rfl
  have i1 := hi 1 _ rfl
  have i2 := hi 2 _ rfl
  simp [cl_bool, cl_nat, cl_int] at i0 i1 i2
  obtain ⟨b, e0, _⟩ := DataW.trod_bool Tryz.underlying4 i0
  obtain ⟨n, hn, e1⟩ := cut_nat i1
  obtain ⟨s, e2, _, f2⟩ := DataW.trod_int Tryz.underlying3 i2
  simp at e0 e1 e2
  obtain ⟨e1_0, e1_1, e1_2, e1_3⟩ := e1
  subst e0 e1_0 e1_1 e1_2 e1_3 e2
  exact ⟨⟨b, n, s⟩, hn, rfl⟩
set_option maxRecDepth 100000 in
theorem cut_vl {fuel : Nat} {cs : List Value} {x : DataW H × List MemPlace} (h : DataW.trod enc Tryz.prog W 0 sp true fuel 28 cs = some x) : ∃ v : VL, v.ok ∧ cs = v.cells := by
  obtain ⟨xs, m, rfl, _, hl, hlen, hi⟩ := DataW.trod_struct Tryz.underlying28 h
  rw [cl_val] at hl
  obtain ⟨c0, c1, c2, c3, c4, c5, c6, c7, c8, c9, rfl⟩ : ∃ c0 c1 c2 c3 c4 c5 c6 c7 c8 c9, cs = [c0, c1, c2, c3, c4, c5, c6, c7, c8, c9] := by
    match cs, hl with
    | [a0, a1, a2, a3, a4, a5, a6, a7, a8, a9], _ => exact ⟨a0, a1, a2, a3, a4, a5, a6, a7, a8, a9, rfl⟩
  obtain ⟨y0, y1, y2, y3, y4, rfl⟩ : ∃ y0 y1 y2 y3 y4, xs = [y0, y1, y2, y3, y4] := by
    match xs, hlen with
    | [a0, a1, a2, a3, a4], _ => exact ⟨a0, a1, a2, a3, a4, rfl⟩
  have i0 := hi 0 _ rfl
  have i1 := hi 1 _ rfl
  have i2 := hi 2 _ rfl
  have i3 := hi 3 _ rfl
  have i4 := hi 4 _ rfl
  simp [cl_int, cl_dec, cl_bool, cl_string] at i0 i1 i2 i3 i4
  obtain ⟨k, e0, _, f0⟩ := DataW.trod_int Tryz.underlying3 i0
  obtain ⟨d, hd, e1⟩ := cut_dn i1
  obtain ⟨f, e2, _⟩ := DataW.trod_bool Tryz.underlying4 i2
  obtain ⟨t, e3, _, _⟩ := DataW.trod_string Tryz.underlying9 i3
  obtain ⟨er, e4, _, f4⟩ := DataW.trod_int Tryz.underlying3 i4
  simp only [Dn.cells] at e1
  simp at e0 e1 e2 e3 e4
  obtain ⟨e1_0, e1_1, e1_2, e1_3, e1_4, e1_5⟩ := e1
  subst e0 e1_0 e1_1 e1_2 e1_3 e1_4 e1_5 e2 e3 e4
  exact ⟨⟨k, d.b, d.n, d.s, f, t, er⟩, hd, rfl⟩
set_option maxRecDepth 100000 in
theorem cut_st {fuel : Nat} {cs : List Value} {x : DataW H × List MemPlace} (h : DataW.trod enc Tryz.prog W 0 sp true fuel 146 cs = some x) : ∃ s : Stp, s.ok ∧ cs = s.cells := by
  obtain ⟨xs, m, rfl, _, hl, hlen, hi⟩ := DataW.trod_struct Tryz.underlying146 h
  rw [cl_st] at hl
  obtain ⟨c0, c1, c2, c3, c4, c5, c6, c7, c8, c9, c10, c11, c12, c13, c14, c15, c16, c17, rfl⟩ : ∃ c0 c1 c2 c3 c4 c5 c6 c7 c8 c9 c10 c11 c12 c13 c14 c15 c16 c17, cs = [c0, c1, c2, c3, c4, c5, c6, c7, c8, c9, c10, c11, c12, c13, c14, c15, c16, c17] := by
    match cs, hl with
    | [a0, a1, a2, a3, a4, a5, a6, a7, a8, a9, a10, a11, a12, a13, a14, a15, a16, a17], _ => exact ⟨a0, a1, a2, a3, a4, a5, a6, a7, a8, a9, a10, a11, a12, a13, a14, a15, a16, a17, rfl⟩
  obtain ⟨y0, y1, y2, rfl⟩ : ∃ y0 y1 y2, xs = [y0, y1, y2] := by
    match xs, hlen with
    | [a0, a1, a2], _ => exact ⟨a0, a1, a2, rfl⟩
  have i0 := hi 0 _ rfl
  have i1 := hi 1 _ rfl
  have i2 := hi 2 _ rfl
  simp [cl_dec] at i0 i1 i2
  obtain ⟨a, ha, e0⟩ := cut_dn i0
  obtain ⟨b, hb, e1⟩ := cut_dn i1
  obtain ⟨c, hc, e2⟩ := cut_dn i2
  simp only [Dn.cells] at e0 e1 e2
  simp at e0 e1 e2
  obtain ⟨e0_0, e0_1, e0_2, e0_3, e0_4, e0_5⟩ := e0
  obtain ⟨e1_0, e1_1, e1_2, e1_3, e1_4, e1_5⟩ := e1
  obtain ⟨e2_0, e2_1, e2_2, e2_3, e2_4, e2_5⟩ := e2
  subst e0_0 e0_1 e0_2 e0_3 e0_4 e0_5 e1_0 e1_1 e1_2 e1_3 e1_4 e1_5 e2_0 e2_1 e2_2 e2_3 e2_4 e2_5
  exact ⟨⟨a, b, c⟩, ⟨ha, hb, hc⟩, rfl⟩
set_option maxRecDepth 100000 in
theorem cut_tb {fuel : Nat} {cs : List Value} {x : DataW H × List MemPlace} (h : DataW.trod enc Tryz.prog W 0 sp true fuel 114 cs = some x) : ∃ t : Tb, TbL W t ∧ cs = t.cells := by
  obtain ⟨xs, m, rfl, _, hl, hlen, hi⟩ := DataW.trod_struct Tryz.underlying114 h
  rw [cl_tb] at hl
  obtain ⟨c0, c1, rfl⟩ : ∃ c0 c1, cs = [c0, c1] := by
    match cs, hl with
    | [a0, a1], _ => exact ⟨a0, a1, rfl⟩
  obtain ⟨y0, y1, rfl⟩ : ∃ y0 y1, xs = [y0, y1] := by
    match xs, hlen with
    | [a0, a1], _ => exact ⟨a0, a1, rfl⟩
  have i0 := hi 0 _ rfl
  have i1 := hi 1 _ rfl
  simp [cl_string, cl_ss] at i0 i1
  obtain ⟨nm, e0, _, _⟩ := DataW.trod_string Tryz.underlying9 i0
  obtain ⟨L, pa, cap, e1, hL, hS, _⟩ := cut_sl Tryz.underlying112 (n := 18) (by decide) cl_st Stp.cells ⟨dn00, dn00, dn00⟩ Stp.ok Stp.len (fun _ h => cut_st h) i1
  simp at e0
  subst e0 e1
  exact ⟨⟨nm, pa, cap, L⟩, ⟨fun i y hy => by
    obtain ⟨b, o, h1, _, h2⟩ := hS.2 i y hy
    exact ⟨b, o, h1, h2⟩, hL, hS.1⟩, rfl⟩
set_option maxRecDepth 100000 in
theorem cut_ex : ∀ (fuel : Nat) {cs : List Value} {x : DataW H × List MemPlace}, DataW.trod enc Tryz.prog W 0 sp true fuel 31 cs = some x → ∃ e : Ex, (LT W fuel e ∧ XU fuel e) ∧ cs = e.c := by
  intro fuel
  induction fuel using Nat.strongRecOn with
  | ind fuel ih =>
    intro cs x h
    obtain ⟨xs, m, rfl, _, hl, hlen, hi⟩ := DataW.trod_struct Tryz.underlying31 h
    rw [cl_ex] at hl
    obtain ⟨c0, c1, c2, c3, c4, c5, c6, c7, c8, c9, c10, c11, c12, c13, c14, c15, c16, rfl⟩ : ∃ c0 c1 c2 c3 c4 c5 c6 c7 c8 c9 c10 c11 c12 c13 c14 c15 c16, cs = [c0, c1, c2, c3, c4, c5, c6, c7, c8, c9, c10, c11, c12, c13, c14, c15, c16] := by
      match cs, hl with
      | [a0, a1, a2, a3, a4, a5, a6, a7, a8, a9, a10, a11, a12, a13, a14, a15, a16], _ => exact ⟨a0, a1, a2, a3, a4, a5, a6, a7, a8, a9, a10, a11, a12, a13, a14, a15, a16, rfl⟩
    obtain ⟨y0, y1, y2, y3, y4, y5, y6, y7, rfl⟩ : ∃ y0 y1 y2 y3 y4 y5 y6 y7, xs = [y0, y1, y2, y3, y4, y5, y6, y7] := by
      match xs, hlen with
      | [a0, a1, a2, a3, a4, a5, a6, a7], _ => exact ⟨a0, a1, a2, a3, a4, a5, a6, a7, rfl⟩
    have i0 := hi 0 _ rfl
    have i1 := hi 1 _ rfl
    have i2 := hi 2 _ rfl
    have i3 := hi 3 _ rfl
    have i4 := hi 4 _ rfl
    have i5 := hi 5 _ rfl
    have i6 := hi 6 _ rfl
    have i7 := hi 7 _ rfl
    simp [cl_int, cl_string, cl_val, cl_sx] at i0 i1 i2 i3 i4 i5 i6 i7
    obtain ⟨k, e0, _, f0⟩ := DataW.trod_int Tryz.underlying3 i0
    obtain ⟨op, e1, _, f1⟩ := DataW.trod_int Tryz.underlying3 i1
    obtain ⟨nm, e2, _, _⟩ := DataW.trod_string Tryz.underlying9 i2
    obtain ⟨se, e3, _, _⟩ := DataW.trod_string Tryz.underlying9 i3
    obtain ⟨v, hv, e4⟩ := cut_vl i4
    obtain ⟨sc, e5, _, f5⟩ := DataW.trod_int Tryz.underlying3 i5
    obtain ⟨po, e6, _, f6⟩ := DataW.trod_int Tryz.underlying3 i6
    obtain ⟨A, pa, cap, e7, hL, hS, _⟩ := cut_sl Tryz.underlying29 (n := 17) (by decide) cl_ex Ex.c (.mk 0 0 ⟨#[]⟩ ⟨#[]⟩ 0 false 0 0 0 0 0 false ⟨#[]⟩ 0 0 0 none 0 []) (fun z => LT W m z ∧ XU m z) (fun _ => rfl) (fun hm h => by obtain ⟨z, ⟨h1, h2⟩, h3⟩ := ih _ (by omega) h; exact ⟨z, h1.leU h2 (by omega), h3⟩) i7
    simp only [VL.cells] at e4
    simp at e0 e1 e2 e3 e4 e5 e6
    obtain ⟨e4_0, e4_1, e4_2, e4_3, e4_4, e4_5, e4_6, e4_7, e4_8, e4_9⟩ := e4
    subst e0 e1 e2 e3 e4_0 e4_1 e4_2 e4_3 e4_4 e4_5 e4_6 e4_7 e4_8 e4_9 e5 e6 e7
    refine ⟨.mk k op nm se v.k v.b (l0 v.n) (l1 v.n) (l2 v.n) (l3 v.n) v.s v.f v.t v.e sc po pa cap A, ⟨⟨hS.1, fun i y hy => ⟨?_, (hL y (List.mem_of_getElem? hy)).1⟩⟩, u4_lb v.n, fun y hy => (hL y hy).2⟩, rfl⟩
    obtain ⟨b, o, h1, _, h2⟩ := hS.2 i y hy
    exact ⟨b, o, h1, h2⟩
end
end D
end Go.Proofs.YtfmfeipeeedfpaaGreat
namespace Go.Proofs.YtfmfeipeeedfpaaGreat
open Go.ChangeShapes Go.WideShapes Go.ChangeAt Go.RowKit
open S (Lies)
open D
theorem laidOut : laidOutB Tryz.prog = true := by kernel_rfl
/-- What came in reads as it did, where its places are the same. -/
theorem trodAll_stays {H : Type} {enc : TypeId × Value → H} {W W' : World} {sp' : Nat → Bool} : ∀ {ts : List TypeId} {vs : List Value} {ds : List (DataW H)} {ps : List MemPlace}, (∀ t ∈ ts, Tryz.prog.readableRec t = true ∧ t < Tryz.prog.types.size) → DataW.TrodAll enc Tryz.prog W 0 (fun _ => true) true ts vs ds ps → (∀ p ∈ ps, W.sameAt W' p) → (∀ p ∈ ps, sp' p.block = true) → DataW.TrodAll enc Tryz.prog W' 0 sp' true ts vs ds ps
  | [], [], [], _, _, h, _, _ => h
  | _ :: _, _ :: _, _ :: _, _, hT, ⟨p, q, h1, h2, e⟩, hm, hs => ⟨p, q, WideElems.Trod_stays laidOut (hT _ (List.mem_cons.2 (Or.inl rfl))).1 (hT _ (List.mem_cons.2 (Or.inl rfl))).2 h1 (fun x hx => hm x (by rw [e]; exact List.mem_append_left _ hx)) (fun x hx => hs x (by rw [e]; exact List.mem_append_left _ hx)),
      trodAll_stays (fun t ht => hT t (List.mem_cons.2 (Or.inr ht))) h2 (fun x hx => hm x (by rw [e]; exact List.mem_append_right _ hx)) (fun x hx => hs x (by rw [e]; exact List.mem_append_right _ hx)), e⟩
/-- The end of a row: what was there has not turned. -/
theorem post_mw {H : Type} {enc : TypeId × Value → H} {P : Program} {f : Func} {s : ChangeSpec} {apart fresh handsOn : Bool} {W W' : World} {args : Array Value} {v : Value} {ds gs : List (DataW H)} {p : List MemPlace}
    (hW : DataW.Whole enc P f.params.toList s.vars apart W args.toList ds gs p)
    (hres : ∀ (b : Nat) (sp : Nat → Bool) (hd : Bool), DataW.TrodAll enc P W' b sp hd f.resultTypes.toList (v.resultList f.resultTypes.size) (s.fn H (ds ++ gs)).results [])
    (hargs : ∀ sp : Nat → Bool, (∀ x ∈ p, sp x.block = true) → DataW.TrodAll enc P W' 0 sp true f.params.toList args.toList (s.fn H (ds ++ gs)).args p)
    (hvars : ∀ sp : Nat → Bool, DataW.TrodVars enc P W' sp s.vars (s.fn H (ds ++ gs)).vars []) (hk : Below W.heap.size W W') :
    s.post enc P f apart fresh handsOn false W args v W' :=
  ⟨ds, gs, p, [], p, [], hW, hres _ _ _, hargs _ (fun x hx => by simpa using hW.lt x hx), hvars _, World.keptBut_mono (fun x hx => ⟨hx, Or.inr (Or.inl hx)⟩) (Below.frame hk (· ∈ p)), fun h => by cases h⟩
section
variable {H : Type} {enc : TypeId × Value → H} {W : World} {sp : Nat → Bool}
theorem bulk_mem {d : DataW H} : ∀ {l : List (DataW H)}, d ∈ l → Rows.uptoBulk d ≤ Rows.uptoBulkAll l
  | x :: l, h => by
    simp only [Rows.uptoBulkAll]
    rcases List.mem_cons.1 h with rfl | h
    · omega
    · have := bulk_mem h; omega
theorem bulk_sum {d : Nat} : ∀ (L : List Ex) (E : List (DataW H)) (b : Nat), E.length = L.length → (∀ (i : Nat) (a : Ex) (z : DataW H), L[i]? = some a → E[i]? = some z → nds d a ≤ Rows.uptoBulk z) → L.foldl (fun n a => n + nds d a) b ≤ b + Rows.uptoBulkAll E
  | [], _, b, _, _ => by simp
  | a :: L, [], b, h, _ => by simp at h
  | a :: L, z :: E, b, h, hb => by
    have h1 := hb 0 a z rfl rfl
    have h2 := bulk_sum L E (b + nds d a) (by simpa using h) (fun i x y hx hy => hb (i + 1) x y (by simpa using hx) (by simpa using hy))
    simp only [List.foldl_cons, Rows.uptoBulkAll]
    omega
/-- A slice that was read: its elements were, and its bulk is theirs. -/
theorem bk_sl {fuel : Nat} {x : DataW H × List MemPlace} {t e : TypeId} (hu : Tryz.prog.underlying t = some (.slice e)) {n : Nat} (hcl : Tryz.prog.cellsOf e = n) {α : Type} {cells : α → List Value} (hlen : ∀ y, (cells y).length = n)
    {pa : Option Addr} {L : List α} {cap : Nat} (hS : ∀ i o, L[i]? = some o → ∃ b off, pa = some ⟨b, off, none⟩ ∧ Lies W b (off + i * n) (cells o)) (h : DataW.trod enc Tryz.prog W 0 sp true fuel t [.slice pa L.length cap] = some x) :
    ∃ E : List (DataW H), E.length = L.length ∧ Rows.uptoBulkAll E ≤ Rows.uptoBulk x.1 ∧ ∀ (i : Nat) (o : α) (d : DataW H), L[i]? = some o → E[i]? = some d → ∃ m y, m < fuel ∧ DataW.trod enc Tryz.prog W 0 sp true m e (cells o) = some y ∧ y.1 = d := by
  rcases DataW.trod_slice hu h with ⟨hcs, _⟩ | ⟨a, len, cap', elems, rest, k, rfl, hcs, hx, _, _, _, hlen2, hel, _, _⟩
  · simp only [List.cons.injEq, Value.slice.injEq, and_true] at hcs
    have h0 : L = [] := List.length_eq_zero_iff.1 hcs.2.1
    subst h0
    exact ⟨[], rfl, by simp [Rows.uptoBulkAll], fun i o d hi => by simp at hi⟩
  · simp only [List.cons.injEq, Value.slice.injEq, and_true] at hcs
    obtain ⟨rfl, rfl, rfl⟩ := hcs
    refine ⟨elems.map (·.1), by simp; omega, ?_, fun i o d hi hd => ?_⟩
    · rw [hx]; simp only [Rows.uptoBulk]; omega
    · have hil : i < L.length := lt_of_get hi
      have h1 := hel i hil
      obtain ⟨y, hy⟩ := get_of_lt (show i < elems.length by omega)
      rw [List.getElem?_map, hy] at hd
      rw [hy, hcl] at h1
      cases h2 : W.cells? 0 (a.add (i * n)) n with
      | none => rw [h2] at h1; cases h1
      | some cs =>
        rw [h2] at h1
        obtain ⟨_, hcn, hcc⟩ := World.cells?_some h2
        obtain ⟨b, off, e1, hr⟩ := hS i o hi
        cases e1
        have e2 : cs = cells o := by
          refine List.ext_getElem? (fun j => ?_)
          rcases Nat.lt_or_ge j n with q | q
          · rw [← hcc j q]
            obtain ⟨v, hv⟩ := get_of_lt (show j < (cells o).length by rw [hlen]; exact q)
            rw [hv, Addr.add_mid, Addr.add_mid]
            exact hr j v hv
          · rw [List.getElem?_eq_none (by omega), List.getElem?_eq_none (by rw [hlen]; omega)]
        subst e2
        exact ⟨k, y, Nat.lt_succ_self _, h1, by simpa using hd⟩
/-- A field of a struct that was read. -/
theorem bk_fd {fuel : Nat} {cs : List Value} {x : DataW H × List MemPlace} {t : TypeId} {fs : Array Field} (hu : Tryz.prog.underlying t = some (.struct fs)) (h : DataW.trod enc Tryz.prog W 0 sp true fuel t cs = some x) (j T O : Nat) {N : Nat} (hT : (fs[j]?).map (fun f => (f.type, f.offset)) = some (T, O)) (hN : Tryz.prog.cellsOf T = N) :
    ∃ m y, m < fuel ∧ DataW.trod enc Tryz.prog W 0 sp true m T ((cs.drop O).take N) = some y ∧ Rows.uptoBulk y.1 + 1 ≤ Rows.uptoBulk x.1 := by
  obtain ⟨f, hf, e⟩ := Option.map_eq_some_iff.1 hT
  cases e
  subst hN
  obtain ⟨xs, m, rfl, hx, _, hlen, hi⟩ := DataW.trod_struct hu h
  have h1 := hi j f hf
  have hj : j < fs.size := (Array.getElem?_eq_some_iff.1 hf).1
  obtain ⟨y, hy⟩ := get_of_lt (show j < xs.length by omega)
  rw [hy] at h1
  refine ⟨m, y, Nat.lt_succ_self _, h1, ?_⟩
  have h2 : y.1 ∈ xs.map (·.1) := List.mem_map_of_mem (List.mem_of_getElem? hy)
  have h3 := bulk_mem h2
  rw [hx]
  simp only [Rows.uptoBulk]
  omega
theorem nds_bulk : ∀ (fuel d : Nat) {e : Ex} {x : DataW H × List MemPlace}, LT W d e → DataW.trod enc Tryz.prog W 0 sp true fuel 31 e.c = some x → nds d e ≤ Rows.uptoBulk x.1 := by
  intro fuel
  induction fuel using Nat.strongRecOn with
  | ind fuel ih =>
    intro d e x hL h
    obtain ⟨m, y, hm, hy, hyz⟩ := bk_fd Tryz.underlying31 h 7 29 16 rfl cl_sx
    cases d with
    | zero => show 1 ≤ _; omega
    | succ d =>
    obtain ⟨E, h1, h2, h3⟩ := bk_sl Tryz.underlying29 cl_ex (fun _ => rfl) (fun i o ho => (hL.2 i o ho).1) (cap := e.cl) hy
    have h4 := bulk_sum (d := d) e.a E 1 h1 (fun i a z ha hd => by
      obtain ⟨m2, y2, hm2, hy2, rfl⟩ := h3 i a z ha hd
      exact ih m2 (by omega) d (hL.2 i a ha).2 hy2)
    show e.a.foldl (fun n y => n + nds d y) 1 ≤ _
    omega
variable {base : Nat} {v : Value} {d : DataW H} {p : List MemPlace}
set_option maxRecDepth 100000 in
theorem open_exB (hv : Value.okWide Tryz.prog W .any base 31 v) (h : DataW.Trod enc Tryz.prog W 0 (fun _ => true) true 31 v d p) : ∃ (n : Nat) (x : Ex), (LT W n x ∧ XU n x) ∧ nds n x ≤ Rows.uptoBulk d ∧ v = .agg x.c.toArray := by
  obtain ⟨a, rfl, _⟩ := okWide_struct Tryz.underlying31 hv
  obtain ⟨fuel, hf⟩ := h
  obtain ⟨x, hx, e⟩ := cut_ex fuel hf
  refine ⟨fuel, x, hx, ?_, by rw [← e]; simp [Value.cells]⟩
  rw [e] at hf
  exact nds_bulk fuel fuel hx.1 hf
end
end Go.Proofs.YtfmfeipeeedfpaaGreat
namespace Go.Proofs.YtfmfeipeeedfpaaGreat
namespace S
open Go.RowKit (Below)
theorem Xf.tr {A B C : World} (h : Xf A B) (g : Xf B C) : Xf A C := ⟨Nat.le_trans g.1 h.1, fun b o h1 h2 => by
  obtain ⟨h3, h4⟩ := g.2 b o h1 h2
  exact h.2 b o h3 h4⟩
/-- This block is not told of. -/
def Ho (X : World) (b : Nat) : Prop := ∀ o : Obj, X.heap[b]? = some o → o = hole X
theorem Ho.xf {X X' : World} (h : Xf X' X) {b : Nat} (g : Ho X' b) : Ho X b := fun o ho => Classical.byContradiction fun hne => (h.2 b o ho hne).2 (g o (h.2 b o ho hne).1)
/-- A fact about certain blocks: it hangs on what is told of these alone. -/
structure Lcl {Y : Type} (F : Y → (Nat → Prop) → World → Prop) : Prop where
  le : ∀ y (S T : Nat → Prop) X, (∀ b, S b → T b) → F y S X → F y T X
  lo : ∀ y (S : Nat → Prop) X X', (∀ (b : Nat) (o : Obj), S b → X.heap[b]? = some o → o ≠ hole X → X'.heap[b]? = some o ∧ o ≠ hole X') → F y S X → F y S X'
theorem Lcl.xf {Y : Type} {F : Y → (Nat → Prop) → World → Prop} (h : Lcl F) {y : Y} {S : Nat → Prop} {X X' : World} (hX : Xf X' X) (hF : F y S X) : F y S X' := h.lo y S X X' (fun b o _ h1 h2 => hX.2 b o h1 h2) hF
/-- What a call comes to, in several ways. -/
def Fp (k : K) (n : Nat) (W : World) (b : Nat) : Prop := W.heap.size ≤ b ∨ ∃ j z, j < n ∧ k j = some (b, z)
def CtrX {Y : Type} (P : Program) (X : World) (f : FuncId) (vs : List Value) (h : HT) (n m : Nat) (t : Y → Value) (h' : Y → HT) (n' : Nat) (F : Y → (Nat → Prop) → World → Prop) : Prop :=
  ∀ (W : World) (k : K) (us : List Value), Ky k h n W → Sees X k W → LR (VX k) vs us → Calls P f us.toArray W fun e W' => ∃ y u k', e = .returned u ∧ VX k' (t y) u ∧ Af k n m W k' (h' y) n' W' ∧
    ∀ X2 : World, (∀ (b : Nat) (o : Obj), Fp k n W b → W'.heap[b]? = some o → (∀ i z, k' i ≠ some (b, z)) → X2.heap[b]? = some o ∧ o ≠ hole X2) → F y (Fp k n W) X2
def retX {Y : Type} (P : Program) (fn : Func) (X : World) (m : Nat) (t : Y → Value) (h' : Y → HT) (n' : Nat) (F : Y → (Nat → Prop) → World → Prop) (e : Exit) (s : St) : Prop := Xf s.X X ∧ match e with
  | .normal => resK P s.f s.h fn.results.toList fun vs => ∃ y σ, F y (Ho X) s.X ∧ fitV σ (single vs) (t y) ∧ fitH σ s.h (h' y) ∧ σ.length = n' ∧ (apartL σ && pfx m σ) = true
  | .ret => resK P s.f s.h fn.results.toList fun vs => ∃ y σ, F y (Ho X) s.X ∧ fitV σ (single vs) (t y) ∧ fitH σ s.h (h' y) ∧ σ.length = n' ∧ (apartL σ && pfx m σ) = true
  | _ => False
/-- A world of which just these blocks are not told. -/
theorem ex_mask (W : World) (O : Nat → Prop) : ∃ X : World, X.heap.size = W.heap.size ∧ (∀ b, ¬ O b → X.heap[b]? = W.heap[b]?) ∧ (∀ b o, O b → X.heap[b]? = some o → o = hole X) ∧ ∀ (b : Nat) (o : Obj), W.heap[b]? = some o → o ≠ hole X := by
  obtain ⟨N, hN⟩ := ex_hole W.heap.toList
  have dec : ∀ b, Decidable (O b) := fun b => Classical.propDecidable _
  refine ⟨{ W with heap := W.heap.mapIdx (fun b o => @ite Obj (O b) (dec b) (.cells #[] N (0, 0)) o), drawn := N }, by simp, fun b hb => ?_, fun b o hb ho => ?_, fun b o ho => hN o (by
    obtain ⟨hlt, rfl⟩ := Array.getElem?_eq_some_iff.1 ho
    simp)⟩
  · show (W.heap.mapIdx _)[b]? = _
    rw [Array.getElem?_mapIdx]
    cases W.heap[b]? with
    | none => rfl
    | some o => simp only [Option.map_some, if_neg hb]
  · have ho : (W.heap.mapIdx (fun b o => @ite Obj (O b) (dec b) (.cells #[] N (0, 0)) o))[b]? = some o := ho
    rw [Array.getElem?_mapIdx] at ho
    cases hw : W.heap[b]? with
    | none => rw [hw] at ho; cases ho
    | some o' => rw [hw] at ho; simp only [Option.map_some, if_pos hb] at ho; cases ho; rfl
theorem tb_max (σ : List Nat) (j i : Nat) (hj : σ[j]? = some i) : tb (2 ^ (σ.foldl max 0 + 1) - 1) i := by
  unfold tb
  rw [Nat.testBit_two_pow_sub_one]
  have : ∀ (l : List Nat) (a x : Nat), (x ∈ l ∨ x ≤ a) → x ≤ l.foldl max a := by
    intro l
    induction l with
    | nil => intro a x hx; rcases hx with hx | hx; cases hx; exact hx
    | cons y l ih =>
      intro a x hx
      refine ih _ _ ?_
      rcases hx with hx | hx
      · rcases List.mem_cons.1 hx with rfl | hx
        · exact Or.inr (Nat.le_max_right _ _)
        · exact Or.inl hx
      · exact Or.inr (Nat.le_trans hx (Nat.le_max_left _ _))
  have := this σ 0 i (Or.inl (List.mem_of_getElem? hj))
  simp; omega
section
variable {P : Program} {Y : Type} {F : Y → (Nat → Prop) → World → Prop}
theorem fn_x (hF : Lcl F) {X : World} {f : FuncId} {fn : Func} {c : Code} {h : HT} {h' : Y → HT} {n m n' : Nat} {t : Y → Value} (vs : List Value) (hf : P.funcs[f]? = some fn) (hb : fn.body = some c) (hm : Nat.ble vs.length fn.ntmps = true) (hfull : full h n = true) (hmn : Nat.ble m n = true)
    (H : ∀ w l X', Xf X' X → WC P ⟨w, m, l⟩ c ⟨⟨fn.ntmps, argl 0 vs⟩, h, n, X'⟩ (retX P fn X' m t h' n' F)) : CtrX P X f vs h n m t h' n' F := by
  intro W k us ky hX hv
  refine calls_of_wp hf hb ?_
  have hmn' : m ≤ n := Nat.le_of_ble_eq_true hmn
  have hks : ∀ i, i < n → ∃ b z, k i = some (b, z) ∧ b < W.heap.size := fun i hi => by
    obtain ⟨cs, hcs⟩ := full_at hfull i hi
    exact (ky.hr.rep i (tb_ones.2 hi)).lt ⟨cs, hcs⟩
  obtain ⟨X', hXs, hXo, hXi, hN'⟩ := ex_mask W (fun b => ∃ j z, j < n ∧ k j = some (b, z))
  have hXf : Xf X' X := by
    refine ⟨by rw [hXs]; exact hX.sz, fun b o h1 h2 => ?_⟩
    have h3 := hX.see b o h1 h2
    have h4 : ¬ (∃ j z, j < n ∧ k j = some (b, z)) := fun ⟨j, z, _, hk⟩ => h2 (hX.out j b z hk o h1)
    exact ⟨by rw [hXo b h4]; exact h3, hN' b o h3⟩
  have R0 : Rl ⟨{ W with heap := #[] }, m, fun i => (k i).getD (0, 0)⟩ ⟨⟨fn.ntmps, argl 0 vs⟩, h, n, X'⟩ k W { tmps := us.toArray ++ Array.replicate (fn.ntmps - us.toArray.size) undef, defers := [] } := by
    refine ⟨args_fr hv (Nat.le_of_ble_eq_true hm), ky.hr, ky.nn, ky.nk, ⟨⟨rfl, rfl, rfl, Nat.zero_le _, fun b hb => absurd hb (Nat.not_lt_zero b)⟩, fun i b z _ => Nat.zero_le _, fun b o h1 h2 => ?_, fun i b z hk o ho => ?_, by rw [hXs]; exact Nat.le_refl _, fun i hi => ?_, Nat.le_refl _⟩⟩
    · have h4 : ¬ (∃ j z, j < n ∧ k j = some (b, z)) := fun hb => h2 (hXi b o hb h1)
      rw [hXo b h4] at h1; exact h1
    · refine hXi b o ⟨i, z, ?_, hk⟩ ho
      rcases Nat.lt_or_ge i n with h' | h'
      · exact h'
      · rw [ky.nk i h'] at hk; cases hk
    · obtain ⟨b, z, hk, _⟩ := hks i (Nat.lt_of_lt_of_le hi hmn')
      show k i = some ((k i).getD (0, 0))
      rw [hk]; rfl
  refine H _ _ X' hXf _ _ _ _ R0 fun e s k1 W' a Rs hC => ?_
  obtain ⟨hX1, hC⟩ := hC
  have told : ∀ (b : Nat) (o : Obj), ¬ (∃ j z, j < n ∧ k j = some (b, z)) → W.heap[b]? = some o → s.X.heap[b]? = some o ∧ o ≠ hole s.X := fun b o hno h8 => hX1.2 b o (by rw [hXo b hno]; exact h8) (hN' b o h8)
  have key : resK P s.f s.h fn.results.toList (fun vs => ∃ y σ, F y (Ho X') s.X ∧ fitV σ (single vs) (t y) ∧ fitH σ s.h (h' y) ∧ σ.length = n' ∧ (apartL σ && pfx m σ) = true) → ∃ u, (results fn a.tmps).run P W' = .ok u W' ∧ (∃ y u' k', Ending.returned u = .returned u' ∧ VX k' (t y) u' ∧ Af k n m W k' (h' y) n' W' ∧
      ∀ X2 : World, (∀ (b : Nat) (o : Obj), Fp k n W b → W'.heap[b]? = some o → (∀ i z, k' i ≠ some (b, z)) → X2.heap[b]? = some o ∧ o ≠ hole X2) → F y (Fp k n W) X2) := fun hC => by
    obtain ⟨vs', u, ⟨y, σ, g0, g1, g2, g3, g4⟩, h2, h3⟩ := results_run Rs.fr (fun m => Rs.hr.all Rs.nn m) hC
    rw [Bool.and_eq_true] at g4
    obtain ⟨g4, g5⟩ := g4
    have kyf : Ky (ren σ k1) (h' y) n' W' := by
      rw [← g3]
      exact ky_ren (Rs.hr.all Rs.nn _) (tb_max σ) g2 g4
    refine ⟨u, h3, y, u, ren σ k1, rfl, g1 k1 u h2, ⟨kyf, fun i hi => ?_, fun i b z hk => ?_, fun b hb hj => ?_, ?_, Rs.am.old.os, ⟨Rs.am.old.tape, Rs.am.dr⟩, Rs.am.old.output⟩, fun X2 h2 => ?_⟩
    · obtain ⟨b, z, hk, _⟩ := hks i (Nat.lt_of_lt_of_le hi hmn')
      rw [ren_at (pfx_at g5 i hi), Rs.am.kp i hi]
      show some ((k i).getD (0, 0)) = k i
      rw [hk]; rfl
    · obtain ⟨i0, _, hk0⟩ := ren_some hk
      rcases Nat.lt_or_ge b W.heap.size with h7 | h7
      · refine Or.inr (Classical.byContradiction fun hne => ?_)
        obtain ⟨h9, h10⟩ := told b _ hne (Array.getElem?_eq_getElem h7)
        exact h10 (Rs.am.out i0 b _ hk0 _ h9)
      · exact Or.inl h7
    · have h8 : W.heap[b]? = some W.heap[b] := Array.getElem?_eq_getElem hb
      obtain ⟨h9, h10⟩ := told b _ (fun ⟨j, z', h8, h9⟩ => hj j z' h8 h9) h8
      rw [h8]
      exact Rs.am.see b _ h9 h10
    · exact Nat.le_trans (by rw [← hXs]; exact hX1.1) Rs.am.sz
    · refine hF.lo y _ s.X X2 (fun b o hb h4 h5 => h2 b o hb (Rs.am.see b o h4 h5) fun i z hk => ?_) (hF.le y _ _ _ (fun b hb => ?_) g0)
      · obtain ⟨i0, _, hk0⟩ := ren_some hk
        exact h5 (Rs.am.out i0 b z hk0 o h4)
      · refine Classical.byContradiction fun hne => ?_
        have h7 : b < W.heap.size := Nat.lt_of_not_le fun h => hne (Or.inl h)
        have h8 : W.heap[b]? = some W.heap[b] := Array.getElem?_eq_getElem h7
        exact hN' b _ h8 (hb _ (by rw [hXo b (fun h => hne (Or.inr h))]; exact h8))
  cases e with
  | normal => obtain ⟨u, h1, h2⟩ := key hC; exact ⟨Rs.fr.df, u, h1, h2⟩
  | ret => obtain ⟨u, h1, h2⟩ := key hC; exact ⟨Rs.fr.df, u, h1, h2⟩
  | _ => exact hC.elim
end
/-- An operation that comes to something in several ways; dr: numbers that are let go. -/
structure Ox (w0 : B0) (X : World) (P : Program) (o : Oper) (fr : FT) (h : HT) (n : Nat) {Y : Type} (x : Y → R5) (F : Y → (Nat → Prop) → World → Prop) (dr : List Nat) : Prop where
  ss : ∀ y, Ss h n (x y).h (x y).n (x y).r (x y).w
  ok : ∀ (k : K) (W : World) (a : Act) (K' : Act → World → Prop) (Q : Exit → Act → World → Prop), Am w0 X k W → (∀ y ∈ o.op.operands.toList, VX k (evo fr y) (a.eval y)) → HR k h W (ones n) → (∀ i, n ≤ i → hget h i = none) → (∀ i, n ≤ i → k i = none) →
    (∀ y u W' k' X', Sd h n (x y).h (x y).n (x y).r (x y).w k W k' W' → VX k' (x y).v u → Xf X' X → F y (Ho X) X' → (∀ i b z, k' i = some (b, z) → i ∉ dr → ∀ o : Obj, X'.heap[b]? = some o → o = hole X') → (∀ (b : Nat) (o : Obj), X'.heap[b]? = some o → o ≠ hole X' → W'.heap[b]? = some o) → X'.heap.size ≤ W'.heap.size → K' (a.put o.dst u) W') → o.wp P a W K' Q
section
variable {P : Program} {w0 : B0} {X : World} {o : Oper} {fr : FT} {hc : HT} {nc : Nat}
theorem r_cx {Y : Type} {F : Y → (Nat → Prop) → World → Prop} (hF : Lcl F) {f : FuncId} {fn : Func} {y : Operand} {xs : Array Operand} {ts : Array TypeId} {ca : Array Value} {vs : List Value} {h : HT} {h' : Y → HT} {n m n' : Nat} {t tc : Y → Value} (σ : List Nat) (cl : Y → List (Option (List Value))) (ms : List Nat)
    (ho : o.op = .call { callee := .value y, args := xs, argTypes := ts }) (hy : evo fr y = .func (.func f) #[] ca) (hctr : CtrX P X f vs h n m t h' n' F) (ha : fitL σ (evl fr xs.toList ++ ca.toList) vs) (hh : fitH σ hc h) (ht : ∀ y, unV (σ.take m ++ upto nc (n' - m)) (t y) (tc y)) (hu : ∀ y, unH (σ.take m ++ upto nc (n' - m)) (h' y) 0 (cl y)) (hcn : ∀ y, (cl y).length = n')
    (hf : P.funcs[f]? = some fn := by rfl) (hb : callB fn = true := by rfl)
    (hck : (apartL σ && full h n && Nat.beq σ.length n && Nat.ble m n && Nat.ble m n' && Nat.ble (nc + (n' - m)) 4096 && σ.all (Nat.blt · nc) && full hc nc) = true := by rfl) :
    Ox w0 X P o fr hc nc (fun yy => ⟨tc yy, mskL (setsH hc ((σ.take m ++ upto nc (n' - m)).zip (cl yy) ++ (σ.drop m).map (fun i => (i, none)))) ms, nc + (n' - m), bitsL σ, bitsL (σ ++ upto nc (n' - m))⟩) F (σ.drop m) := by
  simp only [Bool.and_eq_true, Nat.beq_eq, Nat.ble_eq, List.all_eq_true, Nat.blt_eq] at hck
  obtain ⟨⟨⟨⟨⟨⟨⟨hap, hfull⟩, hσ⟩, hmn⟩, hmn'⟩, h4⟩, hlt⟩, hfc⟩ := hck
  generalize hτ : σ.take m ++ upto nc (n' - m) = τ at *
  have τat : ∀ (j i : Nat), τ[j]? = some i ↔ (j < m ∧ σ[j]? = some i) ∨ (m ≤ j ∧ j < n' ∧ i = nc + (j - m)) := fun j i => by
    rw [← hτ]
    have hl : (σ.take m).length = m := by rw [List.length_take]; omega
    by_cases hj : j < m
    · rw [List.getElem?_append_left (by omega), List.getElem?_take, if_pos hj]
      exact ⟨fun h => Or.inl ⟨hj, h⟩, fun h => by rcases h with h | h; exact h.2; omega⟩
    · rw [List.getElem?_append_right (by omega), hl, upto_at]
      constructor
      · rintro ⟨h1, h2⟩; exact Or.inr ⟨by omega, by omega, h1⟩
      · rintro (h | ⟨h1, h2, h3⟩)
        · omega
        · exact ⟨h3, by omega⟩
  have τlen : τ.length = n' := by rw [← hτ]; simp [upto_len]; omega
  have σlt : ∀ (j i : Nat), σ[j]? = some i → i < nc := fun j i h => hlt i (List.mem_of_getElem? h)
  obtain ⟨ups, hups⟩ : ∃ ups : Y → List (Nat × Option (List Value)), ∀ yy, τ.zip (cl yy) ++ (σ.drop m).map (fun i => (i, none)) = ups yy := ⟨_, fun _ => rfl⟩
  simp only [hups]
  have upl : ∀ yy, ∀ p ∈ ups yy, p.1 < 4096 := fun yy p hp => by
    rw [← hups] at hp
    rcases List.mem_append.1 hp with hp | hp
    · have h1 := (List.of_mem_zip hp).1
      obtain ⟨j, hj⟩ := List.mem_iff_getElem?.1 h1
      rcases (τat j _).1 hj with ⟨_, h2⟩ | ⟨h2, h3, h5⟩
      · have := σlt j _ h2; omega
      · omega
    · obtain ⟨i, h1, rfl⟩ := List.mem_map.1 hp
      have := hlt i (List.mem_of_mem_drop h1)
      show i < 4096
      omega
  have upk : ∀ yy i, (i ∈ σ ∨ i ∈ upto nc (n' - m)) → ∃ c, (i, c) ∈ ups yy := fun yy i hi => by
    have inτ : i ∈ τ → ∃ c, (i, c) ∈ ups yy := fun h => by
      have hcl := hcn yy
      obtain ⟨j, hj⟩ := List.mem_iff_getElem?.1 h
      have hjl := (List.getElem?_eq_some_iff.1 hj).1
      have hc : (cl yy)[j]? = some ((cl yy)[j]'(by omega)) := List.getElem?_eq_getElem (by omega)
      refine ⟨(cl yy)[j]'(by omega), ?_⟩
      rw [← hups]
      refine List.mem_append.2 (Or.inl (List.mem_iff_getElem?.2 ⟨j, ?_⟩))
      rw [List.getElem?_zip_eq_some]; exact ⟨hj, hc⟩
    rcases hi with hi | hi
    · rw [← List.take_append_drop m σ] at hi
      rcases List.mem_append.1 hi with hi | hi
      · exact inτ (by rw [← hτ]; exact List.mem_append.2 (Or.inl hi))
      · exact ⟨none, by rw [← hups]; exact List.mem_append.2 (Or.inr (List.mem_map.2 ⟨i, hi, rfl⟩))⟩
    · exact inτ (by rw [← hτ]; exact List.mem_append.2 (Or.inr hi))
  have upi : ∀ yy i c, (i, c) ∈ ups yy → i ∈ σ ∨ i ∈ upto nc (n' - m) := fun yy i c h => by
    rw [← hups] at h
    rcases List.mem_append.1 h with h | h
    · have h1 := (List.of_mem_zip h).1
      rw [← hτ] at h1
      rcases List.mem_append.1 h1 with h1 | h1
      · exact Or.inl (List.mem_of_mem_take h1)
      · exact Or.inr h1
    · obtain ⟨i', h1, h2⟩ := List.mem_map.1 h
      cases h2
      exact Or.inl (List.mem_of_mem_drop h1)
  have A : ∀ yy i, ¬ (i ∈ σ ∨ i ∈ upto nc (n' - m)) → hget (mskL (setsH hc (ups yy)) ms) i = hget hc i := fun yy i hi => by
    rw [hget_mskL]
    rcases sets_get (h := hc) (i := i) (upl yy) with ⟨c, h1, _⟩ | ⟨_, h2⟩
    · exact absurd (upi yy i c h1) hi
    · exact h2
  have B : ∀ yy i cc, hget (mskL (setsH hc (ups yy)) ms) i = some cc → (i ∈ σ ∨ i ∈ upto nc (n' - m)) → ∃ (j : Nat) (cs : List Value), τ[j]? = some i ∧ hget (h' yy) j = some cs ∧ unL τ cs cc := fun yy i cc he hi => by
    rw [hget_mskL] at he
    rcases sets_get (h := hc) (i := i) (upl yy) with ⟨c, h1, h2⟩ | ⟨h1, _⟩
    · rw [h2] at he
      subst he
      rw [← hups] at h1
      rcases List.mem_append.1 h1 with h1 | h1
      · obtain ⟨j, hj⟩ := List.mem_iff_getElem?.1 h1
        rw [List.getElem?_zip_eq_some] at hj
        obtain ⟨cs, h3, h5⟩ := unH_get (hu yy) hj.2
        rw [Nat.zero_add] at h3
        exact ⟨j, cs, hj.1, h3, h5⟩
      · obtain ⟨i', _, h3⟩ := List.mem_map.1 h1
        cases h3
    · obtain ⟨c, h3⟩ := upk yy i hi
      exact absurd h3 (h1 c)
  have live0 : ∀ (j i : Nat), σ[j]? = some i → live hc i := fun j i hj => by
    obtain ⟨cs, hcs⟩ := full_at hfull j (by have := (List.getElem?_eq_some_iff.1 hj).1; omega)
    obtain ⟨i', us, h1, h2, _⟩ := fitH_get hh hcs
    rw [hj] at h1; cases h1
    exact ⟨us, h2⟩
  have wm : ∀ i, tb (bitsL (σ ++ upto nc (n' - m))) i ↔ (i ∈ σ ∨ i ∈ upto nc (n' - m)) := fun i => by rw [tb_bitsL, List.mem_append]
  refine ⟨fun yy => ⟨Nat.le_add_right _ _, fun nn i hi => ?_, fun i hi => A yy i (fun h => hi ((wm i).2 h)), fun i hi hn => ?_, fun i hi => ?_, fun i hi ⟨cs, hl⟩ => ?_⟩, fun k W a K' Q hA hop H0 nn nk hk => ?_⟩
  · have hi : nc + (n' - m) ≤ i := hi
    show hget (mskL (setsH hc (ups yy)) ms) i = none
    rw [A yy i (fun h => by rcases h with h | h; have := hlt i h; omega; have := upto_mem.1 h; omega)]; exact nn i (by omega)
  · rcases (wm i).1 hi with h | h
    · exact tb_bitsL.2 h
    · have := upto_mem.1 h; omega
  · show i < nc + (n' - m)
    rcases (wm i).1 hi with h | h
    · have := hlt i h; omega
    · have := upto_mem.1 h; omega
  · by_cases h : i ∈ σ ∨ i ∈ upto nc (n' - m)
    · rcases h with h | h
      · obtain ⟨j, hj⟩ := List.mem_iff_getElem?.1 h; exact live0 j i hj
      · have := upto_mem.1 h; omega
    · have hl : hget (mskL (setsH hc (ups yy)) ms) i = some cs := hl
      rw [A yy i h] at hl; exact ⟨cs, hl⟩
  · have H : HR k hc W (bitsL σ) := H0.all nn _
    have hks : ∀ i, i < nc → ∃ b z, k i = some (b, z) ∧ b < W.heap.size := fun i hi => by
      obtain ⟨cs, hcs⟩ := full_at hfc i hi
      exact (H0.rep i (tb_ones.2 hi)).lt ⟨cs, hcs⟩
    have ky : Ky (ren σ k) h n W := by
      have := ky_ren H (fun j i hj => tb_bitsL.2 (List.mem_of_getElem? hj)) hh hap
      rw [hσ] at this; exact this
    have sees : Sees X (ren σ k) W := ⟨hA.see, fun i b z hk => by obtain ⟨i0, _, h1⟩ := ren_some hk; exact hA.out i0 b z h1, hA.sz⟩
    have h4' := hop y (by rw [ho]; simp [Op.operands, Call.operands])
    rw [hy] at h4'
    obtain ⟨fi, c2, h5, h6, h7⟩ := h4'.func_inv
    have h6' : fi = [] := h6
    subst h6'
    have h8 := evl_rel (fr := fr) (k := k) (a := a) xs.toList (fun y hy => hop y (by rw [ho]; simp [Op.operands, Call.operands]; right; simpa using hy))
    have h9 := fitL_rel ha (h8.app h7)
    have hrun : (execOp a.eval o).run P W = .ok (.enter f (xs.toList.map a.eval ++ c2).toArray) W := by
      simp only [execOp, ho, resolve, h5, Deferred.ofValue, invoke, Sem.run_bind, Sem.run_pure, Result.andThen_ok, enter_ok hf hb]
      congr 2
      apply Array.ext'
      simp
    unfold Oper.wp
    rw [hrun, Oper.upon_enter]
    refine (hctr W _ _ ky sees h9).mono ?_
    rintro e W' ⟨yy, u, k1, rfl, hvx, af, hfact⟩
    let k2 : K := fun i => if nc ≤ i ∧ i < nc + (n' - m) then k1 (i - nc + m) else k i
    have kout : ∀ i, ¬ (nc ≤ i ∧ i < nc + (n' - m)) → k2 i = k i := fun i h => if_neg h
    have kin : ∀ i, nc ≤ i → i < nc + (n' - m) → k2 i = k1 (i - nc + m) := fun i h1 h2 => if_pos ⟨h1, h2⟩
    have hτk : ∀ (j i : Nat), τ[j]? = some i → k2 i = k1 j := fun j i hj => by
      rcases (τat j i).1 hj with ⟨h1, h2⟩ | ⟨h1, h2, h3⟩
      · rw [kout i (by have := σlt j i h2; omega), af.keep j h1, ren_at h2]
      · rw [kin i (by omega) (by omega)]; congr 1; omega
    have hren : ren τ k2 = k1 := by
      funext j
      cases hj : τ[j]? with
      | none =>
        have : n' ≤ j := by rw [← τlen]; exact List.getElem?_eq_none_iff.1 hj
        rw [af.ky.nk j this]; unfold ren; rw [hj]; rfl
      | some i => rw [ren_at hj, hτk j i hj]
    have jlt : ∀ (j : Nat) (cs : List Value), hget (h' yy) j = some cs → j < n' := fun j cs h => by
      rcases Nat.lt_or_ge j n' with h' | h'
      · exact h'
      · rw [af.ky.nn j h'] at h; cases h
    have kcase : ∀ i b z, i ∉ σ.drop m → k2 i = some (b, z) → (∃ j, k1 j = some (b, z)) ∨ (i < nc ∧ i ∉ σ ∧ k i = some (b, z)) := fun i b z hdr hk2 => by
      by_cases hr : nc ≤ i ∧ i < nc + (n' - m)
      · rw [kin i hr.1 hr.2] at hk2; exact Or.inl ⟨_, hk2⟩
      · rw [kout i hr] at hk2
        have hi : i < nc := by
          rcases Nat.lt_or_ge i nc with h | h
          · exact h
          · rw [nk i h] at hk2; cases hk2
        by_cases hs : i ∈ σ
        · obtain ⟨j, hj⟩ := List.mem_iff_getElem?.1 hs
          rcases Nat.lt_or_ge j m with h | h
          · exact Or.inl ⟨j, by rw [← hτk j i ((τat j i).2 (Or.inl ⟨h, hj⟩)), kout i hr]; exact hk2⟩
          · exact absurd (List.mem_iff_getElem?.2 ⟨j - m, by rw [List.getElem?_drop, show m + (j - m) = j by omega]; exact hj⟩) hdr
        · exact Or.inr ⟨hi, hs, hk2⟩
    obtain ⟨X2, hXs, hXo, hXi, hXn⟩ := ex_mask W' (fun b => ∃ i z, i ∉ σ.drop m ∧ k2 i = some (b, z))
    have hXf : Xf X2 X := ⟨by rw [hXs]; exact Nat.le_trans hA.sz af.size, fun b o h1 h2 => by
      have h3 := hA.see b o h1 h2
      have hlt' := (Array.getElem?_eq_some_iff.1 h3).1
      have hno : ∀ i z, k i ≠ some (b, z) := fun i z hk => h2 (hA.out i b z hk o h1)
      have h4 : W'.heap[b]? = some o := by rw [af.frm b hlt' (fun j z _ hkj => by obtain ⟨i0, _, g⟩ := ren_some hkj; exact hno i0 z g)]; exact h3
      have hnm : ¬ ∃ i z, i ∉ σ.drop m ∧ k2 i = some (b, z) := ?_
      · exact ⟨by rw [hXo b hnm]; exact h4, hXn b o h4⟩
      rintro ⟨i, z, hdr, hk2⟩
      rcases kcase i b z hdr hk2 with ⟨j, h5⟩ | ⟨_, _, h5⟩
      · rcases af.fresh j b z h5 with h | ⟨j', z', _, hkj⟩
        · omega
        · obtain ⟨i0, _, g⟩ := ren_some hkj; exact hno i0 z' g
      · exact hno i z h5⟩
    have hfa : F yy (Ho X) X2 := by
      refine hF.le yy (Fp (ren σ k) n W) _ X2 (fun b hb o ho => ?_) (hfact X2 fun b o hb h1 h2 => ⟨?_, hXn b o h1⟩)
      · rcases hb with hb | ⟨j, z, _, hkj⟩
        · have := (Array.getElem?_eq_some_iff.1 ho).1; have := hA.sz; omega
        · obtain ⟨i0, _, g⟩ := ren_some hkj; exact hA.out i0 b z g o ho
      · rw [hXo b ?_]
        · exact h1
        rintro ⟨i, z, hdr, hk2⟩
        rcases kcase i b z hdr hk2 with ⟨j, h5⟩ | ⟨h5, h6, h7⟩
        · exact h2 j z h5
        · obtain ⟨b', z', g1, g2⟩ := hks i h5
          rw [h7] at g1; cases g1
          rcases hb with hb | ⟨j, z, _, hkj⟩
          · omega
          · obtain ⟨i0, g3, g4⟩ := ren_some hkj
            have := σlt j i0 g3
            exact H0.inj i i0 (tb_ones.2 h5) (tb_ones.2 this) (full_at hfc i h5) (full_at hfc i0 this) (fun e => h6 (e ▸ List.mem_of_getElem? g3)) b _ b _ h7 g4 rfl
    refine hk yy u W' k2 X2 ⟨fun i p hp => ?_, fun i hi => kout i (by have hi : i < nc ∨ nc + (n' - m) ≤ i := hi; omega), ⟨fun i hi cs hcs => ?_, fun i i' hi hi' li li' hne b z b' z' kb kb' => ?_⟩, fun b hb hj => ?_, fun i b z h1 h2 hl hk2 => ?_, fun D hD hdj i b z hk2 hDb => ?_, af.size, af.os, af.tape, af.output⟩ (ht yy k2 u (by rw [hren]; exact hvx)) hXf hfa (fun i b z hk2 hdr o ho => hXi b o ⟨i, z, hdr, hk2⟩ ho) (fun b o h1 h2 => by
      rw [hXo b (fun hb => h2 (hXi b o hb h1))] at h1; exact h1) (by rw [hXs]; exact Nat.le_refl _)
    · rw [kout i (fun h => by rw [nk i h.1] at hp; cases hp)]; exact hp
    · have hi' : i ∈ σ ∨ i ∈ upto nc (n' - m) := by
        rcases tb_or.1 hi with h | h
        · exact Or.inl (tb_bitsL.1 h)
        · exact (wm i).1 h
      obtain ⟨j, cs', g1, g2, g3⟩ := B yy i cs hcs hi'
      refine (af.ky.hr.rep j (tb_ones.2 (jlt j cs' g2)) cs' g2).mono (fun p hp => by rw [hτk j i g1]; exact hp) (fun _ _ _ _ => rfl) (fun us hus => unL_rel g3 (by rw [hren]; exact hus))
    · have mem : ∀ i, tb (Nat.lor (bitsL σ) (bitsL (σ ++ upto nc (n' - m)))) i → i ∈ σ ∨ i ∈ upto nc (n' - m) := fun i hi => by
        rcases tb_or.1 hi with h | h
        · exact Or.inl (tb_bitsL.1 h)
        · exact (wm i).1 h
      obtain ⟨c1, e1⟩ := li
      obtain ⟨c1', e1'⟩ := li'
      obtain ⟨j, cs, g1, g2, _⟩ := B yy i c1 e1 (mem i hi)
      obtain ⟨j', cs', g1', g2', _⟩ := B yy i' c1' e1' (mem i' hi')
      rw [hτk j i g1] at kb
      rw [hτk j' i' g1'] at kb'
      exact af.ky.hr.inj j j' (tb_ones.2 (jlt j cs g2)) (tb_ones.2 (jlt j' cs' g2')) ⟨cs, g2⟩ ⟨cs', g2'⟩ (fun e => hne (by rw [e, g1'] at g1; cases g1; rfl)) b z b' z' kb kb'
    · refine af.frm b hb fun j z hjn hkj => ?_
      obtain ⟨i, g1, g2⟩ := ren_some hkj
      exact hj i z ((wm i).2 (Or.inl (List.mem_of_getElem? g1))) (live0 j i g1) g2
    · rw [kin i h1 h2] at hk2
      rcases af.fresh _ b z hk2 with h | ⟨j, z', hjn, hkj⟩
      · exact Or.inl h
      · obtain ⟨i0, g1, g2⟩ := ren_some hkj
        refine Or.inr ⟨i0, z', (wm i0).2 (Or.inl (List.mem_of_getElem? g1)), σlt j i0 g1, live0 j i0 g1, fun ⟨cc, hcc⟩ => ?_, g2⟩
        obtain ⟨q, cs, q1, q2, _⟩ := B yy i0 cc hcc (Or.inl (List.mem_of_getElem? g1))
        obtain ⟨cc', hcc'⟩ := hl
        obtain ⟨q', cs', q1', q2', _⟩ := B yy i cc' hcc' (Or.inr (upto_mem.2 ⟨h1, h2⟩))
        have e0 : k1 q = some (b, z') := by rw [← hτk q i0 q1, kout i0 (by have := σlt j i0 g1; omega)]; exact g2
        have e1 : k1 q' = some (b, z) := by rw [← hτk q' i q1', kin i h1 h2]; exact hk2
        have := σlt j i0 g1
        exact af.ky.hr.inj q q' (tb_ones.2 (jlt q cs q2)) (tb_ones.2 (jlt q' cs' q2')) ⟨cs, q2⟩ ⟨cs', q2'⟩ (fun e => by rw [e, q1'] at q1; cases q1; omega) b z' b z e0 e1 rfl
    · by_cases hr : nc ≤ i ∧ i < nc + (n' - m)
      · rw [kin i hr.1 hr.2] at hk2
        rcases af.fresh _ b z hk2 with h | ⟨j, z', hjn, hkj⟩
        · have := hD _ hDb; omega
        · obtain ⟨i0, _, g2⟩ := ren_some hkj; exact hdj i0 b z' g2 hDb
      · rw [kout i hr] at hk2; exact hdj i b z hk2 hDb
end
theorem list_app {A : K → World → Prop} (hSt : Stable A) {P : Program} {ops : Array Oper} (l2 : List Oper) : ∀ (l : List Oper) (s s' : RL), (∀ i, s.n ≤ i → hget s.h i = none) → EvL A P ops l s s' →
    ∃ r w, Ss s.h s.n s'.h s'.n r w ∧
      ∀ (k : K) (W : World) (a : Act) (Q : Exit → Act → World → Prop), A k W → FR k s.f a → HR k s.h W r → (∀ i, s.n ≤ i → i < s'.n → k i = none) → (∀ k' W' a', Sd s.h s.n s'.h s'.n r w k W k' W' → FR k' s'.f a' → wpList P ops Q l2 a' W') → wpList P ops Q (l ++ l2) a W
  | [], s, s', nn, e => by
    cases e
    exact ⟨0, 0, Ss.refl _ _, fun k W a Q _ hf _ _ hk => hk k W a (Sd.refl _ _ _ _) hf⟩
  | o :: l, s, s', nn, e => by
    obtain ⟨s1, h1, e⟩ := e
    obtain ⟨r1, w1, v, _, hf1, hr1, hw1, ss1, ok1⟩ := step_ok h1
    obtain ⟨r2, w2, ss2, ok2⟩ := list_app hSt l2 l s1 s' (ss1.nn nn) e
    refine ⟨Nat.lor r1 r2, Nat.lor w1 w2, ss1.trans ss2, fun k W a Q hA hf H hnew hk => ?_⟩
    rw [List.cons_append]
    refine wpList_step fun K hK => ?_
    refine ok1 k W a K Q hA (fun y _ => hf.ev y) (fun j w t _ _ => hf.get t) (H.sub fun i hi => tb_or.2 (Or.inl hi)) (fun i h1 h2 => hnew i h1 (Nat.lt_of_lt_of_le h2 ss2.le)) (fun u W' k' hd hv => hK _ _ ?_)
    have H2 := Sd.next ss1 hd nn H
    refine ok2 k' W' _ Q (hSt _ _ _ _ _ _ _ _ _ _ hA hd) (by rw [hf1]; exact (hf.mono hd.ext).put o.dst hv) (H2.sub fun i hi => tb_or.2 (Or.inr hi)) (fun i h1 h2 => by rw [hd.dom i (Or.inr h1)]; exact hnew i (Nat.le_trans ss1.le h1) h2) (fun k2 W2 a2 hd2 hf2 => hk k2 W2 a2 (Sd.trans ss1 hd ss2 hd2 nn H) hf2)
section
variable {P : Program} {w0 : B0} {C : Exit → St → Prop}
/-- What is told may grow, and blocks be let go. -/
theorem Rl.grow {s t : St} {σ : List Nat} {k : K} {W : World} {a : Act} {X' : World} (R : Rl w0 s k W a) (F : Fit w0.m s t σ) (see : ∀ (b : Nat) (o : Obj), X'.heap[b]? = some o → o ≠ hole X' → W.heap[b]? = some o) (out : ∀ (j i b z : Nat), σ[j]? = some i → k i = some (b, z) → ∀ o : Obj, X'.heap[b]? = some o → o = hole X') (sz : X'.heap.size ≤ W.heap.size) : Rl w0 ⟨t.f, t.h, t.n, X'⟩ (ren σ k) W a := by
  have R2 := F.rl R
  exact ⟨R2.fr, R2.hr, R2.nn, R2.nk, ⟨R2.am.old, R2.am.own, see, fun i b z hk o ho => by obtain ⟨i0, h1, h2⟩ := ren_some hk; exact out i i0 b z h1 h2 o ho, sz, R2.am.kp, R2.am.dr⟩⟩
theorem Fit.nt {m0 : Nat} {s t : St} {σ : List Nat} (F : Fit m0 s t σ) (i : Nat) (hi : t.n ≤ i) : hget t.h i = none := by
  cases e : hget t.h i with
  | none => rfl
  | some cs =>
    obtain ⟨i', _, h0, _⟩ := fitH_get F.h e
    have := (List.getElem?_eq_some_iff.1 h0).1
    have := F.n
    omega
def noneOf (σ dr : List Nat) : Bool := σ.all fun i => dr.all fun j => !Nat.beq i j
theorem noneOf_at {σ dr : List Nat} (h : noneOf σ dr = true) {i : Nat} (hi : i ∈ σ) : i ∉ dr := fun hd => by
  have h1 := List.all_eq_true.1 (List.all_eq_true.1 h i hi) i hd
  rw [Nat.beq_refl] at h1; cases h1
/-- What is asked where such a call stands. -/
def mid (P : Program) (w0 : B0) (C : Exit → St → Prop) (ops : Array Oper) (o : Oper) (rest : List Oper) (stk : List It) (_ : Exit) (s : St) : Prop := match s with
  | ⟨f, h, n, X⟩ => ∃ (Y : Type) (x : Y → R5) (F : Y → (Nat → Prop) → World → Prop) (dr : List Nat), Ox w0 X P o f h n x F dr ∧ ∀ y X', Xf X' X → F y (Ho X) X' → ∃ (t : FT × HT × Nat) (σ : List Nat), Fit w0.m ⟨put f o.dst (x y).v, (x y).h, (x y).n, X⟩ ⟨t.1, t.2.1, t.2.2, X⟩ σ ∧ noneOf σ dr = true ∧ Rn P w0 C ⟨ops, rest, false, ⟨t.1, t.2.1, t.2.2, 0, 0, []⟩, X', stk⟩
/-- A region in the midst of which such a call stands. -/
theorem rx {ops op0 : Array Oper} {id r0 w1 : Nat} {l0 : List (Nat × Nat)} {f : FT} {h : HT} {n : Nat} {X : World} {stk : List It} (l1 : List Oper) (o : Oper) (l2 : List Oper) (ho : ops.toList = l1 ++ o :: l2) (hg : o.guard = none)
    (hh : Rn P w0 (mid P w0 C ops o l2 stk) ⟨ops, l1, false, ⟨f, h, n, 0, 0, []⟩, X, []⟩) : Rn P w0 C ⟨op0, [], false, ⟨f, h, n, r0, w1, l0⟩, X, co (.region id ops false) :: stk⟩ := by
  intro nn
  refine ⟨_, rfl, fun h => (by cases h), ?_⟩
  show WC P w0 (.region id ops false) ⟨f, h, n, X⟩ (RnE P w0 C stk)
  intro Q k W a R hK
  obtain ⟨s1, h1, _, hC⟩ := hh nn
  obtain ⟨Y, x, F, dr, hx, hy⟩ := hC
  obtain ⟨r, w, ss, ok⟩ := list_app (Am.stable w0 X) (o :: l2) l1 ⟨f, h, n, 0, 0, []⟩ s1 nn h1
  refine wp_region_list ?_
  rw [ho]
  refine ok k W a Q R.am R.fr (R.hr.all R.nn _) (fun i h1 _ => R.nk i h1) fun k1 W1 a1 hd hf => ?_
  have R1 : Rl w0 ⟨s1.f, s1.h, s1.n, X⟩ k1 W1 a1 := R.step ss hd hf
  refine wpList_plain hg fun K hKK => hx.ok k1 W1 a1 K Q R1.am (fun y _ => R1.fr.ev y) R1.hr R1.nn R1.nk (fun y u W2 k2 X2 sd hv hX hF out see sz => hKK _ _ ?_)
  have R2 : Rl w0 ⟨put s1.f o.dst (x y).v, (x y).h, (x y).n, X⟩ k2 W2 (a1.put o.dst u) := R1.step (hx.ss y) sd ((R1.fr.mono sd.ext).put o.dst hv)
  obtain ⟨t, σ, fit, hno, hr⟩ := hy y X2 hX hF
  have R3 : Rl w0 ⟨t.1, t.2.1, t.2.2, X2⟩ (ren σ k2) W2 (a1.put o.dst u) := R2.grow fit see (fun j i b z h1 h2 => out i b z h2 (noneOf_at hno (List.mem_of_getElem? h1))) sz
  obtain ⟨s3, e1, _, e3⟩ := hr R3.nn
  obtain ⟨r2, w2, _, _, ss2, ok2⟩ := list_ok (Am.stable w0 X2) l2 ⟨t.1, t.2.1, t.2.2, 0, 0, []⟩ s3 R3.nn e1
  exact ok2 _ W2 _ Q R3.am R3.fr (R3.hr.all R3.nn _) (fun i h1 _ => R3.nk i h1) fun k3 W3 a3 hd3 hf3 => hK .normal _ k3 W3 a3 (R3.step ss2 hd3 hf3) e3
/-- Is this what is run next? -/
def atR (id : Nat) (c : Cf) : Bool := match c.rest with
  | [] => match c.stk with
    | ⟨.region j _ _, none⟩ :: _ => Nat.beq j id
    | _ => false
  | _ => false
def advU (P : Program) (w0 : B0) (C : Exit → St → Prop) (R : Cf → Prop) (id : Nat) : Nat → Cf → Prop
  | 0, c => R c
  | m + 1, c => bif atR id c then R c else oneK P w0 C (advU P w0 C R id m) R c
theorem advU_ok (hmo : P.follows .mixedOrders = true) (id : Nat) : ∀ (m : Nat) (c : Cf), advU P w0 C (Rn P w0 C) id m c → Rn P w0 C c
  | 0, _, e => e
  | m + 1, c, e => by
    unfold advU at e
    cases h : atR id c with
    | true => rw [h] at e; exact e
    | false => rw [h] at e; exact oneK_ok hmo (advU_ok hmo id m) (fun _ h => h) c e
/-- Go on up to a region. -/
theorem su (id : Nat) (hmo : P.follows .mixedOrders = true) {c : Cf} (h : advU P w0 C (Rn P w0 C) id 400 c) : Rn P w0 C c := advU_ok hmo id 400 c h
/-- One's own block told of: what names it, the value as it is. -/
theorem Rl.told {s t : St} {σ : List Nat} {k : K} {W : World} {a : Act} {i b z : Nat} {cs : List Value} (R : Rl w0 s k W a) (F : Fit w0.m s t σ) (hk : k i = some (b, z + 1)) (hcs : hget s.h i = some cs) (hp : cs.all pur1 = true) (hσ : ∀ j ∈ σ, j ≠ i ∧ live s.h j) : ∃ X' : World, Xf X' s.X ∧ Ho s.X b ∧ Lies X' b 0 (cs.map den1) ∧ Rl w0 ⟨t.f, t.h, t.n, X'⟩ (ren σ k) W a := by
  obtain ⟨X', hXs, hXo, hXi, hXn⟩ := ex_mask W (fun b => ∃ (j i z : Nat), σ[j]? = some i ∧ k i = some (b, z))
  have hall : ∀ i, live s.h i → i < s.n := fun i hl => by
    rcases Nat.lt_or_ge i s.n with h | h
    · exact h
    · exact absurd hl (not_live (R.nn i h))
  have hb : ¬ ∃ (j i z : Nat), σ[j]? = some i ∧ k i = some (b, z) := fun ⟨j, i', z', h1, h2⟩ => by
    obtain ⟨h3, h4⟩ := hσ i' (List.mem_of_getElem? h1)
    exact R.hr.inj i' i (tb_ones.2 (hall i' h4)) (tb_ones.2 (hall i ⟨cs, hcs⟩)) h4 ⟨cs, hcs⟩ h3 b _ b _ h2 hk rfl
  obtain ⟨b2, us, sp, ty, e1, e2, e3⟩ := ((R.hr.all R.nn (bit i)).rep i (tb_bit.2 rfl) cs hcs).cel hk
  rw [hk] at e1; cases e1
  have h6 := LR.map (p := pur1) (d := den1) (fun _ _ h => pur1_eq h) e3 hp
  refine ⟨X', ⟨by rw [hXs]; exact R.am.sz, fun b' o h1 h2 => ?_⟩, R.am.out i b _ hk, fun j u hj => ?_, R.grow F (fun b' o h1 h2 => by rw [hXo b' (fun h => h2 (hXi b' o h h1))] at h1; exact h1) (fun j i b' z' h1 h2 o ho => hXi b' o ⟨j, i, z', h1, h2⟩ ho) (by rw [hXs]; exact Nat.le_refl _)⟩
  · have h3 := R.am.see b' o h1 h2
    exact ⟨by rw [hXo b' (fun ⟨j, i', z', _, h5⟩ => h2 (R.am.out i' b' z' h5 o h1))]; exact h3, hXn b' o h3⟩
  · have e2' : X'.heap[b]? = some (.cells (us ++ sp).toArray ty (0, 0)) := by rw [hXo b hb]; exact e2
    rw [← h6] at hj
    rw [cell_of e2', Nat.zero_add, List.getElem?_append_left (List.getElem?_eq_some_iff.1 hj).1]; exact hj
def lives (h : HT) (i : Nat) (σ : List Nat) : Bool := σ.all fun j => !Nat.beq j i && (hget h j).isSome
theorem lives_at {h : HT} {i : Nat} {σ : List Nat} (hl : lives h i σ = true) (j : Nat) (hj : j ∈ σ) : j ≠ i ∧ live h j := by
  have h1 := List.all_eq_true.1 hl j hj
  rw [Bool.and_eq_true] at h1
  exact ⟨fun e => by rw [e, Nat.beq_refl] at h1; exact absurd h1.1 (by decide), Option.isSome_iff_exists.1 h1.2⟩
/-- A slice of one's own in a slot, told of. -/
theorem told_f {op0 : Array Oper} {r0 w1 : Nat} {l0 : List (Nat × Nat)} {f : FT} {h : HT} {n : Nat} {X : World} {c : Code} {l : List It} (tm i len es : Nat) (cs : List Value) (σ : List Nat) (t : Nat → Nat → FT × HT × Nat) (hv : fget f tm = .slice (some ⟨i, 0, none⟩) len es) (ht : Nat.blt tm f.m = true) (hcs : hget h i = some cs) (hp : cs.all pur1 = true) (hσ : lives h i σ = true)
    (F : ∀ b cap, Fit w0.m ⟨fput f tm (raw (.slice (some ⟨b, 0, none⟩) len cap)), h, n, X⟩ ⟨(t b cap).1, (t b cap).2.1, (t b cap).2.2, X⟩ σ)
    (H : ∀ b cap X', len ≤ cap → Xf X' X → Ho X b → Lies X' b 0 (cs.map den1) → Rn P w0 C (cf ⟨(t b cap).1, (t b cap).2.1, (t b cap).2.2, X'⟩ (co c :: l))) : Rn P w0 C ⟨op0, [], false, ⟨f, h, n, r0, w1, l0⟩, X, co c :: l⟩ := by
  intro nn
  refine ⟨_, rfl, fun h => (by cases h), ?_⟩
  show WC P w0 c ⟨f, h, n, X⟩ (RnE P w0 C l)
  intro Q k W a R hK
  have h1 := R.fr.get tm
  rw [hv] at h1
  obtain ⟨_, b, z, cap, hk, hu, hl, hz⟩ := h1.slc_inv
  have R1 : Rl w0 ⟨fput f tm (raw (.slice (some ⟨b, 0, none⟩) len cap)), h, n, X⟩ k W a := ⟨⟨by rw [fput_m]; exact R.fr.m, fun t' => by
    by_cases e : tm = t'
    · subst e
      rw [fget_same _ (by rw [Nat.blt_eq] at ht; exact ht)]
      have : a.tmps.getD tm undef = .slice (some ⟨b, 0, none⟩) len cap := hu
      rw [this]; exact VX.raw
    · rw [fget_ne _ e]; exact R.fr.get t', R.fr.df⟩, R.hr, R.nn, R.nk, R.am⟩
  obtain ⟨X', g1, g2, g3, R2⟩ := R1.told (F b cap) hk hcs hp (lives_at hσ)
  have hr := H b cap X' hl g1 g2 g3
  have hw : WC P w0 c ⟨(t b cap).1, (t b cap).2.1, (t b cap).2.2, X'⟩ (RnE P w0 C l) := cf_sem R2.nn hr
  exact hw Q _ W a R2 hK
/-- A slice of one's own in a cell of a block of one's own, told of. -/
theorem told_h {op0 : Array Oper} {r0 w1 : Nat} {l0 : List (Nat × Nat)} {f : FT} {h : HT} {n : Nat} {X : World} {c : Code} {l : List It} (jb j i len es : Nat) (cs cb : List Value) (σ : List Nat) (t : Nat → Nat → FT × HT × Nat) (hcb : hget h jb = some cb) (hv : cb[j]? = some (.slice (some ⟨i, 0, none⟩) len es)) (hcs : hget h i = some cs) (hp : cs.all pur1 = true) (hij : Nat.beq jb i = false) (hσ : lives h i σ = true)
    (F : ∀ b cap, Fit w0.m ⟨f, hs12 h jb (some (cb.set j (raw (.slice (some ⟨b, 0, none⟩) len cap)))), n, X⟩ ⟨(t b cap).1, (t b cap).2.1, (t b cap).2.2, X⟩ σ)
    (H : ∀ b cap X', len ≤ cap → Xf X' X → Ho X b → Lies X' b 0 (cs.map den1) → Rn P w0 C (cf ⟨(t b cap).1, (t b cap).2.1, (t b cap).2.2, X'⟩ (co c :: l))) : Rn P w0 C ⟨op0, [], false, ⟨f, h, n, r0, w1, l0⟩, X, co c :: l⟩ := by
  intro nn
  refine ⟨_, rfl, fun h => (by cases h), ?_⟩
  show WC P w0 c ⟨f, h, n, X⟩ (RnE P w0 C l)
  intro Q k W a R hK
  have hjn : jb < 4096 := hget_lt hcb
  have hne : jb ≠ i := fun e => by rw [e, Nat.beq_refl] at hij; cases hij
  have rb := (R.hr.all R.nn (bit jb)).rep jb (tb_bit.2 rfl) cb hcb
  have setR : ∀ (l m : List Value) (j : Nat) (v : Value), LR (VX k) l m → (∀ u, m[j]? = some u → VX k v u) → LR (VX k) (l.set j v) m := by
    intro l
    induction l with
    | nil => intro m j v e _; exact e
    | cons x xs ih =>
      rintro m j v ⟨y, ys, rfl, r, q⟩ hvv
      cases j with
      | zero => exact ⟨y, ys, rfl, hvv y rfl, q⟩
      | succ j => exact ⟨y, ys, rfl, r, ih ys j v q (fun u hu => hvv u (by simpa using hu))⟩
  obtain ⟨u, hvx, hrb⟩ : ∃ u : Value, VX k (.slice (some ⟨i, 0, none⟩) len es) u ∧ RB k W jb (cb.set j (raw u)) := by
    rcases rb with ⟨b1, us, sp, ty, e1, e2, e3⟩ | ⟨b1, es', e1, e2, e3⟩
    · obtain ⟨u, g1, g2⟩ := e3.get hv
      exact ⟨u, g2, Or.inl ⟨b1, us, sp, ty, e1, e2, setR _ _ _ _ e3 fun u' hu' => by rw [g1] at hu'; cases hu'; exact VX.raw⟩⟩
    · obtain ⟨u, g1, g2⟩ := e3.get hv
      exact ⟨u, g2, Or.inr ⟨b1, es', e1, e2, setR _ _ _ _ e3 fun u' hu' => by rw [g1] at hu'; cases hu'; exact VX.raw⟩⟩
  obtain ⟨_, b, z, cap, hk, rfl, hl, hz⟩ := hvx.slc_inv
  obtain ⟨h1, hh1⟩ : ∃ h1, hs12 h jb (some (cb.set j (raw (.slice (some ⟨b, 0, none⟩) len cap)))) = h1 := ⟨_, rfl⟩
  have gj : hget h1 jb = some (cb.set j (raw (.slice (some ⟨b, 0, none⟩) len cap))) := by rw [← hh1]; exact hget_same _ hjn
  have go : ∀ i', i' ≠ jb → hget h1 i' = hget h i' := fun i' hi' => by rw [← hh1]; exact hget_ne _ hjn (Ne.symm hi')
  have lv : ∀ i', live h1 i' ↔ live h i' := fun i' => by
    by_cases e : i' = jb
    · subst e; exact ⟨fun _ => ⟨_, hcb⟩, fun _ => ⟨_, gj⟩⟩
    · unfold live; rw [go i' e]
  have F' := F b cap
  rw [hh1] at F'
  have R1 : Rl w0 ⟨f, h1, n, X⟩ k W a := by
    refine ⟨R.fr, ⟨fun i' hi' cs' hcs' => ?_, fun i1 i2 t1 t2 l1 l2 => R.hr.inj i1 i2 t1 t2 ((lv i1).1 l1) ((lv i2).1 l2)⟩, fun i' hi' => ?_, R.nk, R.am⟩
    · by_cases e : i' = jb
      · subst e; rw [gj] at hcs'; cases hcs'; exact hrb
      · rw [go i' e] at hcs'; exact R.hr.rep i' hi' cs' hcs'
    · show hget h1 i' = none
      cases e : hget h1 i' with
      | none => rfl
      | some cs' => obtain ⟨c2, e2⟩ := (lv i').1 ⟨cs', e⟩; rw [R.nn i' hi'] at e2; cases e2
  obtain ⟨X', g1, g2, g3, R2⟩ := R1.told F' hk (by rw [go i (Ne.symm hne)]; exact hcs) hp (fun j' hj' => ⟨(lives_at hσ j' hj').1, (lv j').2 (lives_at hσ j' hj').2⟩)
  have hr := H b cap X' hl g1 g2 g3
  have hw : WC P w0 c ⟨(t b cap).1, (t b cap).2.1, (t b cap).2.2, X'⟩ (RnE P w0 C l) := cf_sem R2.nn hr
  exact hw Q _ W a R2 hK
end
end S
end Go.Proofs.YtfmfeipeeedfpaaGreat
namespace Go.Proofs.YtfmfeipeeedfpaaGreat
open S Go.RowKit
/-- A node without its place, its arguments as told. -/
def kd (g : Ex → Ex) (x : Ex) : Ex := { x with p := none, cl := 0, a := x.a.map g }
/-- A tree without its places. -/
def ek : Nat → Ex → Ex
  | 0, x => kd (fun y => y) x
  | d + 1, x => kd (ek d) x
/-- No deeper than that. -/
def Dp : Nat → Ex → Prop
  | 0, x => x.a = []
  | d + 1, x => ∀ y ∈ x.a, Dp d y
theorem kd_c {f g : Ex → Ex} {x : Ex} (h : ∀ y ∈ x.a, f y = g y) : kd f x = kd g x := by
  unfold kd; rw [List.map_congr_left h]
theorem ek_up : ∀ {d : Nat} {x : Ex}, Dp d x → ek (d + 1) x = ek d x
  | 0, x, h => kd_c fun y hy => by rw [show x.a = [] from h] at hy; cases hy
  | d + 1, x, h => kd_c fun y hy => ek_up (h y hy)
theorem Dp.up : ∀ {d : Nat} {x : Ex}, Dp d x → Dp (d + 1) x
  | 0, x, h => fun y hy => by rw [show x.a = [] from h] at hy; cases hy
  | d + 1, x, h => fun y hy => (h y hy).up
theorem XU.up : ∀ {d : Nat} {x : Ex}, Dp d x → XU d x → XU (d + 1) x
  | 0, x, h, hu => ⟨hu, fun y hy => by rw [show x.a = [] from h] at hy; cases hy⟩
  | d + 1, x, h, hu => ⟨hu.1, fun y hy => XU.up (h y hy) (hu.2 y hy)⟩
/-- A constant that holds this value. -/
def cstX (v : VL) : Ex := ⟨1, 0, E0, E0, v.k, v.b, l0 v.n, l1 v.n, l2 v.n, l3 v.n, v.s, v.f, v.t, v.e, 0, 0, none, 0, []⟩
theorem cst_ek (v : VL) : ∀ d, ek d (cstX v) = cstX v
  | 0 => rfl
  | _ + 1 => rfl
def isC (y : Ex) : Bool := decide (y.k = 1) && y.a.isEmpty
/-- Is the first one a flag that is known? -/
def fsC (l : List Ex) : Bool := match l with
  | c :: _ => isC c && decide (c.vk = 2)
  | [] => false
/-- Is it an if of which is known which argument it takes? -/
def chE (b : Ex) : Bool := decide (b.k = 6) && whl b && fsC b.a
def fxE (b : Ex) : Bool := whl b && !decide (b.k = 2) && !decide (b.k = 10) && b.a.all isC
def pkE (b : Ex) : Ex := match b.a with
  | [c, p, q] => if c.fl then p else q
  | _ => b
def fnE (e : Ev) (d : Nat) (b : Ex) : Ex := if chE b then pkE b else if fxE b then cstX (evE e d b) else b
/-- What a tree folds to. -/
def fdE (e : Ev) : Nat → Ex → Ex
  | 0, x => fnE e 0 (kd (fun y => y) x)
  | d + 1, x => fnE e (d + 1) (kd (fdE e d) x)
theorem isC_ek (y : Ex) : ∀ d, isC (ek d y) = isC y := by
  have : ∀ g, isC (kd g y) = isC y := fun g => by unfold isC kd; dsimp only; cases y.a <;> rfl
  intro d; cases d <;> exact this _
theorem whl_kd (g : Ex → Ex) (x : Ex) : whl (kd g x) = whl x := by
  unfold whl whN kd; dsimp only; rw [List.length_map]
theorem ev_ek (e : Ev) : ∀ (d : Nat) (x : Ex), evE e d (ek d x) = evE e d x
  | 0, x => by unfold evE ek; rw [whl_kd]; rfl
  | d + 1, x => by
    unfold evE; rw [ek, whl_kd]
    have : (fun j => (((kd (ek d) x).a[j]?).map (evE e d)).getD vBl) = fun j => ((x.a[j]?).map (evE e d)).getD vBl := funext fun (j : Nat) => by
      show (((x.a.map (ek d))[j]?).map (evE e d)).getD vBl = _
      rw [List.getElem?_map, Option.map_map]
      cases x.a[j]? with
      | none => rfl
      | some y => simp only [Option.map_some, Option.getD_some, Function.comp_apply]; exact ev_ek e d y
    rw [this]; rfl
theorem ch_kd (d : Nat) (x : Ex) : chE (kd (ek d) x) = chE x := by
  unfold chE; rw [whl_kd]
  have : ∀ y, isC (ek d y) = isC y ∧ (ek d y).vk = y.vk := fun y => ⟨isC_ek y d, by cases d <;> rfl⟩
  unfold kd; dsimp only
  cases x.a with
  | nil => rfl
  | cons c r => simp only [List.map_cons, fsC, (this c).1, (this c).2]
theorem fx_kd (d : Nat) (x : Ex) : fxE (kd (ek d) x) = fxE x := by
  unfold fxE; rw [whl_kd]
  unfold kd; dsimp only
  rw [List.all_map]
  have : isC ∘ ek d = isC := funext fun y => isC_ek y d
  rw [this]
/-! Trees that lie in certain blocks. -/
def LN (S : Nat → Prop) (w : World) : Nat → Ex → Prop
  | 0, x => x.a = []
  | d + 1, x => x.a.length ≤ 1000000000 ∧ ∀ i y, x.a[i]? = some y → (∃ b o, S b ∧ x.p = some ⟨b, o, none⟩ ∧ Lies w b (o + i * 17) y.c) ∧ LN S w d y
theorem LN.lt {S : Nat → Prop} {w : World} : ∀ {d : Nat} {x : Ex}, LN S w d x → LT w d x
  | 0, _, h => h
  | d + 1, _, h => ⟨Nat.le_trans h.1 (by decide), fun i y hy => by obtain ⟨⟨b, o, _, h2, h3⟩, h4⟩ := h.2 i y hy; exact ⟨⟨b, o, h2, h3⟩, h4.lt⟩⟩
theorem LN.dp {S : Nat → Prop} {w : World} : ∀ {d : Nat} {x : Ex}, LN S w d x → Dp d x
  | 0, _, h => h
  | d + 1, _, h => fun y hy => by obtain ⟨i, hi⟩ := List.getElem?_of_mem hy; exact (h.2 i y hi).2.dp
theorem LN.up {S : Nat → Prop} {w : World} : ∀ {d : Nat} {x : Ex}, LN S w d x → LN S w (d + 1) x
  | 0, x, h => ⟨by rw [show x.a = [] from h]; decide, fun i y hy => by rw [show x.a = [] from h] at hy; cases hy⟩
  | d + 1, _, h => ⟨h.1, fun i y hy => ⟨(h.2 i y hy).1, (h.2 i y hy).2.up⟩⟩
theorem LN.le {S T : Nat → Prop} (hST : ∀ b, S b → T b) {w : World} : ∀ {d : Nat} {x : Ex}, LN S w d x → LN T w d x
  | 0, _, h => h
  | d + 1, _, h => ⟨h.1, fun i y hy => by obtain ⟨⟨b, o, h1, h2, h3⟩, h4⟩ := h.2 i y hy; exact ⟨⟨b, o, hST b h1, h2, h3⟩, LN.le hST h4⟩⟩
theorem lies_lo {X X' : World} {b o : Nat} {us : List Value} (h : ∀ o : Obj, X.heap[b]? = some o → o ≠ hole X → X'.heap[b]? = some o ∧ o ≠ hole X') (hl : Lies X b o us) : Lies X' b o us := fun j u hj => by
  have hc := hl j u hj
  unfold World.cell? at hc ⊢
  dsimp only at hc ⊢
  split at hc
  · rename_i c ty fz hx
    have : (Obj.cells c ty fz) ≠ hole X := fun e => by
      unfold hole at e
      cases e
      simp at hc
    rw [(h _ hx this).1]; exact hc
  · cases hc
theorem LN.lo {S : Nat → Prop} {X X' : World} (h : ∀ (b : Nat) (o : Obj), S b → X.heap[b]? = some o → o ≠ hole X → X'.heap[b]? = some o ∧ o ≠ hole X') : ∀ {d : Nat} {x : Ex}, LN S X d x → LN S X' d x
  | 0, _, g => g
  | d + 1, _, g => ⟨g.1, fun i y hy => by obtain ⟨⟨b, o, h1, h2, h3⟩, h4⟩ := g.2 i y hy; exact ⟨⟨b, o, h1, h2, lies_lo (fun o' => h b o' h1) h3⟩, LN.lo h h4⟩⟩
theorem LN.xf {S : Nat → Prop} {X X' : World} (h : Xf X' X) {d : Nat} {x : Ex} (g : LN S X d x) : LN S X' d x := g.lo fun b o _ => h.2 b o
theorem cst_ln (S : Nat → Prop) (w : World) (v : VL) : ∀ d, LN S w d (cstX v)
  | 0 => rfl
  | _ + 1 => ⟨Nat.zero_le _, fun i y hy => by cases hy⟩
theorem cst_xu (v : VL) : ∀ d, XU d (cstX v) := by
  have : (cstX v).u4 := u4_lb v.n
  intro d; cases d with
  | zero => exact this
  | succ d => exact ⟨this, fun y hy => by cases hy⟩
/-- A tree in new memory that is what this one folds to. -/
def FX (e : Ev) (d : Nat) (x : Ex) (y : Ex × Bool) (S : Nat → Prop) (W : World) : Prop := LN S W d y.1 ∧ XU d y.1 ∧ ek d y.1 = fdE e d x
theorem loc_FX (e : Ev) (d : Nat) (x : Ex) : Lcl (FX e d x) := ⟨fun _ _ _ _ h g => ⟨g.1.le h, g.2⟩, fun _ _ _ _ h g => ⟨g.1.lo h, g.2⟩⟩
/-- Arguments that were folded. -/
abbrev YA := List Ex × Option Addr × Nat × Bool
structure FA (e : Ev) (d : Nat) (x : Ex) (y : YA) (S : Nat → Prop) (W : World) : Prop where
  l : ∀ (i : Nat) (z : Ex), y.1[i]? = some z → (∃ b o, S b ∧ y.2.1 = some ⟨b, o, none⟩ ∧ Lies W b (o + i * 17) z.c) ∧ LN S W d z ∧ XU d z
  m : y.1.map (ek d) = x.a.map (fdE e d)
theorem loc_FA (e : Ev) (d : Nat) (x : Ex) : Lcl (FA e d x) := ⟨fun _ _ _ _ h g => ⟨fun i z hz => by obtain ⟨⟨b, o, h1, h2⟩, h3, h4⟩ := g.l i z hz; exact ⟨⟨b, o, h b h1, h2⟩, h3.le h, h4⟩, g.m⟩,
  fun _ _ _ _ h g => ⟨fun i z hz => by obtain ⟨⟨b, o, h1, h2, h5⟩, h3, h4⟩ := g.l i z hz; exact ⟨⟨b, o, h1, h2, lies_lo (fun o' => h b o' h1) h5⟩, h3.lo h, h4⟩, g.m⟩⟩
/-- The node with its arguments folded, as it lies there. -/
def bX (x : Ex) (y : YA) : Ex := { x with p := y.2.1, cl := y.2.2.1, a := y.1 }
section
variable {e : Ev} {d : Nat} {x : Ex} {y : YA} {S : Nat → Prop} {W : World}
theorem FA.len (h : FA e d x y S W) : y.1.length = x.a.length := by have := congrArg List.length h.m; simpa using this
theorem FA.ln (h : FA e d x y S W) (hl : x.a.length ≤ 1000000000) : LN S W (d + 1) (bX x y) := ⟨by show y.1.length ≤ _; rw [h.len]; exact hl, fun i z hz => ⟨(h.l i z hz).1, (h.l i z hz).2.1⟩⟩
theorem FA.xu (h : FA e d x y S W) (hx : x.u4) : XU (d + 1) (bX x y) := ⟨hx, fun z hz => by obtain ⟨i, hi⟩ := List.getElem?_of_mem hz; exact (h.l i z hi).2.2⟩
theorem FA.ek (h : FA e d x y S W) : ek (d + 1) (bX x y) = kd (fdE e d) x := by
  show kd (_root_.Go.Proofs.YtfmfeipeeedfpaaGreat.ek d) (bX x y) = _
  unfold kd bX; dsimp only; rw [h.m]
theorem FA.ch (h : FA e d x y S W) : chE (bX x y) = chE (kd (fdE e d) x) := by rw [← h.ek]; exact (ch_kd d _).symm
theorem FA.fx (h : FA e d x y S W) : fxE (bX x y) = fxE (kd (fdE e d) x) := by rw [← h.ek]; exact (fx_kd d _).symm
theorem FA.ev (h : FA e d x y S W) (e' : Ev) : evE e' (d + 1) (bX x y) = evE e' (d + 1) (kd (fdE e d) x) := by rw [← h.ek]; exact (ev_ek e' (d + 1) _).symm
/-- What comes of it: one of its arguments, a constant, itself. -/
theorem FA.pick (h : FA e d x y S W) (hc : chE (bX x y) = true) {c p q : Ex} (ha : y.1 = [c, p, q]) (mk : Bool) : FX e (d + 1) x (if c.fl then p else q, mk) S W := by
  have hp : ∀ z ∈ y.1, LN S W d z ∧ XU d z := fun z hz => by obtain ⟨i, hi⟩ := List.getElem?_of_mem hz; exact (h.l i z hi).2
  have hm := h.m
  rw [ha] at hm hp
  have key : ∀ z, z ∈ [c, p, q] → LN S W (d + 1) z ∧ XU (d + 1) z ∧ _root_.Go.Proofs.YtfmfeipeeedfpaaGreat.ek (d + 1) z = _root_.Go.Proofs.YtfmfeipeeedfpaaGreat.ek d z := fun z hz => ⟨(hp z hz).1.up, XU.up (hp z hz).1.dp (hp z hz).2, ek_up (hp z hz).1.dp⟩
  have hfd : fdE e (d + 1) x = pkE (kd (fdE e d) x) := by
    show fnE e (d + 1) (kd (fdE e d) x) = _
    unfold fnE; rw [← h.ch, hc]; rfl
  have hpk : pkE (kd (fdE e d) x) = if c.fl then _root_.Go.Proofs.YtfmfeipeeedfpaaGreat.ek d p else _root_.Go.Proofs.YtfmfeipeeedfpaaGreat.ek d q := by
    unfold pkE
    show (match x.a.map (fdE e d) with
      | [c, p, q] => if c.fl then p else q
      | _ => kd (fdE e d) x) = _
    rw [← hm]
    have : (_root_.Go.Proofs.YtfmfeipeeedfpaaGreat.ek d c).fl = c.fl := by cases d <;> rfl
    simp only [List.map_cons, List.map_nil, this]
  unfold FX
  rw [hfd, hpk]
  cases c.fl with
  | true => obtain ⟨g1, g2, g3⟩ := key p (by simp); exact ⟨g1, g2, g3⟩
  | false => obtain ⟨g1, g2, g3⟩ := key q (by simp); exact ⟨g1, g2, g3⟩
theorem FA.cst (h : FA e d x y S W) (hc : chE (bX x y) = false) (hf : fxE (bX x y) = true) (mk : Bool) : FX e (d + 1) x (cstX (evE e (d + 1) (bX x y)), mk) S W := by
  refine ⟨cst_ln _ _ _ _, cst_xu _ _, ?_⟩
  show _root_.Go.Proofs.YtfmfeipeeedfpaaGreat.ek (d + 1) (cstX _) = fnE e (d + 1) (kd (fdE e d) x)
  unfold fnE
  rw [← h.ch, hc, ← h.fx, hf, cst_ek, h.ev]; rfl
theorem FA.it (h : FA e d x y S W) (hl : x.a.length ≤ 1000000000) (hx : x.u4) (hc : chE (bX x y) = false) (hf : fxE (bX x y) = false) (mk : Bool) : FX e (d + 1) x (bX x y, mk) S W := by
  refine ⟨h.ln hl, h.xu hx, ?_⟩
  show _root_.Go.Proofs.YtfmfeipeeedfpaaGreat.ek (d + 1) (bX x y) = fnE e (d + 1) (kd (fdE e d) x)
  unfold fnE
  rw [← h.ch, hc, ← h.fx, hf, h.ek]; rfl
end
/-- Of a node without arguments. -/
theorem FX.low {e : Ev} {x : Ex} {y : Ex × Bool} {S : Nat → Prop} {W : World} (hx : x.a = []) (h : FX e 1 x y S W) : FX e 0 x y S W := by
  have e1 : fdE e 1 x = fdE e 0 x := by
    show fnE e 1 (kd (fdE e 0) x) = fnE e 0 (kd (fun y => y) x)
    have : kd (fdE e 0) x = kd (fun y => y) x := kd_c fun y hy => by rw [hx] at hy; cases hy
    rw [this]
    have ha : (kd (fun y => y) x).a = [] := by unfold kd; simp [hx]
    unfold fnE
    have : evE e 1 (kd (fun y => y) x) = evE e 0 (kd (fun y => y) x) := by
      unfold evE; rw [ha]; rfl
    rw [this]
  have ha : (fdE e 0 x).a = [] := by
    have hk : (kd (fun y => y) x).a = [] := by unfold kd; simp [hx]
    show (fnE e 0 (kd (fun y => y) x)).a = []
    unfold fnE
    split
    · unfold pkE; rw [hk]; exact hk
    · split
      · rfl
      · exact hk
  have hy : y.1.a = [] := by
    have := congrArg Ex.a h.2.2
    rw [e1, ha] at this
    have h2 : y.1.a.map (ek 0) = [] := this
    simpa using h2
  refine ⟨hy, h.2.1.1, ?_⟩
  rw [← e1, ← h.2.2]
  exact (ek_up (d := 0) hy).symm
theorem nds_kid {d : Nat} {x : Ex} {N : Nat} (h : nds (d + 1) x ≤ N) : x.a.length ≤ N ∧ ∀ y ∈ x.a, nds d y ≤ N := by
  have pos : ∀ (d : Nat) (y : Ex), 1 ≤ nds d y := fun d y => by
    cases d with
    | zero => exact Nat.le_refl _
    | succ d => show 1 ≤ y.a.foldl (fun n y => n + nds d y) 1; rw [fold_nds]; omega
  have key : ∀ l : List Ex, l.length ≤ l.foldl (fun n y => n + nds d y) 0 ∧ ∀ y ∈ l, nds d y ≤ l.foldl (fun n y => n + nds d y) 0 := by
    intro l
    induction l with
    | nil => exact ⟨Nat.le_refl _, fun y hy => by cases hy⟩
    | cons z l ih =>
      rw [List.foldl_cons, fold_nds]
      have := pos d z
      refine ⟨by rw [List.length_cons]; omega, fun y hy => ?_⟩
      rcases List.mem_cons.1 hy with rfl | hy
      · omega
      · have := ih.2 y hy; omega
  have h1 : nds (d + 1) x = 1 + x.a.foldl (fun n y => n + nds d y) 0 := fold_nds x.a 1
  obtain ⟨k1, k2⟩ := key x.a
  exact ⟨by omega, fun y hy => by have := k2 y hy; omega⟩
theorem emp_len {x : Ex} : x.a.isEmpty = decide ((x.a.length : Int) = 0) := by
  cases h : x.a with
  | nil => rfl
  | cons a l => simp; omega
set_option maxRecDepth 20000 in
theorem f_const (x : Ex) (w : World) : Calls Tryz.prog 135 #[.agg x.c.toArray] w fun r W => r = .returned (.bool (isC x)) ∧ Mb w W := by
  refine fn_pure [.agg (x.c.map rel1).toArray] Tryz.func135 rfl rfl rfl (run_ok (st mo ?_))
  refine ⟨fun h => st mo (st mo ⟨fun h0 => st mo ?_, fun h0 => st mo ?_⟩), fun h => st mo ?_⟩
  · show _ = _; rw [isC, emp_len, decide_eq_true h, decide_eq_true h0]; rfl
  · show _ = _; rw [isC, emp_len, decide_eq_true h, decide_eq_false h0]; rfl
  · show _ = _; rw [isC, decide_eq_false h]; rfl
theorem f_const' {x : Ex} {b : Bool} (h : isC x = b) (w : World) : Calls Tryz.prog 135 #[.agg x.c.toArray] w fun r W => r = .returned (.bool b) ∧ Mb w W := h ▸ f_const x w
set_option maxRecDepth 20000 in
theorem f_choice {d : Nat} (x : Ex) (w : World) (hL : LT w (d + 1) x) : Calls Tryz.prog 89 #[.agg x.c.toArray] w fun r W => r = .returned (.bool (chE x)) ∧ Mb w W := by
  refine fn_pure [.agg (x.c.map rel1).toArray] Tryz.func89 rfl rfl rfl (run_ok (st mo ?_))
  refine ⟨fun h6 => st mo ?_, fun h6 => st mo ?_⟩
  · cases hw : whl x with
    | false =>
      refine ⟨_, fun nn => r_call (t := litF) rfl rfl Tryz.func60 (fun W M E => f_whole' hw W), st mo ?_⟩
      show _ = _; rw [chE, hw, Bool.and_false]; rfl
    | true =>
      have hl : x.a.length = 3 := by
        have h := of_decide_eq_true hw
        unfold whN at h
        rw [if_neg (by omega), if_neg (by omega), if_neg (by omega), if_pos h6] at h
        injection h with h; exact h.symm
      obtain ⟨c, hc⟩ : ∃ c, x.a[0]? = some c := ⟨_, List.getElem?_eq_getElem (by omega)⟩
      obtain ⟨⟨b, o, h4, h5⟩, h8⟩ := hL.at hc
      have hm : fsC x.a = (isC c && decide (c.vk = 2)) := by
        cases ha : x.a with
        | nil => rw [ha] at hl; cases hl
        | cons z l => rw [ha] at hc; simp at hc; subst hc; rfl
      refine ⟨_, fun nn => r_call (t := litT) rfl rfl Tryz.func60 (fun W M E => f_whole' hw W), st mo ?_⟩
      refine ⟨b, o, 0, h4, rfl, by omega, st mo ⟨c.c, rfl, h5, st mo ?_⟩⟩
      cases hcc : isC c with
      | false =>
        refine ⟨_, fun nn => r_call (t := litF) rfl rfl Tryz.func135 (fun W M E => f_const' hcc W), st mo ?_⟩
        show _ = _; rw [chE, hm, hcc, hw, Bool.false_and, Bool.and_false]
      | true =>
        refine ⟨_, fun nn => r_call (t := litT) rfl rfl Tryz.func135 (fun W M E => f_const' hcc W), st mo ?_⟩
        refine ⟨b, o, 0, h4, rfl, by omega, st mo ⟨.int .i64 c.vk, h5 4 _ rfl, st mo ⟨fun h2 => st mo ?_, fun h2 => st mo ?_⟩⟩⟩
        · show _ = _; rw [chE, hm, hcc, hw, decide_eq_true h6, decide_eq_true h2]; rfl
        · show _ = _; rw [chE, hm, hcc, hw, decide_eq_true h6, decide_eq_false h2]; rfl
  · show _ = _; rw [chE, decide_eq_false h6]; rfl
theorem all_stop {l : List Ex} {i : Nat} {y : Ex} (hy : l[i]? = some y) (h : isC y = false) : l.all isC = false := by
  rw [Bool.eq_false_iff]; intro ha
  rw [List.all_eq_true] at ha
  rw [ha y (List.mem_of_getElem? hy)] at h; cases h
set_option maxRecDepth 20000 in
theorem f_fixed {d : Nat} (x : Ex) (w : World) (hL : LT w (d + 1) x) : Calls Tryz.prog 90 #[.agg x.c.toArray] w fun r W => r = .returned (.bool (fxE x)) ∧ Mb w W := by
  refine fn_pure [.agg (x.c.map rel1).toArray] Tryz.func90 rfl rfl rfl (run_ok (st mo ?_))
  cases hw : whl x with
  | false =>
    refine ⟨_, fun nn => r_call (t := litF) rfl rfl Tryz.func60 (fun W M E => f_whole' hw W), st mo ?_⟩
    show _ = _; rw [fxE, hw]; rfl
  | true =>
    refine ⟨_, fun nn => r_call (t := litT) rfl rfl Tryz.func60 (fun W M E => f_whole' hw W), st mo ?_⟩
    refine ⟨fun h2 => st mo ?_, fun h2 => st mo ⟨fun h10 => st mo ?_, fun h10 => st mo (st mo ?_)⟩⟩
    · show _ = _; rw [fxE, hw, decide_eq_true h2]; rfl
    · show _ = _; rw [fxE, hw, decide_eq_true h10, decide_eq_false h2]; rfl
    have hb := hL.1
    refine S.w_loop (fun i : Nat => ⟨⟨Tryz.f90.ntmps, [(19, raw (.slice x.p x.a.length x.cl)), (20, .int .i64 (x.a.length : Int)), (21, .int .i64 (i : Int))]⟩, [], 0, w⟩) (fun i => i ≤ x.a.length ∧ (x.a.take i).all isC = true) (fun i => x.a.length - i) 0 ⟨by omega, rfl⟩ [] ⟨rfl, ⟨fv, fv, fv, trivial⟩, trivial, xf, rfl, rfl⟩ ?_
    intro i hi
    refine st mo ⟨fun hlt => st mo ?_, fun hge => st mo (st mo ?_)⟩
    · have hil : i < x.a.length := by omega
      obtain ⟨y, hy⟩ : ∃ y, x.a[i]? = some y := ⟨_, List.getElem?_eq_getElem hil⟩
      obtain ⟨⟨b, o, h4, h5⟩, h8⟩ := hL.at hy
      refine ⟨b, o, i, h4, rfl, hil, st mo ⟨y.c, rfl, h5, st mo ?_⟩⟩
      cases hc : isC y with
      | false =>
        refine ⟨_, fun nn => r_call (t := litF) rfl rfl Tryz.func135 (fun W M E => f_const' hc W), st mo ?_⟩
        show _ = _; rw [fxE, all_stop hy hc, Bool.and_false]
      | true =>
        refine ⟨_, fun nn => r_call (t := litT) rfl rfl Tryz.func135 (fun W M E => f_const' hc W), st mo ⟨_, wz (i + 1) rfl, st mo ?_⟩⟩
        exact ⟨i + 1, ⟨hil, by rw [List.take_add_one, hy, List.all_append, hi.2]; simp [hc]⟩, by dsimp; omega, [], rfl, ⟨fv, fv, fv, trivial⟩, trivial, xf, rfl, rfl⟩
    · obtain rfl : i = x.a.length := by omega
      have ha := hi.2
      rw [List.take_length] at ha
      show _ = _; rw [fxE, hw, ha, decide_eq_false h2, decide_eq_false h10]; rfl
theorem f_choice' {d : Nat} {x : Ex} {b : Bool} (h : chE x = b) {w : World} (hL : LT w (d + 1) x) : Calls Tryz.prog 89 #[.agg x.c.toArray] w fun r W => r = .returned (.bool b) ∧ Mb w W := h ▸ f_choice x w hL
theorem f_fixed' {d : Nat} {x : Ex} {b : Bool} (h : fxE x = b) {w : World} (hL : LT w (d + 1) x) : Calls Tryz.prog 90 #[.agg x.c.toArray] w fun r W => r = .returned (.bool b) ∧ Mb w W := h ▸ f_fixed x w hL
namespace S
theorem fvd {σ : List Nat} {u v : Value} (hd : den2 u = den2 v := by rfl) (hu : pur2 u = true := by rfl) (hv : pur2 v = true := by rfl) : fitV σ u v := fun k w hw => by
  rw [pur2_eq hw hu, hd]; exact pur2_vx hv
/-- A region in the midst of which a call stands that comes to something in several ways: so many operations ahead of it. -/
theorem rxi {P : Program} {w0 : B0} {C : Exit → St → Prop} {ops op0 : Array Oper} {id r0 w1 : Nat} {l0 : List (Nat × Nat)} {f : FT} {h : HT} {n : Nat} {X : World} {stk : List It} (i : Nat)
    (hh : Rn P w0 (mid P w0 C ops (ops.toList.getD i default) (ops.toList.drop (i + 1)) stk) ⟨ops, ops.toList.take i, false, ⟨f, h, n, 0, 0, []⟩, X, []⟩) (ho : ops.toList = ops.toList.take i ++ ops.toList.getD i default :: ops.toList.drop (i + 1) := by rfl) (hg : (ops.toList.getD i default).guard = none := by rfl) : Rn P w0 C ⟨op0, [], false, ⟨f, h, n, r0, w1, l0⟩, X, co (.region id ops false) :: stk⟩ := rx _ _ _ ho hg hh
end S
/-- The reader as it is handed on; ahead of it a mark. -/
def hQ (e : Ev) (mk : Bool) (jk : List Value) : HT := (1 + 4096, none) :: hR e mk jk
abbrev FoC (e : Ev) (jk : List Value) (d : Nat) (x : Ex) (mk : Bool) : Prop := ∀ X, EvL X e → LT X d x → CtrX Tryz.prog X 58 [q0 0, xY x] (hQ e mk jk) 2 1 (fun y : Ex × Bool => xY y.1) (fun y => hQ e y.2 jk) 2 (FX e d x)
/-- Cells of a list of trees. -/
abbrev cX (l : List Ex) : List Value := l.flatMap Ex.c
theorem cX_len : ∀ l : List Ex, (cX l).length = l.length * 17
  | [] => rfl
  | y :: l => by rw [cX, List.flatMap_cons, List.length_append, List.length_cons, show (List.flatMap Ex.c l).length = l.length * 17 from cX_len l]; show 17 + _ = _; omega
theorem cX_at : ∀ (l : List Ex) (i : Nat) (y : Ex), l[i]? = some y → ∀ (j : Nat) (u : Value), y.c[j]? = some u → (cX l)[i * 17 + j]? = some u
  | [], _, _, h, _, _, _ => by cases h
  | z :: l, 0, y, h, j, u, hu => by
    simp at h; subst h
    rw [cX, List.flatMap_cons, Nat.zero_mul, Nat.zero_add, List.getElem?_append_left (List.getElem?_eq_some_iff.1 hu).1]; exact hu
  | z :: l, i + 1, y, h, j, u, hu => by
    rw [cX, List.flatMap_cons, List.getElem?_append_right (by show 17 ≤ _; omega)]
    rw [show (i + 1) * 17 + j - z.c.length = i * 17 + j by show (i + 1) * 17 + j - 17 = _; omega]
    exact cX_at l i y (by simpa using h) j u hu
theorem pur_cX (l : List Ex) : ((cX l).map rel1).all pur1 = true := by simp [pur_rel1]
theorem den_rel (l : List Value) : (l.map rel1).map den1 = l := by rw [List.map_map, show den1 ∘ rel1 = id from funext den_rel1, List.map_id]
/-- Where the folding of the arguments stands. -/
abbrev JA := Nat × Bool × List Ex × World
def jaF (x : Ex) (i : Nat) (a : Value) : FT := ⟨22, [(0, q0 0), (5, a), (8, raw (.slice x.p x.a.length x.cl)), (9, .int .i64 (x.a.length : Int)), (10, .int .i64 (i : Int))]⟩
def jaH (e : Ev) (jk : List Value) (mk : Bool) (ys : List Ex) : HT := (2 + 4096, none) :: (2, some ((cX ys).map rel1)) :: hQ e mk jk
def jaS (e : Ev) (jk : List Value) (x : Ex) (a : JA) : St := match a with
  | (0, mk, _, X) => ⟨jaF x 0 (.slice none 0 0), hQ e mk jk, 2, X⟩
  | (i + 1, mk, ys, X) => ⟨jaF x (i + 1) (.slice (some ⟨2, 0, none⟩) (i + 1) 17), jaH e jk mk ys, 3, X⟩
structure JaP (e : Ev) (d : Nat) (x : Ex) (X' : World) (a : JA) : Prop where
  le : a.1 ≤ x.a.length
  xf : Xf a.2.2.2 X'
  len : a.2.2.1.length = a.1
  ok : ∀ z ∈ a.2.2.1, LN (Ho X') a.2.2.2 d z ∧ XU d z
  m : a.2.2.1.map (ek d) = (x.a.take a.1).map (fdE e d)
theorem JaP.step {e : Ev} {d : Nat} {x y : Ex} {X' X2 : World} {a : JA} (h : JaP e d x X' a) (hy : x.a[a.1]? = some y) (hX : Xf X2 a.2.2.2) {z : Ex × Bool} (hz : FX e d y z (Ho a.2.2.2) X2) : JaP e d x X' (a.1 + 1, z.2, a.2.2.1 ++ [z.1], X2) := by
  refine ⟨(List.getElem?_eq_some_iff.1 hy).1, S.Xf.tr hX h.xf, by simp [h.len], fun w hw => ?_, ?_⟩
  · rcases List.mem_append.1 hw with hw | hw
    · exact ⟨(h.ok w hw).1.xf hX, (h.ok w hw).2⟩
    · simp at hw; subst hw
      exact ⟨hz.1.le fun b hb => hb.xf h.xf, hz.2.1⟩
  · show (a.2.2.1 ++ [z.1]).map (ek d) = _
    rw [List.map_append, h.m, List.take_add_one, hy, List.map_append]
    simp [hz.2.2]
set_option maxRecDepth 20000 in
theorem fold_args (e : Ev) (jk : List Value) (d : Nat) (x : Ex) (mk : Bool) (hlen : x.a.length ≤ 1000000000) (ih : ∀ y ∈ x.a, ∀ mk, FoC e jk d y mk) (X : World) (he : EvL X e) (hL : LT X (d + 1) x) :
    CtrX Tryz.prog X 88 [q0 0, raw (.slice x.p x.a.length x.cl)] (hQ e mk jk) 2 1 (fun y : YA => raw (.slice y.2.1 y.1.length y.2.2.1)) (fun y => hQ e y.2.2.2 jk) 2 (FA e d x) := by
  refine fn_x (loc_FA e d x) _ Tryz.func88 rfl rfl rfl rfl (fun w l X' hX => run_ok (st mo (st mo ?_)))
  refine S.w_loop (jaS e jk x) (JaP e d x X') (fun a => x.a.length - a.1) (0, mk, [], X') ⟨Nat.zero_le _, xf, rfl, fun z hz => (by cases hz), rfl⟩ [0, 1] ⟨rfl, ⟨fp, fv, fv, fv, fv, trivial⟩, ⟨trivial, mc_fit, trivial, cR_fit, trivial⟩, xf, rfl, rfl⟩ ?_
  rintro ⟨i, mk, ys, X1⟩ hp
  have hX1 : Xf X1 X := S.Xf.tr hp.xf hX
  have he1 := he.xf hX1
  have hL1 := hL.mono (xce hX1)
  rcases i with _ | i
  · refine st mo ⟨fun hlt => su 5 mo ?_, fun hge => st mo ?_⟩
    · have hil : 0 < x.a.length := by omega
      obtain ⟨y, hy⟩ : ∃ y, x.a[0]? = some y := ⟨_, List.getElem?_eq_getElem hil⟩
      obtain ⟨⟨b, o, h4, h5⟩, h8⟩ := hL1.at hy
      refine ⟨b, o, 0, h4, rfl, hil, su 5 mo ⟨y.c, rfl, h5, su 5 mo ?_⟩⟩
      refine rxi 3 (st mo ⟨Ex × Bool, _, _, _, r_cx (tc := fun z => xY z.1) (loc_FX e d y) [0, 1] (fun z => [some (rdC e (mcR 3 z.2)), some (cR e z.2 jk)]) [3] rfl rfl (ih y (List.mem_of_getElem? hy) mk X1 he1 h8) (fitL_cons fp (fitL_cons fv rfl)) ⟨trivial, mc_fit, trivial, cR_fit, trivial⟩ (fun z => uv) (fun z => ⟨mc_un, cR_un, trivial⟩) (fun z => rfl), fun z X2 hX2 hz => ?_⟩)
      refine ⟨(⟨22, [(14, .slice none 0 0), (17, xY z.1), (0, q0 0), (8, raw (.slice x.p x.a.length x.cl)), (9, .int .i64 (x.a.length : Int)), (10, .int .i64 (0 : Int))]⟩, hQ e z.2 jk, 2), [0, 3], ⟨rfl, ⟨fv, fv, fp, fv, fv, fv, trivial⟩, ⟨trivial, mc_fit, trivial, cR_fit, trivial⟩, xf, rfl, rfl⟩, rfl, st mo ?_⟩
      refine ⟨1, z.1.c.map rel1, _, put_own rfl rfl rfl rfl rfl, by omega, by omega, st mo ⟨_, wz 1 rfl, st mo ?_⟩⟩
      refine ⟨(1, z.2, ys ++ [z.1], X2), hp.step hy hX2 hz, by dsimp; omega, [0, 1, 3], rfl, ⟨fp, fs, fv, fv, fv, trivial⟩, ⟨trivial, ?_, trivial, mc_fit, trivial, cR_fit, trivial⟩, xf, rfl, rfl⟩
      have hys : ys = [] := List.eq_nil_of_length_eq_zero hp.len
      rw [hys]; exact flr (by simp)
    · have h0 : x.a = [] := List.eq_nil_of_length_eq_zero (by omega)
      refine st mo ?_
      exact ⟨hp.xf, ([], none, 0, mk), [0, 1], ⟨fun i z hz => (by cases hz), by simp [h0]⟩, fvd, ⟨trivial, mc_fit, trivial, cR_fit, trivial⟩, rfl, rfl⟩
  · have hln := hp.len
    have hle := hp.le
    refine st mo ⟨fun hlt => su 5 mo ?_, fun hge => st mo ?_⟩
    · have hil : i + 1 < x.a.length := by omega
      obtain ⟨y, hy⟩ : ∃ y, x.a[i + 1]? = some y := ⟨_, List.getElem?_eq_getElem hil⟩
      obtain ⟨⟨b, o, h4, h5⟩, h8⟩ := hL1.at hy
      refine ⟨b, o, i + 1, h4, rfl, hil, su 5 mo ⟨y.c, rfl, h5, su 5 mo ?_⟩⟩
      refine rxi 3 (st mo ⟨Ex × Bool, _, _, _, r_cx (tc := fun z => xY z.1) (loc_FX e d y) [0, 1] (fun z => [some (rdC e (mcR 4 z.2)), some (cR e z.2 jk)]) [4] rfl rfl (ih y (List.mem_of_getElem? hy) mk X1 he1 h8) (fitL_cons fp (fitL_cons fv rfl)) ⟨trivial, mc_fit, trivial, cR_fit, trivial⟩ (fun z => uv) (fun z => ⟨mc_un, cR_un, trivial⟩) (fun z => rfl), fun z X2 hX2 hz => ?_⟩)
      refine ⟨(⟨22, [(14, .slice (some ⟨2, 0, none⟩) (i + 1) 17), (17, xY z.1), (0, q0 0), (8, raw (.slice x.p x.a.length x.cl)), (9, .int .i64 (x.a.length : Int)), (10, .int .i64 ((i + 1 : Nat) : Int))]⟩, jaH e jk z.2 ys, 3), [0, 4, 2], ⟨rfl, ⟨fs, fv, fp, fv, fv, fv, trivial⟩, ⟨trivial, flr rfl, trivial, mc_fit, trivial, cR_fit, trivial⟩, xf, rfl, rfl⟩, rfl, st mo ?_⟩
      refine ⟨((List.length_map _).trans (cX_len ys)).trans (by rw [show ys.length = i + 1 from hln]; rfl), 1, z.1.c.map rel1, _, put_own rfl rfl rfl rfl rfl, by omega, _, rfl, st mo ⟨_, wz (i + 2) rfl, st mo ?_⟩⟩
      exact ⟨(i + 1 + 1, z.2, ys ++ [z.1], X2), hp.step hy hX2 hz, by dsimp; omega, [0, 1, 4], rfl, ⟨fp, fs, fv, fv, fv, trivial⟩, ⟨trivial, flr (by simp), trivial, mc_fit, trivial, cR_fit, trivial⟩, xf, rfl, rfl⟩
    · have hie : i + 1 = x.a.length := by omega
      refine told_f 5 2 (i + 1) 17 ((cX ys).map rel1) [0, 1] (fun b cap => (⟨22, [(5, raw (.slice (some ⟨b, 0, none⟩) (i + 1) cap))]⟩, hQ e mk jk, 2)) rfl rfl rfl (pur_cX ys) rfl (fun b cap => ⟨rfl, ⟨fv, trivial⟩, ⟨trivial, mc_fit, trivial, cR_fit, trivial⟩, xf, rfl, rfl⟩) (fun b cap X2 hcap hX2 hb hl => st mo ?_)
      rw [den_rel] at hl
      refine ⟨S.Xf.tr hX2 hp.xf, (ys, some ⟨b, 0, none⟩, cap, mk), [0, 1], ⟨fun j z hz => ⟨⟨b, 0, hb.xf hp.xf, rfl, fun q u hu => ?_⟩, (hp.ok z (List.mem_of_getElem? hz)).1.xf hX2, (hp.ok z (List.mem_of_getElem? hz)).2⟩, ?_⟩, ?_, ⟨trivial, mc_fit, trivial, cR_fit, trivial⟩, rfl, rfl⟩
      · have := hl _ u (cX_at ys j z hz q u hu)
        rw [Nat.zero_add] at this ⊢; exact this
      · rw [hp.m]; show ((x.a.take (i + 1)).map (fdE e d)) = _; rw [hie, List.take_length]
      · exact fv (by show raw (.slice (some ⟨b, 0, none⟩) (i + 1) cap) = raw (.slice (some ⟨b, 0, none⟩) ys.length cap); rw [hln])
theorem ch_three {x : Ex} {y : YA} (h : chE (bX x y) = true) : ∃ c q r, y.1 = [c, q, r] := by
  unfold chE at h
  simp only [Bool.and_eq_true] at h
  have h6 : x.k = 6 := of_decide_eq_true h.1.1
  have h := of_decide_eq_true h.1.2
  unfold whN bX at h
  dsimp only at h
  rw [if_neg (by omega), if_neg (by omega), if_neg (by omega), if_pos h6] at h
  injection h with h
  match hy : y.1, h with
  | [c, q, r], _ => exact ⟨c, q, r, rfl⟩
set_option maxRecDepth 20000 in
theorem fold_node (e : Ev) (jk : List Value) (d : Nat) (x : Ex) (mk : Bool) (hlen : x.a.length ≤ 1000000000) (hx : x.u4) (ih : ∀ y ∈ x.a, ∀ mk, FoC e jk d y mk) : FoC e jk (d + 1) x mk := fun X he hL => by
  refine fn_x (loc_FX e (d + 1) x) _ Tryz.func58 rfl rfl rfl rfl (fun w l X' hX => run_ok (su 1 mo ?_))
  refine rxi 3 (st mo ⟨YA, _, _, _, r_cx (tc := fun y => raw (.slice y.2.1 y.1.length y.2.2.1)) (loc_FA e d x) [0, 1] (fun y => [some (rdC e (mcR 4 y.2.2.2)), some (cR e y.2.2.2 jk)]) [4] rfl rfl (fold_args e jk d x mk hlen ih X' (he.xf hX) (hL.mono (xce hX))) (fitL_cons fp (fitL_cons fv rfl)) ⟨trivial, mc_fit, trivial, cR_fit, trivial⟩ (fun _ => uv) (fun _ => ⟨mc_un, cR_un, trivial⟩) (fun _ => rfl), fun y X2 hX2 hy => ?_⟩)
  obtain ⟨ys, p, cl, mk⟩ := y
  have he2 := (he.xf hX).xf hX2
  have hl2 := hy.len
  have hN := hy.ln hlen
  refine ⟨(⟨35, [(0, q0 0), (3, q0 2), (4, q0 3), (8, raw (.slice p ys.length cl))]⟩, (2, some (x.c.map rel1)) :: (3, some ([.int .i64 0, .int .i64 0, .string ⟨#[]⟩, .string ⟨#[]⟩, .int .i64 0, .bool false, .int .u64 0, .int .u64 0, .int .u64 0, .int .u64 0, .int .i64 0, .bool false, .string ⟨#[]⟩, .int .i64 0, .int .i64 0, .int .i64 0, .slice none 0 0] : List Value)) :: hQ e mk jk, 4), [0, 4, 2, 3], ⟨rfl, ⟨fp, fp, fp, fv, trivial⟩, ⟨fl rfl rfl, fl rfl rfl, trivial, mc_fit, trivial, cR_fit, trivial⟩, xf, rfl, rfl⟩, rfl, st mo ?_⟩
  have hT := hN.lt
  cases hch : chE (bX x (ys, p, cl, mk)) with
  | true =>
    refine ⟨_, fun nn => r_call (t := litT) rfl rfl Tryz.func89 (fun W M E => f_choice' hch (hT.mono E)), st mo ?_⟩
    obtain ⟨c, q, r, rfl⟩ := ch_three hch
    obtain ⟨⟨b, o, _, h4, h5⟩, _⟩ := hN.2 0 c rfl
    obtain ⟨⟨b1, o1, _, g4, g5⟩, _⟩ := hN.2 1 q rfl
    obtain ⟨⟨b2, o2, _, k4, k5⟩, _⟩ := hN.2 2 r rfl
    have hpk := hy.pick hch rfl mk
    refine ⟨b, o, 0, h4, rfl, by simp, st mo ⟨.bool c.fl, h5 11 _ rfl, st mo ⟨fun hf => st mo ?_, fun hf => st mo ?_⟩⟩⟩
    · rw [hf, if_pos rfl] at hpk
      refine ⟨b1, o1, 1, g4, rfl, by simp, st mo ⟨q.c, rfl, g5, st mo ?_⟩⟩
      exact ⟨hX2, (q, mk), [0, 1], hpk, fv, ⟨trivial, mc_fit, trivial, cR_fit, trivial⟩, rfl, rfl⟩
    · rw [hf, if_neg (by decide)] at hpk
      refine ⟨b2, o2, 2, k4, rfl, by simp, st mo ⟨r.c, rfl, k5, st mo ?_⟩⟩
      exact ⟨hX2, (r, mk), [0, 1], hpk, fv, ⟨trivial, mc_fit, trivial, cR_fit, trivial⟩, rfl, rfl⟩
  | false =>
    refine ⟨_, fun nn => r_call (t := litF) rfl rfl Tryz.func89 (fun W M E => f_choice' hch (hT.mono E)), st mo ?_⟩
    cases hfx : fxE (bX x (ys, p, cl, mk)) with
    | true =>
      refine ⟨_, fun nn => r_call (t := litT) rfl rfl Tryz.func90 (fun W M E => f_fixed' hfx (hT.mono E)), st mo ?_⟩
      obtain ⟨mk', hev⟩ := f_eval e jk (d + 1) (bX x (ys, p, cl, mk)) mk (hy.xu hx)
      refine ⟨_, fun nn => r_c (tc := (evE e (d + 1) (bX x (ys, p, cl, mk))).y) [0, 1] [some (rdC e (mcR 4 mk')), some (cR e mk' jk)] [4] rfl rfl (hev X2 he2 hT) (fitL_cons fp (fitL_cons fv rfl)) ⟨mc_fit, trivial, cR_fit, trivial⟩ uv ⟨mc_un, cR_un, trivial⟩, st mo ?_⟩
      exact ⟨hX2, (cstX (evE e (d + 1) (bX x (ys, p, cl, mk))), mk'), [0, 4], hy.cst hch hfx mk', fvd, ⟨trivial, mc_fit, trivial, cR_fit, trivial⟩, rfl, rfl⟩
    | false =>
      refine ⟨_, fun nn => r_call (t := litF) rfl rfl Tryz.func90 (fun W M E => f_fixed' hfx (hT.mono E)), st mo ?_⟩
      exact ⟨hX2, (bX x (ys, p, cl, mk), mk), [0, 1], hy.it hlen hx hch hfx mk, fv, ⟨trivial, mc_fit, trivial, cR_fit, trivial⟩, rfl, rfl⟩
theorem S.CtrX.to {Y : Type} {P : Program} {X : World} {f : FuncId} {vs : List Value} {h : HT} {n m : Nat} {t : Y → Value} {h' : Y → HT} {n' : Nat} {F G : Y → (Nat → Prop) → World → Prop} (hc : CtrX P X f vs h n m t h' n' F) (hFG : ∀ y S W, F y S W → G y S W) : CtrX P X f vs h n m t h' n' G := fun W k us a b c => (hc W k us a b c).mono fun _ _ ⟨y, u, k2, h1, h2, h3, h4⟩ => ⟨y, u, k2, h1, h2, h3, fun X2 g => hFG _ _ _ (h4 X2 g)⟩
theorem fold_t (e : Ev) (jk : List Value) : ∀ (d : Nat) (x : Ex) (mk : Bool), XU d x → nds d x ≤ 1000000000 → FoC e jk d x mk
  | 0, x, mk, hu, _ => fun X he hL => by
    have hx : x.a = [] := hL
    exact (fold_node e jk 0 x mk (by rw [hx]; decide) hu (fun y hy => by rw [hx] at hy; cases hy) X he hL.up).to fun y S W g => g.low hx
  | d + 1, x, mk, hu, hb => fold_node e jk d x mk (nds_kid hb).1 hu.1 fun y hy mk => fold_t e jk d y mk (hu.2 y hy) ((nds_kid hb).2 y hy)
/-- An environment of tables alone. -/
abbrev tbV (tp : Option Addr) (cp : Nat) (tb : List Tb) : Ev := ⟨none, none, tp, cp, [], [], tb⟩
/-- A tree in new memory that is what this one folds to. -/
def FY (e : Ev) (d : Nat) (x : Ex) (y : Ex) (S : Nat → Prop) (W : World) : Prop := LN S W d y ∧ XU d y ∧ ek d y = fdE e d x
theorem loc_FY (e : Ev) (d : Nat) (x : Ex) : Lcl (FY e d x) := ⟨fun _ _ _ _ h g => ⟨g.1.le h, g.2⟩, fun _ _ _ _ h g => ⟨g.1.lo h, g.2⟩⟩
def zX : List Value := [.int .i64 0, .int .i64 0, .string ⟨#[]⟩, .string ⟨#[]⟩, .int .i64 0, .bool false, .int .u64 0, .int .u64 0, .int .u64 0, .int .u64 0, .int .i64 0, .bool false, .string ⟨#[]⟩, .int .i64 0, .int .i64 0, .int .i64 0, .slice none 0 0]
set_option maxRecDepth 20000 in
theorem p_fold {d : Nat} {x : Ex} {tp : Option Addr} {cp : Nat} {tb : List Tb} (hu : XU d x) (hb : nds d x ≤ 1000000000) (X : World) (hL : LT X d x) (he : EvL X (tbV tp cp tb)) :
    CtrX Tryz.prog X 25 [xY x, raw (.slice tp tb.length cp)] [] 0 0 (fun y => xY y) (fun _ => []) 0 (FY (tbV tp cp tb) d x) := by
  refine fn_x (loc_FY _ d x) _ Tryz.func25 rfl rfl rfl rfl (fun w l X' hX => run_ok (su 2 mo ?_))
  refine rxi 1 (st mo ⟨Ex × Bool, _, _, _, r_cx (tc := fun z => xY z.1) (loc_FX _ d x) [2, 0] (fun z => [some (rdC (tbV tp cp tb) (mcR 3 z.2)), some (cR (tbV tp cp tb) z.2 x.c)]) [3] rfl rfl (fold_t _ x.c d x false hu hb X' (he.xf hX) (hL.mono (xce hX))) (fitL_cons fp (fitL_cons fv rfl)) ⟨trivial, fitL_cons fvd (fitL_cons fvd (fitL_cons fv (fitL_cons fv rfl))), trivial, flr rfl, trivial⟩ (fun z => uv) (fun z => ⟨mc_un, cR_un, trivial⟩) (fun z => rfl), fun z X2 hX2 hz => ?_⟩)
  refine ⟨(⟨11, [(4, q0 0), (10, xY z.1)]⟩, [(0, some zX)], 1), [1], ⟨rfl, ⟨fp, fv, trivial⟩, ⟨fl rfl rfl, trivial⟩, xf, rfl, rfl⟩, rfl, st mo ?_⟩
  exact ⟨hX2, z.1, [], hz, fv, trivial, rfl, rfl⟩
end Go.Proofs.YtfmfeipeeedfpaaGreat
namespace Go.Proofs.YtfmfeipeeedfpaaGreat
open Go.ChangeShapes Go.WideShapes Go.ChangeAt Go.RowKit
open S (Lies)
open D
section
variable {H : Type} {enc : TypeId × Value → H} {W : World} {base : Nat} {v : Value} {d : DataW H} {p : List MemPlace}
set_option maxRecDepth 100000 in
theorem open_tbs (hv : Value.okWide Tryz.prog W .any base 34 v) (h : DataW.Trod enc Tryz.prog W 0 (fun _ => true) true 34 v d p) : ∃ (tp : Option Addr) (cp : Nat) (tb : List Tb), EvL W (tbV tp cp tb) ∧ v = .slice tp tb.length cp := by
  obtain ⟨a, n, c, rfl⟩ := okWide_slice Tryz.underlying34 hv
  obtain ⟨fuel, hf⟩ := h
  have hf' : DataW.trod enc Tryz.prog W 0 (fun _ => true) true fuel 34 [.slice a n c] = some (d, p) := hf
  obtain ⟨L, pa, cap, e, hL, hS, _⟩ := cut_sl Tryz.underlying34 (n := 2) (by decide) cl_tb Tb.cells ⟨⟨#[]⟩, none, 0, []⟩ (TbL W) (fun _ => rfl) (fun _ h => cut_tb h) hf'
  exact ⟨pa, cap, L, ⟨Or.inl ⟨rfl, rfl⟩, Or.inl ⟨rfl, rfl⟩, fun q hq => (by cases hq), fun q hq => (by cases hq), fun i y hy => by
    obtain ⟨b, o, h1, _, h2⟩ := hS.2 i y hy
    exact ⟨b, o, h1, h2⟩, hL, hS.1⟩, e⟩
end
end Go.Proofs.YtfmfeipeeedfpaaGreat
namespace Go.Proofs.YtfmfeipeeedfpaaGreat
open S Go.RowKit
theorem Dp.at {d : Nat} {x y : Ex} {i : Nat} (h : Dp (d + 1) x) (hy : x.a[i]? = some y) : Dp d y := h y (List.mem_of_getElem? hy)
theorem ch_nil {x : Ex} (h : x.a = []) : chE x = false := by
  unfold chE; rw [h]; exact Bool.and_false _
theorem pk_mem {x : Ex} (h : chE x = true) : ∃ c p q, x.a = [c, p, q] ∧ pkE x = (if c.fl then p else q) ∧ isC c = true ∧ c.vk = 2 := by
  unfold chE at h
  simp only [Bool.and_eq_true] at h
  obtain ⟨⟨h6, hw⟩, hf⟩ := h
  have h6 := of_decide_eq_true h6
  have hw := of_decide_eq_true hw
  unfold whN at hw
  rw [if_neg (by omega), if_neg (by omega), if_neg (by omega), if_pos h6] at hw
  injection hw with hw
  match ha : x.a, hw with
  | [c, p, q], _ =>
    rw [ha] at hf
    simp only [fsC, Bool.and_eq_true] at hf
    exact ⟨c, p, q, rfl, by unfold pkE; rw [ha], hf.1, of_decide_eq_true hf.2⟩
/-- What is no constant yet is none. -/
theorem it_c {b : Ex} (hf : fxE b = false) : isC b = false := by
  cases h : isC b with
  | false => rfl
  | true =>
    unfold isC at h
    simp only [Bool.and_eq_true] at h
    have hk := of_decide_eq_true h.1
    have ha : b.a = [] := by simpa using h.2
    unfold fxE whl whN at hf
    rw [ha, hk] at hf
    exact absurd hf (by decide)
theorem fd_dx (e : Ev) {X : World} (he : EvL X e) : ∀ {d : Nat} {x : Ex}, Dp d x → XU d x → Dp d (fdE e d x) ∧ XU d (fdE e d x) ∧ (isC (fdE e d x) = true → ∃ v, v.fit ∧ fdE e d x = cstX v)
  | 0, x, hd, hu => by
    have ha : (kd (fun y => y) x).a = [] := by unfold kd; simp [show x.a = [] from hd]
    have hB : XU 0 (kd (fun y => y) x) := hu
    show Dp 0 (fnE e 0 (kd (fun y => y) x)) ∧ XU 0 (fnE e 0 (kd (fun y => y) x)) ∧ (isC (fnE e 0 (kd (fun y => y) x)) = true → ∃ v, v.fit ∧ fnE e 0 (kd (fun y => y) x) = cstX v)
    unfold fnE
    rw [ch_nil ha]
    cases hf : fxE (kd (fun y => y) x) with
    | true => exact ⟨rfl, cst_xu _ _, fun _ => ⟨_, fit_ev he hB, rfl⟩⟩
    | false => exact ⟨ha, hB, fun hc => by rw [if_neg (by decide), if_neg (by decide), it_c hf] at hc; cases hc⟩
  | d + 1, x, hd, hu => by
    have kids : ∀ y ∈ (kd (fdE e d) x).a, Dp d y ∧ XU d y ∧ (isC y = true → ∃ v, v.fit ∧ y = cstX v) := fun y hy => by
      have hy : y ∈ x.a.map (fdE e d) := hy
      obtain ⟨z, hz, rfl⟩ := List.mem_map.1 hy
      exact fd_dx e he (hd z hz) (hu.2 z hz)
    have hB : XU (d + 1) (kd (fdE e d) x) := ⟨hu.1, fun y hy => (kids y hy).2.1⟩
    have hDB : Dp (d + 1) (kd (fdE e d) x) := fun y hy => (kids y hy).1
    show Dp (d + 1) (fnE e (d + 1) (kd (fdE e d) x)) ∧ XU (d + 1) (fnE e (d + 1) (kd (fdE e d) x)) ∧ (isC (fnE e (d + 1) (kd (fdE e d) x)) = true → ∃ v, v.fit ∧ fnE e (d + 1) (kd (fdE e d) x) = cstX v)
    unfold fnE
    cases hc : chE (kd (fdE e d) x) with
    | true =>
      obtain ⟨c, p, q, ha, hp, _, _⟩ := pk_mem hc
      simp only [if_true]
      rw [hp]
      have key : ∀ y ∈ (kd (fdE e d) x).a, Dp (d + 1) y ∧ XU (d + 1) y ∧ (isC y = true → ∃ v, v.fit ∧ y = cstX v) := fun y hy => ⟨(kids y hy).1.up, XU.up (kids y hy).1 (kids y hy).2.1, (kids y hy).2.2⟩
      cases c.fl with
      | true => exact key p (by rw [ha]; simp)
      | false => exact key q (by rw [ha]; simp)
    | false =>
      cases hf : fxE (kd (fdE e d) x) with
      | true => exact ⟨fun y hy => (by cases hy), cst_xu _ _, fun _ => ⟨_, fit_ev he hB, rfl⟩⟩
      | false => exact ⟨hDB, hB, fun hc => by rw [if_neg (by decide), if_neg (by decide), it_c hf] at hc; cases hc⟩
theorem cst_val {v : VL} (h : v.ok) : (cstX v).val = v := by
  unfold Ex.val cstX; dsimp only; rw [vl_lb v.n h.1 h.2]
theorem may_fit {v : VL} (h : v.fit) : mayV v = v := by unfold mayV; rw [h.2]; rfl
/-- A constant comes to its value. -/
theorem cst_ev (e : Ev) {v : VL} (h : v.fit) : ∀ d, evE e d (cstX v) = v := by
  have key : ∀ a, nodE e (cstX v) a = v := fun a => by
    unfold nodE
    rw [if_pos (show (cstX v).k = 1 from rfl), cst_val h.1, may_fit h]
  intro d; cases d with
  | zero => exact key fun _ => vBl
  | succ d => exact key fun j => (((cstX v).a[j]?).map (evE e d)).getD vBl
theorem ask_fl {v : VL} (h : v.fit) (hk : v.k = 2) : askK 2 v = 0 := by
  unfold askK ask; rw [h.2, hk]; rfl
theorem ev_three (e : Ev) {d : Nat} {x c p q : Ex} (ha : x.a = [c, p, q]) (h6 : x.k = 6) : evE e (d + 1) x = ifV (evE e d c) (evE e d p) (evE e d q) := by
  have hw : whl x = true := by unfold whl whN; rw [ha, h6]; rfl
  rw [evE, hw, if_pos rfl, ha]
  unfold nodE
  rw [if_neg (by omega), if_neg (by omega), if_neg (by omega), if_neg (by omega), if_neg (by omega), if_pos h6]
  rfl
theorem ch_k {x : Ex} (h : chE x = true) : x.k = 6 := by
  unfold chE at h; simp only [Bool.and_eq_true] at h; exact of_decide_eq_true h.1.1
/-- An if of which all is known: it is all one which of the two is asked first. -/
theorem both_t (e : Ev) {X : World} (he : EvL X e) {d : Nat} {x : Ex} (hd : Dp (d + 1) x) (hu : XU (d + 1) x) (hc : chE (kd (fdE e d) x) = true) (hf : fxE (kd (fdE e d) x) = true) : pkE (kd (fdE e d) x) = cstX (evE e (d + 1) (kd (fdE e d) x)) := by
  obtain ⟨c, p, q, ha, hp, hcc, hck⟩ := pk_mem hc
  have kids : ∀ y ∈ (kd (fdE e d) x).a, isC y = true → ∃ v, v.fit ∧ y = cstX v := fun y hy => by
    have hy : y ∈ x.a.map (fdE e d) := hy
    obtain ⟨z, hz, rfl⟩ := List.mem_map.1 hy
    exact (fd_dx e he (hd z hz) (hu.2 z hz)).2.2
  have hall : ∀ y ∈ (kd (fdE e d) x).a, isC y = true := by
    unfold fxE at hf
    simp only [Bool.and_eq_true] at hf
    exact List.all_eq_true.1 hf.2
  have k3 : ∀ y ∈ [c, p, q], ∃ v, v.fit ∧ y = cstX v := fun y hy => by rw [← ha] at hy; exact kids y hy (hall y hy)
  obtain ⟨v0, f0, rfl⟩ := k3 c (by simp)
  obtain ⟨v1, f1, rfl⟩ := k3 p (by simp)
  obtain ⟨v2, f2, rfl⟩ := k3 q (by simp)
  rw [hp, ev_three e ha (ch_k hc), cst_ev e f0, cst_ev e f1, cst_ev e f2]
  have hk : v0.k = 2 := hck
  unfold ifV
  rw [if_pos (ask_fl f0 hk)]
  show (if v0.f then cstX v1 else cstX v2) = _
  cases v0.f with
  | true => simp only [if_true]; rw [may_fit f1]
  | false => simp only [Bool.false_eq_true, if_false]; rw [may_fit f2]
end Go.Proofs.YtfmfeipeeedfpaaGreat
namespace Go.Proofs.YtfmfeipeeedfpaaGreat
open Go.RowKit
theorem pow_lt (k : Nat) (h : k ≤ 77) : (0 : Int) < 10 ^ k ∧ (10 : Int) ^ k < MM := by
  refine ⟨Int.pow_pos (by decide), ?_⟩
  have h1 : (10 : Nat) ^ k ≤ 10 ^ 77 := Nat.pow_le_pow_right (by decide) h
  have h2 : (10 : Nat) ^ 77 < 115792089237316195423570985008687907853269984665640564039457584007913129639936 := by decide
  have h3 : ((10 ^ k : Nat) : Int) = (10 : Int) ^ k := by rw [Int.natCast_pow]; rfl
  rw [← h3]
  unfold MM
  omega
set_option maxHeartbeats 4000000 in
theorem rten_yes (n : Nat) (w : World) (h7 : n ≤ 77) :
    Calls Tryz.prog 148 #[.int .i64 n] w fun e w' => e = .returned (.tuple #[nv (10 ^ n), .bool true]) ∧ Mo w w' := by
  have hn : ¬ ((n : Int) < 0) := by omega
  have hn7 : ¬ (77 < (n : Int)) := by omega
  go_enter Tryz.func148, Tryz.ntmps148
  go_wp2_with fail
  refine (from34_any 1 _ ⟨by decide, by decide⟩).mono ?_
  rintro e w1 ⟨rfl, hm⟩
  have hz := hm.size
  simp only [World.size_alloc] at hz
  have hA : At4 w1 w.heap.size 0 0 0 0 := At4.mo (by simp [At4, go_sem]) hm (by simp)
  have hF : Fz w1 w.heap.size := Fz.mo (fun o => by simp [go_sem]) hm
  have hM : Mo w w1 := ((Mo.refl _).alloc _ _).trans hm
  have hS : TT w (w1.alloc (.cells #[.int .u64 (l0 1), .int .u64 (l1 1), .int .u64 (l2 1), .int .u64 (l3 1)] 24)) w1.heap.size 1 := by
    have z : w.heap.size < w1.heap.size := by omega
    exact ⟨hM.alloc _ _, z, by simp, hA.mo ((Mo.refl _).alloc _ _) z, hF.mo ((Mo.refl _).alloc _ _), by simp [At4, go_sem], fun o => by simp [go_sem]⟩
  have HS : Hid _ := hS
  clear hS hA hF
  go_wp2
  go_loopw [5] (fun i wr => ∃ k : Nat, k ≤ n ∧ i = .int .i64 k ∧ TT w wr w1.heap.size (10 ^ k)) (fun i _ => n - (intOf i).toNat)
  case atStart => exact ⟨0, Nat.zero_le _, rfl, HS.out⟩
  case round =>
    obtain ⟨k, hk, rfl, ht⟩ := hrel
    by_cases hlt : k < n
    · have pk := pow_lt k (by omega)
      have hstep : Hid (10 ^ k * 10 = (10 : Int) ^ (k + 1)) := (Int.pow_succ 10 k).symm
      obtain ⟨P, hP⟩ : ∃ P : Int, P = 10 ^ k := ⟨_, rfl⟩
      rw [← hP] at ht pk hstep
      have HP : Hid _ := hP
      clear hP
      have dk : decide ((k : Int) < (n : Int)) = true := decide_eq_true (by omega)
      go_upto_region 7 with fail
      have ht0 := ht
      obtain ⟨g1, g2, g3, ⟨c0, c1, c2, c3⟩, g5, ⟨b0, b1, b2, b3⟩, g7⟩ := ht0
      clear g5 g7
      go_region_with
        (first | (go_at_call 99; refine (from34_any 10 _ ⟨by decide, by decide⟩).mono ?_; rintro e w5 ⟨rfl, hm5⟩; have m5 : Mo wr w5 := Mo.trans (by repeat (first | with_reducible exact Mo.refl _ | with_reducible apply Mo.drew | with_reducible apply Mo.alloc)) hm5; obtain ⟨_, _, _, _, _, ⟨x0, x1, x2, x3⟩, _⟩ := ht.mo m5) | (go_at_call 155; refine (rmul_n P 10 _ (by omega) pk.2 (by decide) (by decide)).mono ?_; rintro e w6 ⟨rfl, hm6⟩; have m6 : Mo w5 w6 := Mo.trans (by repeat (first | with_reducible exact Mo.refl _ | with_reducible apply Mo.drew | with_reducible apply Mo.alloc)) hm6; have m7 := m5.trans m6; obtain ⟨_, _, zs, _, _, ⟨z0, z1, z2, z3⟩, zf⟩ := ht.mo m7; have zf := fun o => zf o))
      all_goals
        go_wp2
        go_roundw
        case rel =>
          refine ⟨k + 1, by omega, by go_num, ?_⟩
          rw [← hstep.out]
          exact (ht.mo m7).put
        case measure => simp [intOf]; omega
    · have hkn : k = n := by omega
      subst hkn
      obtain ⟨g1, g2, g3, ⟨c0, c1, c2, c3⟩, g5, ⟨b0, b1, b2, b3⟩, g7⟩ := ht
      have g5 := fun o => g5 o
      go_wp2
      refine bodyPost_ret (v := .tuple #[nv (10 ^ k), .bool true]) (by simp [results, Tryz.results148, go_sem, c0, c1, c2, c3]) rfl ?_
      refine ⟨rfl, ?_⟩
      exact (((g1.setCell (Nat.le_refl _) _).setCell (Nat.le_refl _) _).setCell (Nat.le_refl _) _).setCell (Nat.le_refl _) _
theorem low_limb (q : Int) (m r : Nat) (hr : r < 64) (_hq : 0 ≤ q) :
    ∃ c : Int, 0 ≤ c ∧ q * 2 ^ (m + r + 1) / 2 ^ m % 18446744073709551616 = c * 2 ^ (r + 1) ∧ c * 2 ^ (r + 1) + 2 ^ r < 18446744073709551616 := by
  have hm : (0 : Int) < 2 ^ m := Int.pow_pos (by decide)
  have hp : (0 : Int) < 2 ^ (r + 1) := Int.pow_pos (by decide)
  have hp0 : (0 : Int) < 2 ^ r := Int.pow_pos (by decide)
  have hp2 : (0 : Int) < 2 ^ (63 - r) := Int.pow_pos (by decide)
  have e1 : q * 2 ^ (m + r + 1) / 2 ^ m = 2 ^ (r + 1) * q := by
    rw [Nat.add_assoc, Int.pow_add, Int.mul_left_comm, Int.mul_ediv_cancel_left _ (by omega), Int.mul_comm]
  have e2 : (18446744073709551616 : Int) = 2 ^ (r + 1) * 2 ^ (63 - r) := by
    rw [← Int.pow_add, show r + 1 + (63 - r) = 64 from by omega]; decide
  have a := Int.emod_nonneg q (show (2 : Int) ^ (63 - r) ≠ 0 by omega)
  have b := Int.emod_lt_of_pos q hp2
  refine ⟨q % 2 ^ (63 - r), a, ?_, ?_⟩
  · rw [e1, e2, Int.mul_emod_mul_of_pos _ _ hp, Int.mul_comm]
  · have e3 : q % 2 ^ (63 - r) * 2 ^ (r + 1) ≤ (2 ^ (63 - r) - 1) * 2 ^ (r + 1) := Int.mul_le_mul_of_nonneg_right (by omega) (by omega)
    rw [Int.sub_mul, Int.one_mul, Int.mul_comm (2 ^ (63 - r)), ← e2] at e3
    have e4 : (2 : Int) ^ (r + 1) = 2 ^ r * 2 := Int.pow_succ 2 r
    omega
theorem or_bit {x : Int} {r : Nat} (c : Int) (hc : 0 ≤ c) (h : x = c * 2 ^ (r + 1)) (h2 : c * 2 ^ (r + 1) + 2 ^ r < 18446744073709551616) : bits .or .u64 x (2 ^ r) = x + 2 ^ r := by
  have hp0 : (0 : Int) < 2 ^ r := Int.pow_pos (by decide)
  have e4 : (2 : Int) ^ (r + 1) = 2 ^ r * 2 := Int.pow_succ 2 r
  rw [h]
  exact or_join c (2 ^ r) (r + 1) hc (by omega) (by omega) h2
theorem Qlt {q : Int} {i : Nat} (hi : i < 256) (hq : q < 2 ^ (255 - i)) : q * 2 ^ (i + 1) < MM ∧ q * 2 ^ (i + 1) + 2 ^ i < MM := by
  have hp0 : (0 : Int) < 2 ^ i := Int.pow_pos (by decide)
  have e4 : (2 : Int) ^ (i + 1) = 2 ^ i * 2 := Int.pow_succ 2 i
  have e1 : q * 2 ^ (i + 1) ≤ (2 ^ (255 - i) - 1) * 2 ^ (i + 1) := Int.mul_le_mul_of_nonneg_right (by omega) (by omega)
  rw [Int.sub_mul, Int.one_mul, ← Int.pow_add, show 255 - i + (i + 1) = 256 from by omega, show (2 : Int) ^ 256 = MM from by decide] at e1
  omega
theorem bit_set {q : Int} {i : Nat} (hi : i < 256) (hq0 : 0 ≤ q) (hq : q < 2 ^ (255 - i)) (r : Nat) (hr : r = i % 64) :
    (i / 64 = 0 ∧ bits .or .u64 (l0 (q * 2 ^ (i + 1))) (2 ^ r) = l0 (q * 2 ^ (i + 1) + 2 ^ i) ∧ l1 (q * 2 ^ (i + 1) + 2 ^ i) = l1 (q * 2 ^ (i + 1)) ∧ l2 (q * 2 ^ (i + 1) + 2 ^ i) = l2 (q * 2 ^ (i + 1)) ∧ l3 (q * 2 ^ (i + 1) + 2 ^ i) = l3 (q * 2 ^ (i + 1))) ∨
    (i / 64 = 1 ∧ bits .or .u64 (l1 (q * 2 ^ (i + 1))) (2 ^ r) = l1 (q * 2 ^ (i + 1) + 2 ^ i) ∧ l0 (q * 2 ^ (i + 1) + 2 ^ i) = l0 (q * 2 ^ (i + 1)) ∧ l2 (q * 2 ^ (i + 1) + 2 ^ i) = l2 (q * 2 ^ (i + 1)) ∧ l3 (q * 2 ^ (i + 1) + 2 ^ i) = l3 (q * 2 ^ (i + 1))) ∨
    (i / 64 = 2 ∧ bits .or .u64 (l2 (q * 2 ^ (i + 1))) (2 ^ r) = l2 (q * 2 ^ (i + 1) + 2 ^ i) ∧ l0 (q * 2 ^ (i + 1) + 2 ^ i) = l0 (q * 2 ^ (i + 1)) ∧ l1 (q * 2 ^ (i + 1) + 2 ^ i) = l1 (q * 2 ^ (i + 1)) ∧ l3 (q * 2 ^ (i + 1) + 2 ^ i) = l3 (q * 2 ^ (i + 1))) ∨
    (i / 64 = 3 ∧ bits .or .u64 (l3 (q * 2 ^ (i + 1))) (2 ^ r) = l3 (q * 2 ^ (i + 1) + 2 ^ i) ∧ l0 (q * 2 ^ (i + 1) + 2 ^ i) = l0 (q * 2 ^ (i + 1)) ∧ l1 (q * 2 ^ (i + 1) + 2 ^ i) = l1 (q * 2 ^ (i + 1)) ∧ l2 (q * 2 ^ (i + 1) + 2 ^ i) = l2 (q * 2 ^ (i + 1))) := by
  have hQ := (Qlt hi hq).1
  have hp : (0 : Int) < 2 ^ (i + 1) := Int.pow_pos (by decide)
  have hQ0 : 0 ≤ q * 2 ^ (i + 1) := Int.mul_nonneg hq0 (by omega)
  have hV := vl_lb _ hQ0 hQ
  obtain ⟨u0, u1, u2, u3⟩ := u4_lb (q * 2 ^ (i + 1))
  have hr64 : r < 64 := by omega
  have hp0 : (0 : Int) < 2 ^ r := Int.pow_pos (by decide)
  have hm : i / 64 = 0 ∨ i / 64 = 1 ∨ i / 64 = 2 ∨ i / 64 = 3 := by omega
  rcases hm with hm | hm | hm | hm
  · refine Or.inl ⟨hm, ?_⟩
    obtain ⟨c, c0, c1, c2⟩ := low_limb q 0 r hr64 hq0
    have e : i = 0 + r := by omega
    have el : l0 (q * 2 ^ (i + 1)) = c * 2 ^ (r + 1) := by rw [← c1, e]; unfold l0; simp
    have ep : (2 : Int) ^ i = 2 ^ r := by rw [e]; simp
    rw [or_bit c c0 el c2]
    have hu : U4 (l0 (q * 2 ^ (i + 1)) + 2 ^ r) (l1 (q * 2 ^ (i + 1))) (l2 (q * 2 ^ (i + 1))) (l3 (q * 2 ^ (i + 1))) := ⟨⟨by have := u0.1; omega, by omega⟩, u1, u2, u3⟩
    have ev : q * 2 ^ (i + 1) + 2 ^ i = vl (l0 (q * 2 ^ (i + 1)) + 2 ^ r) (l1 (q * 2 ^ (i + 1))) (l2 (q * 2 ^ (i + 1))) (l3 (q * 2 ^ (i + 1))) := by
      rw [ep]; unfold vl at *; omega
    rw [ev, l0_vl hu, l1_vl hu, l2_vl hu, l3_vl hu]
    exact ⟨rfl, rfl, rfl, rfl⟩
  · refine Or.inr (Or.inl ⟨hm, ?_⟩)
    obtain ⟨c, c0, c1, c2⟩ := low_limb q 64 r hr64 hq0
    have e : i = 64 + r := by omega
    have el : l1 (q * 2 ^ (i + 1)) = c * 2 ^ (r + 1) := by rw [← c1, e]; unfold l1; rfl
    have ep : (2 : Int) ^ i = 18446744073709551616 * 2 ^ r := by rw [e, Int.pow_add]; rfl
    rw [or_bit c c0 el c2]
    have hu : U4 (l0 (q * 2 ^ (i + 1))) (l1 (q * 2 ^ (i + 1)) + 2 ^ r) (l2 (q * 2 ^ (i + 1))) (l3 (q * 2 ^ (i + 1))) := ⟨u0, ⟨by have := u1.1; omega, by omega⟩, u2, u3⟩
    have ev : q * 2 ^ (i + 1) + 2 ^ i = vl (l0 (q * 2 ^ (i + 1))) (l1 (q * 2 ^ (i + 1)) + 2 ^ r) (l2 (q * 2 ^ (i + 1))) (l3 (q * 2 ^ (i + 1))) := by
      rw [ep]; unfold vl at *; omega
    rw [ev, l0_vl hu, l1_vl hu, l2_vl hu, l3_vl hu]
    exact ⟨rfl, rfl, rfl, rfl⟩
  · refine Or.inr (Or.inr (Or.inl ⟨hm, ?_⟩))
    obtain ⟨c, c0, c1, c2⟩ := low_limb q 128 r hr64 hq0
    have e : i = 128 + r := by omega
    have el : l2 (q * 2 ^ (i + 1)) = c * 2 ^ (r + 1) := by rw [← c1, e]; unfold l2; rfl
    have ep : (2 : Int) ^ i = 340282366920938463463374607431768211456 * 2 ^ r := by rw [e, Int.pow_add]; rfl
    rw [or_bit c c0 el c2]
    have hu : U4 (l0 (q * 2 ^ (i + 1))) (l1 (q * 2 ^ (i + 1))) (l2 (q * 2 ^ (i + 1)) + 2 ^ r) (l3 (q * 2 ^ (i + 1))) := ⟨u0, u1, ⟨by have := u2.1; omega, by omega⟩, u3⟩
    have ev : q * 2 ^ (i + 1) + 2 ^ i = vl (l0 (q * 2 ^ (i + 1))) (l1 (q * 2 ^ (i + 1))) (l2 (q * 2 ^ (i + 1)) + 2 ^ r) (l3 (q * 2 ^ (i + 1))) := by
      rw [ep]; unfold vl at *; omega
    rw [ev, l0_vl hu, l1_vl hu, l2_vl hu, l3_vl hu]
    exact ⟨rfl, rfl, rfl, rfl⟩
  · refine Or.inr (Or.inr (Or.inr ⟨hm, ?_⟩))
    obtain ⟨c, c0, c1, c2⟩ := low_limb q 192 r hr64 hq0
    have e : i = 192 + r := by omega
    have el : l3 (q * 2 ^ (i + 1)) = c * 2 ^ (r + 1) := by rw [← c1, e]; unfold l3; rfl
    have ep : (2 : Int) ^ i = 6277101735386680763835789423207666416102355444464034512896 * 2 ^ r := by rw [e, Int.pow_add]; rfl
    rw [or_bit c c0 el c2]
    have hu : U4 (l0 (q * 2 ^ (i + 1))) (l1 (q * 2 ^ (i + 1))) (l2 (q * 2 ^ (i + 1))) (l3 (q * 2 ^ (i + 1)) + 2 ^ r) := ⟨u0, u1, u2, ⟨by have := u3.1; omega, by omega⟩⟩
    have ev : q * 2 ^ (i + 1) + 2 ^ i = vl (l0 (q * 2 ^ (i + 1))) (l1 (q * 2 ^ (i + 1))) (l2 (q * 2 ^ (i + 1))) (l3 (q * 2 ^ (i + 1)) + 2 ^ r) := by
      rw [ep]; unfold vl at *; omega
    rw [ev, l0_vl hu, l1_vl hu, l2_vl hu, l3_vl hu]
    exact ⟨rfl, rfl, rfl, rfl⟩
/-- What is divided, down to the bit j. -/
def nj (H L : Int) (j : Nat) : Int := H * 2 ^ (256 - j) + L / 2 ^ j
theorem nj_top (H : Int) {L : Int} (h0 : 0 ≤ L) (h : L < MM) : nj H L 256 = H := by
  unfold nj
  rw [show (2 : Int) ^ 256 = MM from by decide, Int.ediv_eq_zero_of_lt h0 h]
  simp
theorem nj_low (H L : Int) : nj H L 0 = H * MM + L := by
  unfold nj
  rw [show (256 - 0 : Nat) = 256 from rfl, show (2 : Int) ^ 256 = MM from by decide]
  simp
theorem nj_step (H L : Int) {i : Nat} (hi : i < 256) : nj H L i = 2 * nj H L (i + 1) + L / 2 ^ i % 2 := by
  unfold nj
  have e1 : (2 : Int) ^ (256 - i) = 2 ^ (256 - (i + 1)) * 2 := by rw [← Int.pow_succ]; congr 1; omega
  have e2 : L / 2 ^ (i + 1) = L / 2 ^ i / 2 := by
    rw [Int.pow_succ, Int.ediv_ediv_of_nonneg (Int.le_of_lt (Int.pow_pos (by decide)))]
  rw [e1, e2, ← Int.mul_assoc]
  omega
theorem div_no_step {q R D H L : Int} {i : Nat} (hi : i < 256) (h : q * D + R = nj H L (i + 1)) : 2 * q * D + (2 * R + L / 2 ^ i % 2) = nj H L i := by
  rw [nj_step H L hi, ← h, Int.mul_assoc]; omega
theorem div_yes_step {q R D H L : Int} {i : Nat} (hi : i < 256) (h : q * D + R = nj H L (i + 1)) : (2 * q + 1) * D + (2 * R + L / 2 ^ i % 2 - D) = nj H L i := by
  rw [nj_step H L hi, ← h, Int.add_mul, Int.mul_assoc]; omega
theorem q_no {q : Int} {i : Nat} (hi : i < 256) (hq : q < 2 ^ (255 - i)) : 2 * q < 2 ^ (256 - i) ∧ 2 * q + 1 < 2 ^ (256 - i) := by
  have e1 : (2 : Int) ^ (256 - i) = 2 ^ (255 - i) * 2 := by rw [← Int.pow_succ]; congr 1; omega
  omega
theorem div_end {q R D H L : Int} (hR0 : 0 ≤ R) (hR : R < D) (h : q * D + R = H * MM + L) : (H * MM + L) / D = q ∧ (H * MM + L) % D = R := by
  rw [← h]
  constructor
  · rw [Int.add_comm, Int.add_mul_ediv_right _ _ (by omega), Int.ediv_eq_zero_of_lt hR0 hR, Int.zero_add]
  · rw [Int.add_comm, Int.add_mul_emod_self_right, Int.emod_eq_of_lt hR0 hR]
theorem q_pow (q : Int) (i : Nat) : 2 * q * 2 ^ i = q * 2 ^ (i + 1) := by rw [Int.pow_succ]; grind
theorem q_pow1 (q : Int) (i : Nat) : (2 * q + 1) * 2 ^ i = q * 2 ^ (i + 1) + 2 ^ i := by rw [Int.pow_succ]; grind
theorem and_one (a : Int) (h0 : 0 ≤ a) (h1 : a < 18446744073709551616) : bits .and .u64 a 1 = a % 2 := by
  obtain ⟨x, rfl⟩ := Int.eq_ofNat_of_zero_le h0
  have e := bits_and_u64_nat x 1 (by omega) (by decide)
  rw [Nat.and_one_is_mod] at e
  rw [show ((1 : Nat) : Int) = 1 from rfl] at e
  rw [e]; omega
theorem sh_bd {a : Int} (h : U1 a) (r : Nat) : 0 ≤ a / 2 ^ r ∧ a / 2 ^ r < 18446744073709551616 := by
  obtain ⟨p, q⟩ := h
  have hp : (0 : Int) < 2 ^ r := Int.pow_pos (by decide)
  refine ⟨Int.ediv_nonneg p (by omega), ?_⟩
  have := Int.ediv_le_self (2 ^ r) p
  omega
set_option maxHeartbeats 1000000 in
theorem bit_any (n : Int) (i : Nat) (w : World) (_hn0 : 0 ≤ n) (_hn : n < MM) (hi : i < 256) :
    Calls Tryz.prog 181 #[nv n, .int .i64 (i : Int)] w fun e w' => e = .returned (.int .u64 (n / 2 ^ i % 2)) ∧ Mo w w' := by
  have fin : ∀ (r : Int) (w' : World), r = n / 2 ^ i % 2 → Mo w w' → (Ending.returned (.int .u64 r) = .returned (.int .u64 (n / 2 ^ i % 2)) ∧ Mo w w') := fun r w' h m => ⟨by rw [h], m⟩
  obtain ⟨r, hr, er⟩ : ∃ r : Nat, r < 64 ∧ (i : Int) % 64 = (r : Int) := ⟨i % 64, by omega, by omega⟩
  have u := u4_lb n
  obtain ⟨u0, u1, u2, u3⟩ := u
  have s0 := sh_bd u0 r
  have s1 := sh_bd u1 r
  have s2 := sh_bd u2 r
  have s3 := sh_bd u3 r
  have t0 := and_one _ s0.1 s0.2
  have t1 := and_one _ s1.1 s1.2
  have t2 := and_one _ s2.1 s2.2
  have t3 := and_one _ s3.1 s3.2
  clear s0 s1 s2 s3
  obtain ⟨p0, q0⟩ := u0
  obtain ⟨p1, q1⟩ := u1
  obtain ⟨p2, q2⟩ := u2
  obtain ⟨p3, q3⟩ := u3
  have hq : (i : Int) / 64 = 0 ∨ (i : Int) / 64 = 1 ∨ (i : Int) / 64 = 2 ∨ (i : Int) / 64 = 3 := by omega
  rcases hq with hq | hq | hq | hq
  · go_enter Tryz.func181, Tryz.ntmps181
    go_wp2
    go_ret
    refine fin _ _ ?_ ((Mo.refl _).alloc _ _)
    rw [show i = r from by omega, ← bit_low (l0 n) (n / 18446744073709551616) r hr, show l0 n + 18446744073709551616 * (n / 18446744073709551616) = n from by unfold l0; omega]
  · go_enter Tryz.func181, Tryz.ntmps181
    go_wp2
    go_ret
    refine fin _ _ ?_ ((Mo.refl _).alloc _ _)
    rw [show i = 64 + r from by omega, div_pow_split, ← bit_low (l1 n) (n / 340282366920938463463374607431768211456) r hr, show l1 n + 18446744073709551616 * (n / 340282366920938463463374607431768211456) = n / 2 ^ 64 from by unfold l1; omega]
  · go_enter Tryz.func181, Tryz.ntmps181
    go_wp2
    go_ret
    refine fin _ _ ?_ ((Mo.refl _).alloc _ _)
    rw [show i = 128 + r from by omega, div_pow_split, ← bit_low (l2 n) (n / 6277101735386680763835789423207666416102355444464034512896) r hr, show l2 n + 18446744073709551616 * (n / 6277101735386680763835789423207666416102355444464034512896) = n / 2 ^ 128 from by unfold l2; omega]
  · go_enter Tryz.func181, Tryz.ntmps181
    go_wp2
    go_ret
    refine fin _ _ ?_ ((Mo.refl _).alloc _ _)
    rw [show i = 192 + r from by omega, div_pow_split, ← bit_low (l3 n) (n / MM) r hr, show l3 n + 18446744073709551616 * (n / MM) = n / 2 ^ 192 from by unfold l3 MM; omega]
/-- The blocks of the call: what is divided, the divisor, the results; the rest and the quotient so far. -/
def QW (w wx : World) (k : Nat) (H L D R Q : Int) : Prop := Mo w wx ∧ AtN wx w.heap.size H ∧ AtN wx (w.heap.size + 1) L ∧ AtN wx (w.heap.size + 1 + 1) D ∧ AtN wx (w.heap.size + 1 + 1 + 1) 0 ∧ AtN wx (w.heap.size + 1 + 1 + 1 + 1) 0 ∧ AtN wx k R ∧ AtN wx (k + 1) Q ∧ w.heap.size + 1 + 1 + 1 + 1 < k
theorem QW.mo {w wx w1 : World} {k : Nat} {H L D R Q : Int} (v : QW w wx k H L D R Q) (m : Mo wx w1) : QW w w1 k H L D R Q := by
  obtain ⟨h1, h2, h3, h4, h5, h6, h7, h8, h9⟩ := v
  exact ⟨h1.trans m, h2.mo m, h3.mo m, h4.mo m, h5.mo m, h6.mo m, h7.mo m, h8.mo m, h9⟩
theorem QW.other {w wx : World} {k : Nat} {H L D R Q : Int} (v : QW w wx k H L D R Q) {j : Nat} (hj : k + 1 < j) (o : Nat) (x : Value) : QW w (wx.setCell ⟨j, o, none⟩ x) k H L D R Q := by
  obtain ⟨h1, h2, h3, h4, h5, h6, h7, h8, h9⟩ := v
  exact ⟨h1.setCell (by show w.heap.size ≤ j; omega) _, h2.set1 (by omega) _ _, h3.set1 (by omega) _ _, h4.set1 (by omega) _ _, h5.set1 (by omega) _ _, h6.set1 (by omega) _ _, h7.set1 (by omega) _ _, h8.set1 (by omega) _ _, h9⟩
theorem QW.rest {w wx : World} {k : Nat} {H L D R Q : Int} (v : QW w wx k H L D R Q) (z : Int) : QW w (st4 wx k z) k H L D z Q := by
  obtain ⟨h1, h2, h3, h4, h5, h6, h7, h8, h9⟩ := v
  exact ⟨h1.st4 (by omega) _, h2.other (by omega) _, h3.other (by omega) _, h4.other (by omega) _, h5.other (by omega) _, h6.other (by omega) _, h7.same _, h8.other (by omega) _, h9⟩
theorem QW.quo {w wx : World} {k : Nat} {H L D R Q : Int} (v : QW w wx k H L D R Q) {o : Nat} {x : Value} {Z : Int} (h : At4 (wx.setCell ⟨k + 1, o, none⟩ x) (k + 1) (l0 Z) (l1 Z) (l2 Z) (l3 Z)) : QW w (wx.setCell ⟨k + 1, o, none⟩ x) k H L D R Z := by
  obtain ⟨h1, h2, h3, h4, h5, h6, h7, ⟨_, f, s⟩, h9⟩ := v
  exact ⟨h1.setCell (by show w.heap.size ≤ k + 1; omega) _, h2.set1 (by omega) _ _, h3.set1 (by omega) _ _, h4.set1 (by omega) _ _, h5.set1 (by omega) _ _, h6.set1 (by omega) _ _, h7.set1 (by omega) _ _, ⟨h, fun o => by simp [World.frozen?_setCell, f o], by simpa [World.setCell] using s⟩, h9⟩
theorem even_or {x b : Int} (hx : 0 ≤ x) (hx2 : x < 18446744073709551616) (he : x % 2 = 0) (hb : b = 0 ∨ b = 1) : bits .or .u64 x b = x + b := by
  have := or_join (x / 2) b 1 (by omega) (by omega) (by simp; omega) (by simp; omega)
  simp at this
  rw [show x / 2 * 2 = x from by omega] at this
  exact this

set_option maxHeartbeats 4000000 in
theorem rdiv_no (H L D : Int) (w : World) (hH0 : 0 ≤ H) (hHM : H < MM) (hD0 : 0 ≤ D) (hDM : D < MM) (h : D ≤ H) :
    Calls Tryz.prog 149 #[nv H, nv L, nv D] w fun e w' => e = .returned (.tuple #[nv 0, nv 0, .bool false]) ∧ Mo w w' := by
  have z0 : nv 0 = .agg #[.int .u64 0, .int .u64 0, .int .u64 0, .int .u64 0] := by simp [nv, l0, l1, l2, l3]
  have hc : decide (cm H D ≥ 0) = true := decide_eq_true (by unfold cm; rw [if_neg (by omega)]; split <;> decide)
  rw [z0]
  go_enter Tryz.func149, Tryz.ntmps149
  go_wp2_with fail
  refine (rcmp_n H D _ hH0 hHM hD0 hDM).mono ?_
  rintro e w1 ⟨rfl, hm1⟩
  have M1 : Mo w w1 := Mo.trans (by repeat (first | with_reducible exact Mo.refl _ | with_reducible apply Mo.alloc)) hm1
  have Q1 : At0 w1 (w.heap.size + 1 + 1 + 1) := At0.mo ⟨by simp [At4, go_sem], fun o => by simp [go_sem], by simp <;> omega⟩ hm1
  have Q2 : At0 w1 (w.heap.size + 1 + 1 + 1 + 1) := At0.mo ⟨by simp [At4, go_sem], fun o => by simp [go_sem], by simp <;> omega⟩ hm1
  obtain ⟨⟨a0, a1, a2, a3⟩, fa, sa⟩ := Q1
  obtain ⟨⟨b0, b1, b2, b3⟩, fb, sb⟩ := Q2
  have fa := fun o => fa o
  have fb := fun o => fb o
  go_wp2
  refine bodyPost_ret (v := .tuple #[.agg #[.int .u64 0, .int .u64 0, .int .u64 0, .int .u64 0], .agg #[.int .u64 0, .int .u64 0, .int .u64 0, .int .u64 0], .bool false]) (by simp [results, Tryz.results149, go_sem, *]) rfl ?_
  refine ⟨rfl, ?_⟩
  repeat (first | with_reducible exact M1 | with_reducible apply Mo.drew | with_reducible apply Mo.drewN | with_reducible refine Mo.setCell ?_ (by simp <;> omega) _)

set_option maxRecDepth 100000 in
set_option maxHeartbeats 4000000 in
theorem rdiv_yes (H L D : Int) (w : World) (hH0 : 0 ≤ H) (hL0 : 0 ≤ L) (hLM : L < MM) (hDM : D < MM) (h : H < D) :
    Calls Tryz.prog 149 #[nv H, nv L, nv D] w fun e w' => e = .returned (.tuple #[nv ((H * MM + L) / D), nv ((H * MM + L) % D), .bool true]) ∧ Mo w w' := by
  have hc : decide (cm H D ≥ 0) = false := decide_eq_false (by unfold cm; rw [if_pos h]; decide)
  go_enter Tryz.func149, Tryz.ntmps149
  go_wp2_with fail
  refine (rcmp_n H D _ hH0 (by omega) (by omega) hDM).mono ?_
  rintro e w1 ⟨rfl, hm1⟩
  have M1 : Mo w w1 := Mo.trans (by repeat (first | with_reducible exact Mo.refl _ | with_reducible apply Mo.alloc)) hm1
  have Q0 : AtN w1 w.heap.size H := AtN.mo ⟨by simp [At4, go_sem], fun o => by simp [go_sem], by simp <;> omega⟩ hm1
  have Q1 : AtN w1 (w.heap.size + 1) L := AtN.mo ⟨by simp [At4, go_sem], fun o => by simp [go_sem], by simp <;> omega⟩ hm1
  have Q2 : AtN w1 (w.heap.size + 1 + 1) D := AtN.mo ⟨by simp [At4, go_sem], fun o => by simp [go_sem], by simp <;> omega⟩ hm1
  have Q3 : At0 w1 (w.heap.size + 1 + 1 + 1) := At0.mo ⟨by simp [At4, go_sem], fun o => by simp [go_sem], by simp <;> omega⟩ hm1
  have Q4 : At0 w1 (w.heap.size + 1 + 1 + 1 + 1) := At0.mo ⟨by simp [At4, go_sem], fun o => by simp [go_sem], by simp <;> omega⟩ hm1
  have hS : QW w ((w1.alloc (.cells #[.int .u64 (l0 H), .int .u64 (l1 H), .int .u64 (l2 H), .int .u64 (l3 H)] 24)).alloc (.cells #[.int .u64 0, .int .u64 0, .int .u64 0, .int .u64 0] 24)) w1.heap.size H L D H 0 := by
    have a : Mo w1 ((w1.alloc (.cells #[.int .u64 (l0 H), .int .u64 (l1 H), .int .u64 (l2 H), .int .u64 (l3 H)] 24)).alloc (.cells #[.int .u64 0, .int .u64 0, .int .u64 0, .int .u64 0] 24)) := ((Mo.refl _).alloc _ _).alloc _ _
    exact ⟨M1.trans a, Q0.mo a, Q1.mo a, Q2.mo a, Q3.mo a, Q4.mo a, (AtN.new _ _).al, AtN.at _ 0 (by simp), Q4.2.2⟩
  have HS : Hid _ := hS
  have k0 := Q4.2.2
  obtain ⟨⟨a0, a1, a2, a3⟩, _, sa⟩ := Q0
  clear hm1 M1 Q1 Q2 Q3 Q4 hS
  go_wp2_with fail
  generalize w1.heap.size = kr at *
  go_loopw [11] (fun s wx => ∃ (j : Nat) (q R : Int), j ≤ 256 ∧ s = .int .i64 ((j : Int) - 1) ∧ 0 ≤ q ∧ q < 2 ^ (256 - j) ∧ 0 ≤ R ∧ R < D ∧ q * D + R = nj H L j ∧ QW w wx kr H L D R (q * 2 ^ j)) (fun s _ => (intOf s + 1).toNat)
  case atStart => exact ⟨256, 0, H, by decide, rfl, by decide, by decide, hH0, h, by rw [nj_top H hL0 hLM]; omega, by rw [Int.zero_mul]; exact HS.out⟩
  case round =>
    obtain ⟨j, q, R, hj, rfl, q0, q1, R0, R1, hI, hv⟩ := hrel
    clear HS
    have HI : Hid _ := hI
    have HQ : Hid _ := q1
    clear hI q1
    rcases Nat.eq_zero_or_pos j with hj0 | hj0
    · subst hj0
      rw [Int.pow_zero, Int.mul_one] at hv
      have hI := HI.out
      rw [nj_low] at hI
      obtain ⟨x1, x2⟩ := div_end R0 R1 hI
      have X1 : Hid _ := x1
      have X2 : Hid _ := x2
      clear hI x1 x2
      obtain ⟨m, _, _, _, ⟨⟨a0, a1, a2, a3⟩, fa, za⟩, ⟨⟨b0, b1, b2, b3⟩, fb, zb⟩, ⟨⟨c0, c1, c2, c3⟩, _, zc⟩, ⟨⟨d0, d1, d2, d3⟩, _, zd⟩, hk⟩ := hv
      have fa := fun o => fa o
      have fb := fun o => fb o
      go_wp2
      go_region
      all_goals
        go_wp2
        refine bodyPost_ret (v := .tuple #[nv q, nv R, .bool true]) (by simp [results, Tryz.results149, go_sem, *]) rfl ?_
        refine ⟨by rw [X1.out, X2.out], ?_⟩
        repeat (first | with_reducible exact m | with_reducible apply Mo.drew | with_reducible apply Mo.drewN | with_reducible refine Mo.setCell ?_ (by simp <;> omega) _)
    · obtain ⟨i, rfl⟩ : ∃ i, j = i + 1 := ⟨j - 1, by omega⟩
      rw [show (((i + 1 : Nat)) : Int) - 1 = (i : Int) from by omega]
      have di : decide ((i : Int) ≥ 0) = true := decide_eq_true (by omega)
      have hv0 := hv
      obtain ⟨hm, n0, n1, n2, n3, n4, ⟨⟨c0, c1, c2, c3⟩, _, s1⟩, n6, hk⟩ := hv0
      clear n0 n1 n2 n3 n4 n6 hm
      go_wp2_with fail
      refine (radd_n R R _ R0 (by omega) R0 (by omega)).mono ?_
      rintro e w2 ⟨rfl, hm2⟩
      have hv2 := hv.mo hm2
      have sk : kr + 1 < w2.heap.size := hv2.2.2.2.2.2.2.2.1.2.2
      have v3 := hv2.mo ((Mo.refl _).alloc #[.int .u64 (l0 (R + R)), .int .u64 (l1 (R + R)), .int .u64 (l2 (R + R)), .int .u64 (l3 (R + R))] 24)
      have n3 := AtN.new w2 (R + R)
      clear c0 c1 c2 c3 s1 hv hm2 hv2
      go_upto_region 9 with fail
      generalize w2.alloc (.cells #[.int .u64 (l0 (R + R)), .int .u64 (l1 (R + R)), .int .u64 (l2 (R + R)), .int .u64 (l3 (R + R))] 24) = w3 at *
      generalize w2.heap.size = kx at *
      obtain ⟨b, hb⟩ : ∃ b, b = L / 2 ^ i % 2 := ⟨_, rfl⟩
      have hb2 : b = 0 ∨ b = 1 := by omega
      have eo : bits .or .u64 (l0 (R + R)) b = l0 (R + R + b) := by
        rw [even_or (by unfold l0; omega) (by unfold l0; omega) (by unfold l0; omega) hb2]
        unfold l0; omega
      have e1 : l1 (R + R + b) = l1 (R + R) := by unfold l1; omega
      have e2 : l2 (R + R + b) = l2 (R + R) := by unfold l2; omega
      have e3 : l3 (R + R + b) = l3 (R + R) := by unfold l3; omega
      have HB : Hid _ := hb
      have E1 : Hid _ := e1
      have E2 : Hid _ := e2
      have E3 : Hid _ := e3
      clear e1 e2 e3
      go_cut [] from 31 to 37 (fun wx => QW w wx kr H L D R (q * 2 ^ (i + 1)) ∧ AtN wx kx (R + R + b))
      case first =>
        have v3z := v3
        obtain ⟨_, _, ⟨⟨c0, c1, c2, c3⟩, _, s1⟩, _⟩ := v3z
        have n3z := n3
        obtain ⟨⟨d0, d1, d2, d3⟩, df, sx⟩ := n3z
        have df := fun o => df o
        clear hb
        go_region_with
          (first | (go_at_call 181; refine (bit_any L i _ hL0 hLM (by omega)).mono ?_; rintro e w4 ⟨rfl, hm4⟩; rw [← HB.out]; have m4 : Mo w3 w4 := Mo.trans (by repeat (first | with_reducible exact Mo.refl _ | with_reducible apply Mo.drew | with_reducible apply Mo.alloc)) hm4; have v4 := v3.mo m4; have n4 := n3.mo m4; have n4z := n4; obtain ⟨⟨f0, f1, f2, f3⟩, ff, sf⟩ := n4z; have ff := fun o => ff o))
        all_goals
          go_wp2
          go_meet
          case rel =>
            refine ⟨?_, ?_⟩
            · exact v4.other sk _ _
            · refine ⟨?_, fun o => ?_, ?_⟩
              · rw [E1.out, E2.out, E3.out]
                simp [At4, go_sem, *]
              · simp [World.frozen?_setCell, ff o]
              · simpa [World.setCell] using sf
      case rest =>
        clear v3 n3 eo E1 E2 E3
        obtain ⟨v, n⟩ := hcut
        obtain ⟨T, hT⟩ : ∃ T, T = R + R + b := ⟨_, rfl⟩
        rw [← hT] at n
        have T0 : 0 ≤ T := by omega
        have T1 : T < D + D := by omega
        have HT : Hid _ := hT
        go_upto_region 10 with fail
        generalize hO : ov (R + R) = o at *
        have HO : Hid _ := hO
        clear hO
        go_cut [44] from 38 to 44 (fun s44 wx => s44 = .bool (decide (D ≤ T)) ∧ QW w wx kr H L D R (q * 2 ^ (i + 1)) ∧ AtN wx kx T)
        case first =>
          cases o
          case true =>
            have ho : MM ≤ R + R := of_decide_eq_true HO.out
            have o2 : Hid (decide (D ≤ T) = true) := decide_eq_true (by omega)
            clear hT hb ho
            go_wp2
            go_meet
            case rel => exact ⟨by rw [o2.out], v, n⟩
          case false =>
            have ho : ¬ MM ≤ R + R := of_decide_eq_false HO.out
            have tm : T < MM := by unfold MM at *; omega
            have o2 : Hid (decide (cm T D ≥ 0) = decide (D ≤ T)) := by
              show _ = _
              unfold cm
              by_cases hx : T < D
              · rw [if_pos hx, decide_eq_false (by decide), decide_eq_false (by omega)]
              · rw [if_neg hx, decide_eq_true (p := D ≤ T) (by omega)]
                split <;> decide
            clear hT hb ho
            have vz := v
            have nz := n
            obtain ⟨_, _, _, ⟨⟨c0, c1, c2, c3⟩, _, s1⟩, _⟩ := vz
            obtain ⟨⟨d0, d1, d2, d3⟩, _, sx⟩ := nz
            go_wp2_with fail
            refine (rcmp_n T D _ T0 tm (by omega) hDM).mono ?_
            rintro e w5 ⟨rfl, hm5⟩
            have v5 := v.mo hm5
            have n5 := n.mo hm5
            go_wp2
            go_meet
            case rel => exact ⟨by rw [o2.out], v5, n5⟩
        case rest =>
          clear v n hT hb
          obtain ⟨rfl, v, n⟩ := hcut
          have vz := v
          have nz := n
          obtain ⟨_, _, _, ⟨⟨c0, c1, c2, c3⟩, _, s1⟩, _⟩ := vz
          obtain ⟨⟨d0, d1, d2, d3⟩, df, sx⟩ := nz
          generalize hdd : decide (D ≤ T) = dd at *
          have HD : Hid _ := hdd
          clear hdd
          cases dd
          case true =>
            have hsub : ∀ wx, Calls Tryz.prog 182 #[nv T, nv D] wx fun e w' => e = .returned (.tuple #[nv (T - D), .bool (un (T % MM - D))]) ∧ Mo wx w' := by
              intro wx
              have hh := rsub_n (T % MM) D wx (Int.emod_nonneg _ (by decide)) (Int.emod_lt_of_pos _ (by decide)) (by omega) hDM
              rw [nv_mod] at hh
              have e : nv (T % MM - D) = nv (T - D) := by rw [← nv_mod (T % MM - D), ← nv_mod (T - D), Int.emod_sub_emod]
              rw [e] at hh
              exact hh
            clear df
            go_wp2_with fail
            refine (hsub _).mono ?_
            rintro e w6 ⟨rfl, hm6⟩
            have v6 := v.mo hm6
            have n6 := n.mo hm6
            clear c0 c1 c2 c3 s1 d0 d1 d2 d3 sx v n hsub hm6
            have v7 : QW w (st4 w6 kx (T - D)) kr H L D R (q * 2 ^ (i + 1)) := (((v6.other sk _ _).other sk _ _).other sk _ _).other sk _ _
            have n7 : AtN (st4 w6 kx (T - D)) kx (T - D) := n6.same _
            unfold st4 at v7 n7
            obtain ⟨⟨d0, d1, d2, d3⟩, df, sx⟩ := n6
            have df := fun o => df o
            clear v6
            go_upto_region 12 with fail
            generalize (((w6.setCell ⟨kx, 0, none⟩ (.int .u64 (l0 (T - D)))).setCell ⟨kx, 1, none⟩ (.int .u64 (l1 (T - D)))).setCell ⟨kx, 2, none⟩ (.int .u64 (l2 (T - D)))).setCell ⟨kx, 3, none⟩ (.int .u64 (l3 (T - D))) = w8 at *
            clear d0 d1 d2 d3 df sx
            obtain ⟨r, hr⟩ : ∃ r, r = i % 64 := ⟨_, rfl⟩
            have hbs := bit_set (by omega) q0 (by have := HQ.out; rwa [show 256 - (i + 1) = 255 - i from by omega] at this) r hr
            have r64 : r < 64 := by omega
            have er : (i : Int) % 64 = (r : Int) := by omega
            have wp : IntKind.u64.wrap (2 ^ r) = 2 ^ r := by
              rw [IntKind.wrap_u64]
              have h1 : (0 : Int) < 2 ^ r := Int.pow_pos (by decide)
              have h2 : (2 : Int) ^ r < 2 ^ 64 := by
                have := Nat.pow_lt_pow_right (a := 2) (by decide) r64
                rw [← cast_pow, ← cast_pow]
                omega
              exact Int.emod_eq_of_lt (by omega) h2
            clear hr
            obtain ⟨Q, hQ⟩ : ∃ Q, Q = q * 2 ^ (i + 1) := ⟨_, rfl⟩
            obtain ⟨Z, hZ⟩ : ∃ Z, Z = Q + 2 ^ i := ⟨_, rfl⟩
            rw [← hQ, ← hZ] at hbs
            rw [← hQ] at v7
            have HQ2 : Hid _ := hQ
            have HZ : Hid _ := hZ
            clear hQ hZ
            go_cut [] from 51 to 59 (fun wx => QW w wx kr H L D R Z ∧ AtN wx kx (T - D))
            case first =>
              have vz := v7
              obtain ⟨_, _, _, _, _, _, _, ⟨⟨c0, c1, c2, c3⟩, cf, s1⟩, _⟩ := vz
              have cf := fun o => cf o
              rcases hbs with ⟨hm, g0, g1, g2, g3⟩ | ⟨hm, g0, g1, g2, g3⟩ | ⟨hm, g0, g1, g2, g3⟩ | ⟨hm, g0, g1, g2, g3⟩
              · have hq : (i : Int) / 64 = 0 := by omega
                have HG1 : Hid _ := g1
                have HG2 : Hid _ := g2
                have HG3 : Hid _ := g3
                clear g1 g2 g3 hm
                go_region
                all_goals
                  go_wp2
                  go_meet
                  case rel =>
                    refine ⟨(v7.quo ?_).mo (Mo.refl _).drew, (n7.set1 (by omega) _ _).mo (Mo.refl _).drew⟩
                    rw [HG1.out, HG2.out, HG3.out]
                    simp [At4, go_sem, *]
              · have hq : (i : Int) / 64 = 1 := by omega
                have HG1 : Hid _ := g1
                have HG2 : Hid _ := g2
                have HG3 : Hid _ := g3
                clear g1 g2 g3 hm
                go_region
                all_goals
                  go_wp2
                  go_meet
                  case rel =>
                    refine ⟨(v7.quo ?_).mo (Mo.refl _).drew, (n7.set1 (by omega) _ _).mo (Mo.refl _).drew⟩
                    rw [HG1.out, HG2.out, HG3.out]
                    simp [At4, go_sem, *]
              · have hq : (i : Int) / 64 = 2 := by omega
                have HG1 : Hid _ := g1
                have HG2 : Hid _ := g2
                have HG3 : Hid _ := g3
                clear g1 g2 g3 hm
                go_region
                all_goals
                  go_wp2
                  go_meet
                  case rel =>
                    refine ⟨(v7.quo ?_).mo (Mo.refl _).drew, (n7.set1 (by omega) _ _).mo (Mo.refl _).drew⟩
                    rw [HG1.out, HG2.out, HG3.out]
                    simp [At4, go_sem, *]
              · have hq : (i : Int) / 64 = 3 := by omega
                have HG1 : Hid _ := g1
                have HG2 : Hid _ := g2
                have HG3 : Hid _ := g3
                clear g1 g2 g3 hm
                go_region
                all_goals
                  go_wp2
                  go_meet
                  case rel =>
                    refine ⟨(v7.quo ?_).mo (Mo.refl _).drew, (n7.set1 (by omega) _ _).mo (Mo.refl _).drew⟩
                    rw [HG1.out, HG2.out, HG3.out]
                    simp [At4, go_sem, *]
            case rest =>
              clear v7 n7
              obtain ⟨v7, n7⟩ := hcut
              have v8 := v7.rest (T - D)
              unfold st4 at v8
              obtain ⟨⟨d0, d1, d2, d3⟩, _, sx⟩ := n7
              obtain ⟨_, _, _, _, _, _, ⟨⟨c0, c1, c2, c3⟩, cf, s1⟩, _, _⟩ := v7
              have cf := fun o => cf o
              clear hbs
              go_wp2
              go_roundw
              case rel =>
                have hI := div_yes_step (by omega) HI.out
                have hb := HB.out
                have hT := HT.out
                rw [← hb, show 2 * R + b = T from by omega] at hI
                have hq1 : q < 2 ^ (255 - i) := by have := HQ.out; rwa [show 256 - (i + 1) = 255 - i from by omega] at this
                have hge := of_decide_eq_true HD.out
                refine ⟨i, 2 * q + 1, T - D, by omega, by go_num, by omega, (q_no (by omega) hq1).2, by omega, by omega, hI, ?_⟩
                rw [q_pow1, ← HQ2.out, ← HZ.out]
                exact v8
              case measure => simp [intOf]
          case false =>
            have v8 := v.rest T
            unfold st4 at v8
            obtain ⟨_, _, _, _, _, _, ⟨⟨b0, b1, b2, b3⟩, cf, s2⟩, _, _⟩ := v
            have cf := fun o => cf o
            clear df
            go_wp2
            go_roundw
            case rel =>
              have hI := div_no_step (by omega) HI.out
              have hb := HB.out
              have hT := HT.out
              rw [← hb, show 2 * R + b = T from by omega] at hI
              have hq1 : q < 2 ^ (255 - i) := by have := HQ.out; rwa [show 256 - (i + 1) = 255 - i from by omega] at this
              have hge := of_decide_eq_false HD.out
              refine ⟨i, 2 * q, T, by omega, by go_num, by omega, (q_no (by omega) hq1).1, by omega, by omega, hI, ?_⟩
              rw [q_pow]
              exact v8
            case measure => simp [intOf]
theorem rdiv_n (H L D : Int) (w : World) (hH0 : 0 ≤ H) (hHM : H < MM) (hL0 : 0 ≤ L) (hLM : L < MM) (hD0 : 0 ≤ D) (hDM : D < MM) :
    Calls Tryz.prog 149 #[nv H, nv L, nv D] w fun e w' => e = .returned (.tuple #[nv (dq H L D), nv (dr H L D), .bool (dok H D)]) ∧ Mo w w' := by
  unfold dq dr dok
  by_cases h : D ≤ H
  · rw [if_pos h, if_pos h, decide_eq_false (by omega)]
    exact rdiv_no H L D w hH0 hHM hD0 hDM h
  · rw [if_neg h, if_neg h, decide_eq_true (by omega)]
    exact rdiv_yes H L D w hH0 hL0 hLM hDM (by omega)
end Go.Proofs.YtfmfeipeeedfpaaGreat
namespace Go.Proofs.YtfmfeipeeedfpaaGreat
open S Go.RowKit
set_option maxRecDepth 20000 in
theorem q_from (u : Int) (hu : 0 ≤ u ∧ u < 18446744073709551616) (w : World) : Calls Tryz.prog 99 #[.int .u64 u] w fun r W => r = .returned (nv u) ∧ Mb w W := by
  rw [show nv u = .agg #[.int .u64 u, .int .u64 0, .int .u64 0, .int .u64 0] by
    rw [nv, show l0 u = u by unfold l0; omega, show l1 u = 0 by unfold l1; omega, show l2 u = 0 by unfold l2; omega, show l3 u = 0 by unfold l3; omega]]
  exact fn_pure [.int .u64 u] Tryz.func99 rfl rfl rfl (run_ok (st mo rfl))
theorem qadd_c {X Y Z : Int} {o : Bool} (hz : Z = X + Y) (ho : decide (MM ≤ X % MM + Y % MM) = o) (W : World) : Calls Tryz.prog 180 #[nv X, nv Y] W fun e W' => e = .returned (.tuple #[nv Z, .bool o]) ∧ Mb W W' := by
  have q := radd_n (X % MM) (Y % MM) W (lo_b X).1 (lo_b X).2 (lo_b Y).1 (lo_b Y).2
  rw [nv_mod, nv_mod, ← nv_mod (X % MM + Y % MM), ← Int.add_emod, nv_mod, show ov (X % MM + Y % MM) = o from ho, ← hz] at q
  exact q.mono fun _ _ ⟨a, b⟩ => ⟨a, b.mb⟩
theorem qsub_c {X Y Z : Int} {o : Bool} (hz : Z = X - Y) (ho : decide (X % MM - Y % MM < 0) = o) (W : World) : Calls Tryz.prog 182 #[nv X, nv Y] W fun e W' => e = .returned (.tuple #[nv Z, .bool o]) ∧ Mb W W' := by
  have q := rsub_n (X % MM) (Y % MM) W (lo_b X).1 (lo_b X).2 (lo_b Y).1 (lo_b Y).2
  rw [nv_mod, nv_mod, ← nv_mod (X % MM - Y % MM), ← Int.sub_emod, nv_mod, show un (X % MM - Y % MM) = o from ho, ← hz] at q
  exact q.mono fun _ _ ⟨a, b⟩ => ⟨a, b.mb⟩
theorem qcmp_c {A B c : Int} (hA : 0 ≤ A ∧ A < MM) (hB : 0 ≤ B ∧ B < MM) (h : cm A B = c) (W : World) : Calls Tryz.prog 179 #[nv A, nv B] W fun e W' => e = .returned (.int .i64 c) ∧ Mb W W' :=
  (rcmp_n A B W hA.1 hA.2 hB.1 hB.2).mono fun _ _ ⟨a, b⟩ => ⟨h ▸ a, b.mb⟩
set_option maxRecDepth 20000 in
theorem q_plus (X Y : Int) (w : World) : Calls Tryz.prog 151 #[dw X, dw Y] w fun r W => r = .returned (dw (X + Y)) ∧ Mb w W := by
  refine fn_pure [dw X, dw Y] Tryz.func151 rfl rfl rfl (run_ok (st mo ?_))
  by_cases hc : MM ≤ X % MM + Y % MM
  · have e : (X + Y) / MM = X / MM + Y / MM + 1 := by unfold MM at *; omega
    refine ⟨_, fun nn => r_call (t := .tuple #[nv (X + Y), litT]) rfl rfl Tryz.func180 (fun W M E => qadd_c rfl (decide_eq_true hc) W), st mo ?_⟩
    refine ⟨_, fun nn => r_call (t := .tuple #[nv (X / MM + Y / MM), .bool (decide (MM ≤ (X / MM) % MM + (Y / MM) % MM))]) rfl rfl Tryz.func180 (fun W M E => qadd_c rfl rfl W), st mo ?_⟩
    refine ⟨_, fun nn => r_call (t := nv 1) rfl rfl Tryz.func99 (fun W M E => q_from 1 (by decide) W), st mo ?_⟩
    refine ⟨_, fun nn => r_call (t := .tuple #[nv ((X + Y) / MM), .bool (decide (MM ≤ (X / MM + Y / MM) % MM + 1 % MM))]) rfl rfl Tryz.func180 (fun W M E => qadd_c e rfl W), st mo ⟨dk, st mo ?_⟩⟩
    rfl
  · have e : (X + Y) / MM = X / MM + Y / MM := by unfold MM at *; omega
    refine ⟨_, fun nn => r_call (t := .tuple #[nv (X + Y), litF]) rfl rfl Tryz.func180 (fun W M E => qadd_c rfl (decide_eq_false hc) W), st mo ?_⟩
    refine ⟨_, fun nn => r_call (t := .tuple #[nv ((X + Y) / MM), .bool (decide (MM ≤ (X / MM) % MM + (Y / MM) % MM))]) rfl rfl Tryz.func180 (fun W M E => qadd_c e rfl W), st mo ?_⟩
    rfl
set_option maxRecDepth 20000 in
theorem q_minus (X Y : Int) (w : World) : Calls Tryz.prog 154 #[dw X, dw Y] w fun r W => r = .returned (dw (X - Y)) ∧ Mb w W := by
  refine fn_pure [dw X, dw Y] Tryz.func154 rfl rfl rfl (run_ok (st mo ?_))
  by_cases hc : X % MM - Y % MM < 0
  · have e : (X - Y) / MM = X / MM - Y / MM - 1 := by unfold MM at *; omega
    refine ⟨_, fun nn => r_call (t := .tuple #[nv (X - Y), litT]) rfl rfl Tryz.func182 (fun W M E => qsub_c rfl (decide_eq_true hc) W), st mo ?_⟩
    refine ⟨_, fun nn => r_call (t := .tuple #[nv (X / MM - Y / MM), .bool (decide ((X / MM) % MM - (Y / MM) % MM < 0))]) rfl rfl Tryz.func182 (fun W M E => qsub_c rfl rfl W), st mo ?_⟩
    refine ⟨_, fun nn => r_call (t := nv 1) rfl rfl Tryz.func99 (fun W M E => q_from 1 (by decide) W), st mo ?_⟩
    refine ⟨_, fun nn => r_call (t := .tuple #[nv ((X - Y) / MM), .bool (decide ((X / MM - Y / MM) % MM - 1 % MM < 0))]) rfl rfl Tryz.func182 (fun W M E => qsub_c e rfl W), st mo ⟨dk, st mo ?_⟩⟩
    rfl
  · have e : (X - Y) / MM = X / MM - Y / MM := by unfold MM at *; omega
    refine ⟨_, fun nn => r_call (t := .tuple #[nv (X - Y), litF]) rfl rfl Tryz.func182 (fun W M E => qsub_c rfl (decide_eq_false hc) W), st mo ?_⟩
    refine ⟨_, fun nn => r_call (t := .tuple #[nv ((X - Y) / MM), .bool (decide ((X / MM) % MM - (Y / MM) % MM < 0))]) rfl rfl Tryz.func182 (fun W M E => qsub_c e rfl W), st mo ?_⟩
    rfl
set_option maxRecDepth 20000 in
theorem q_cmpW (X Y : Int) (hX : 0 ≤ X ∧ X < MM * MM) (hY : 0 ≤ Y ∧ Y < MM * MM) (w : World) : Calls Tryz.prog 153 #[dw X, dw Y] w fun r W => r = .returned (.int .i64 (cm X Y)) ∧ Mb w W := by
  refine fn_pure [dw X, dw Y] Tryz.func153 rfl rfl rfl (run_ok (st mo ?_))
  refine ⟨_, fun nn => r_call (t := .int .i64 (cm (X / MM) (Y / MM))) rfl rfl Tryz.func179 (fun W M E => qcmp_c (hi_b hX) (hi_b hY) rfl W), st mo ⟨fun h1 => st mo ?_, fun h1 => st mo ?_⟩⟩
  · show _ = _; rw [cm_hi h1]
  · refine ⟨_, fun nn => r_call (t := .int .i64 (cm (X % MM) (Y % MM))) rfl rfl Tryz.func179 (fun W M E => qcmp_c (lo_b X) (lo_b Y) rfl W) (by rw [nv_mod, nv_mod]; rfl), st mo ?_⟩
    show _ = _; rw [cm_lo h1]
set_option maxRecDepth 20000 in
theorem q_shift (n : Int) (k : Nat) (hn : 0 ≤ n ∧ n < MM) (hk : k ≤ 77) (w : World) : Calls Tryz.prog 147 #[nv n, .int .i64 (k : Int)] w fun r W => r = .returned (dw (n * 10 ^ k)) ∧ Mb w W := by
  refine fn_pure [nv n, .int .i64 (k : Int)] Tryz.func147 rfl rfl rfl (run_ok (st mo ?_))
  refine ⟨_, fun nn => r_call (t := .tuple #[nv (10 ^ k), litT]) rfl rfl Tryz.func148 (fun W M E => (rten_yes k W hk).mono fun _ _ ⟨a, b⟩ => ⟨a, b.mb⟩), st mo ?_⟩
  refine ⟨_, fun nn => r_call (t := .tuple #[nv (n * 10 ^ k / MM), nv (n * 10 ^ k)]) rfl rfl Tryz.func155 (fun W M E => (rmul_n n (10 ^ k) W hn.1 hn.2 (p10_b hk).1 (p10_b hk).2).mono fun _ _ ⟨a, b⟩ => ⟨a, b.mb⟩), st mo ?_⟩
  rfl
set_option maxRecDepth 20000 in
theorem q_zero {X : Int} (h0 : 0 ≤ X) (h : X < MM) (w : World) : Calls Tryz.prog 146 #[dw X] w fun r W => r = .returned (.bool (decide (X = 0))) ∧ Mb w W := by
  refine fn_pure [dw X] Tryz.func146 rfl rfl rfl (run_ok (st mo ?_))
  refine ⟨_, r_eqN (X / MM) 0 ⟨Int.ediv_nonneg h0 (by decide), by rw [hi_0 h h0]; decide⟩ MM_0, fun q => st mo ?_, fun q => absurd (hi_0 h h0) (of_decide_eq_false q)⟩
  refine ⟨_, r_eqN X 0 ⟨h0, h⟩ MM_0, fun q => st mo ?_, fun q => st mo ?_⟩
  · show _ = _; rw [q]
  · show _ = _; rw [q]
theorem q_zero' {X : Int} {b : Bool} (hb : decide (X = 0) = b) (h0 : 0 ≤ X) (h : X < MM) (w : World) : Calls Tryz.prog 146 #[dw X] w fun r W => r = .returned (.bool b) ∧ Mb w W := hb ▸ q_zero h0 h w
set_option maxRecDepth 20000 in
theorem q_at {b : Bool} {X s : Int} {r : DR} (hr : fxR b X s = r) (hX : 0 ≤ X ∧ X < MM * MM) (w : World) : Calls Tryz.prog 102 #[.bool b, dw X, .int .i64 s] w fun e W => e = .returned r.v ∧ Mb w W := by
  subst hr
  cases b
  · refine fn_pure [litF, dw X, .int .i64 s] Tryz.func102 rfl rfl rfl (run_ok (st mo ?_))
    refine ⟨_, r_neN (X / MM) 0 (hi_b hX) MM_0, fun h => st mo ?_, fun h => st mo ⟨dk, st mo ?_⟩⟩
    · have h : ¬ X < MM := fun q => by rw [hi_0 q hX.1] at h; cases h
      show _ = _; rw [fx_7 h]; rfl
    · have h : X < MM := Classical.byContradiction fun q => by rw [decide_eq_false (hi_1 q)] at h; cases h
      show _ = _; rw [fx_0 h]; rfl
  · refine fn_pure [litT, dw X, .int .i64 s] Tryz.func102 rfl rfl rfl (run_ok (st mo ?_))
    refine ⟨_, r_neN (X / MM) 0 (hi_b hX) MM_0, fun h => st mo ?_, fun h => st mo ?_⟩
    · have h : ¬ X < MM := fun q => by rw [hi_0 q hX.1] at h; cases h
      show _ = _; rw [fx_7 h]; rfl
    · have h : X < MM := Classical.byContradiction fun q => by rw [decide_eq_false (hi_1 q)] at h; cases h
      cases hz : decide (X = 0) with
      | true =>
        refine ⟨_, fun nn => r_call (t := litT) rfl rfl Tryz.func146 (fun W M E => q_zero' hz hX.1 h W), st mo ⟨dk, st mo ?_⟩⟩
        show _ = _; rw [fx_0 h]; simp only [DR.v, hz]; rfl
      | false =>
        refine ⟨_, fun nn => r_call (t := litF) rfl rfl Tryz.func146 (fun W M E => q_zero' hz hX.1 h W), st mo ⟨dk, st mo ?_⟩⟩
        show _ = _; rw [fx_0 h]; simp only [DR.v, hz]; rfl
/-- A number of no more than 256 bits as one of twice as many. -/
abbrev dwz (n : Int) : Value := .agg #[.int .u64 0, .int .u64 0, .int .u64 0, .int .u64 0, .int .u64 (l0 n), .int .u64 (l1 n), .int .u64 (l2 n), .int .u64 (l3 n)]
theorem dwz_eq {n : Int} (h : 0 ≤ n ∧ n < MM) : dwz n = dw n := by
  show _ = Value.agg #[.int .u64 (l0 (n / MM)), .int .u64 (l1 (n / MM)), .int .u64 (l2 (n / MM)), .int .u64 (l3 (n / MM)), .int .u64 (l0 n), .int .u64 (l1 n), .int .u64 (l2 n), .int .u64 (l3 n)]
  rw [hi_0 h.2 h.1]; rfl
theorem mm_w {n : Int} (h : 0 ≤ n ∧ n < MM) : 0 ≤ n ∧ n < MM * MM := ⟨h.1, Int.lt_of_lt_of_le h.2 (by decide)⟩
theorem q_at0 {b : Bool} {n s : Int} {r : DR} (hr : fxR b n s = r) (hn : 0 ≤ n ∧ n < MM) (w : World) : Calls Tryz.prog 102 #[.bool b, dwz n, .int .i64 s] w fun e W => e = .returned r.v ∧ Mb w W := by
  rw [dwz_eq hn]; exact q_at hr (mm_w hn) w
set_option maxRecDepth 20000 in
theorem q_both (b : Bool) (n s : Int) (c : Bool) (m t : Int) (hn : 0 ≤ n ∧ n < MM) (hm : 0 ≤ m ∧ m < MM) (h1 : ck b n s = 0) (h2 : ck c m t = 0) (w : World) : Calls Tryz.prog 152 #[dc b n s, dc c m t] w fun r W => r = .returned (.int .i64 0) ∧ Mb w W := by
  refine fn_pure [dc b n s, dc c m t] Tryz.func152 rfl rfl rfl (run_ok (st mo ?_))
  refine ⟨_, fun nn => r_call (t := .int .i64 0) rfl rfl Tryz.func59 (fun W M E => h1 ▸ q_dck b n s hn W), st mo ⟨fun h => absurd rfl h, fun _ => st mo ?_⟩⟩
  refine ⟨_, fun nn => r_call (t := .int .i64 0) rfl rfl Tryz.func59 (fun W M E => h2 ▸ q_dck c m t hm W), st mo ?_⟩
  rfl
set_option maxRecDepth 20000 in
theorem q_dneg (b : Bool) (n s : Int) (hn : 0 ≤ n ∧ n < MM) (h1 : ck b n s = 0) (w : World) : Calls Tryz.prog 68 #[dc b n s] w fun r W => r = .returned (negR b n s).v ∧ Mb w W := by
  have e : ∀ b, fxR b n s = ⟨b && !decide (n = 0), n, s, 0⟩ := fun _ => fx_0 hn.2
  cases b
  · refine fn_pure [dcl litF n s] Tryz.func68 rfl rfl rfl (run_ok (st mo ?_))
    refine ⟨_, fun nn => r_call (t := .int .i64 0) rfl rfl Tryz.func59 (fun W M E => h1 ▸ q_dck _ n s hn W), st mo ⟨fun h => absurd rfl h, fun _ => st mo ?_⟩⟩
    refine ⟨_, fun nn => r_call (t := .tuple #[dc (true && !decide (n = 0)) n s, .int .i64 0]) rfl rfl Tryz.func102 (fun W M E => q_at0 (e true) hn W), st mo ?_⟩
    rfl
  · refine fn_pure [dcl litT n s] Tryz.func68 rfl rfl rfl (run_ok (st mo ?_))
    refine ⟨_, fun nn => r_call (t := .int .i64 0) rfl rfl Tryz.func59 (fun W M E => h1 ▸ q_dck _ n s hn W), st mo ⟨fun h => absurd rfl h, fun _ => st mo ?_⟩⟩
    refine ⟨_, fun nn => r_call (t := .tuple #[dc (false && !decide (n = 0)) n s, .int .i64 0]) rfl rfl Tryz.func102 (fun W M E => q_at0 (e false) hn W), st mo ?_⟩
    rfl
end Go.Proofs.YtfmfeipeeedfpaaGreat
