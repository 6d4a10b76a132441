/-
  One more comes up; all have come up.
-/
import Derived.Test.YtepfokoepibkcaaGreatEk
namespace Go.Proofs.YtepfokoepibkcaaGreat
namespace E
open Go.CheckFast (force force_eq)
section
variable {P : Program} {ops : Array Oper} {st : Nat → RL} {r w : Nat → Nat} {v : Nat → Value} {RR WW : Nat → Prop} {k0 : K} {W0 : World}
theorem Iv.step (D : ∀ i o, ops[i]? = some o → Dt P ops st r w v i o) (nn : ∀ i, (st 0).n ≤ i → hget (st 0).h i = none) (hle : (st 0).f.m ≤ 256)
    (hdh : drawn (bef ops) ops.size (dl (fun i => (r i, w i)) ops.size) = true) (hdt : drawn (bef ops) ops.size (dl (fun i => (lookT ops (ops.getD i default), setT (ops.getD i default))) ops.size) = true)
    (hRr : ∀ j, j < ops.size → ∀ i, tb (r j) i → RR i) (hRw : ∀ j, j < ops.size → ∀ i, tb (w j) i → RR i) (hWw : ∀ j, j < ops.size → ∀ i, tb (w j) i → WW i)
    {listed : Array Bool} {a : Act} {W : World} {k : K} (I : Iv ops st w RR WW k0 W0 listed a W k) (hsz : listed.size = ops.size) {i : Nat} {o : Oper} (ho : ops[i]? = some o) (hu : listed.getD i true = false)
    (hall : ∀ e ∈ o.after, Region.binds .any e = true → listed.getD e.on false = true) (Q : Exit → Act → World → Prop) (K' : Act → World → Prop)
    (hK : ∀ a' W' k', Iv ops st w RR WW k0 W0 (listed.setIfInBounds i true) a' W' k' → K' a' W') :
    if Region.wanted o (yielded ops a.tmps) = true then o.wp P a W K' Q else K' (a.put o.dst undef) W := by
  have hi := (Array.getElem?_eq_some_iff.1 ho).1
  have hil : i < listed.size := by omega
  have hu' : ¬ listed.getD i false = true := by simp [hil] at hu ⊢; exact hu
  have hgd : ops.getD i default = o := by simp [hi] at ho ⊢; exact ho
  have hL : ∀ j, j ≠ i → ((listed.setIfInBounds i true).getD j false = true ↔ listed.getD j false = true) := fun j hj => by rw [getD_set_ne false (Ne.symm hj)]
  have hLi : (listed.setIfInBounds i true).getD i false = true := by simp [hil]
  have nni := st_nn D nn
  have d := D i o ho
  -- cuts at the operation itself
  have ch : ∀ m, (tb (r i) m ∨ tb (w i) m) → Cn ops.size (fun j => listed.getD j false = true) (fun j => tb (w j) m) i := fun m hm j hj hw => order hdh I.sh ho hu' hall (m := m) hm j hj hw
  have ct : ∀ t, (tb (lookT ops o) t ∨ wt ops t i) → Cn ops.size (fun j => listed.getD j false = true) (wt ops t) i := fun t ht j hj hw => by
    refine order hdt I.sh ho hu' hall (m := t) ?_ j hj ?_
    · rw [hgd]; exact ht.imp id (wt_tb ho).1
    · have : ops.getD j default = ops[j] := by simp [hj]
      rw [this]; exact (wt_tb (op_at hj)).1 hw
  -- a place that the operation writes, at a cut behind it
  have wcut : ∀ (wr : Nat → Prop) c, wr i → Cn ops.size (fun j => listed.getD j false = true) wr i → Cn ops.size (fun j => (listed.setIfInBounds i true).getD j false = true) wr c → i < c ∧ ∀ j, i + 1 ≤ j → j < c → j < ops.size → ¬ wr j := by
    intro wr c hwi h1 h2
    refine ⟨(h2 i hi hwi).1 hLi, fun j hj hjc hjs hw => ?_⟩
    have h3 : (listed.setIfInBounds i true).getD j false = true := (h2 j hjs hw).2 hjc
    rw [hL j (by omega)] at h3
    have := (h1 j hjs hw).1 h3
    omega
  have hsame : ∀ m c, c ≤ ops.size → tb (w i) m → Cn ops.size (fun j => (listed.setIfInBounds i true).getD j false = true) (fun j => tb (w j) m) c → hget (st c).h m = hget (st (i + 1)).h m := fun m c hc hm h => by
    obtain ⟨h1, h2⟩ := wcut (fun j => tb (w j) m) c hm (ch m (Or.inr hm)) h
    exact st_h D h1 hc (fun j a b => h2 j a b (by omega))
  have hold : ∀ m c, ¬ tb (w i) m → Cn ops.size (fun j => (listed.setIfInBounds i true).getD j false = true) (fun j => tb (w j) m) c → Cn ops.size (fun j => listed.getD j false = true) (fun j => tb (w j) m) c := fun m c hm h => Cn.same hL hm h
  refine d.ok k W a K' Q (by rw [st_m D i (by omega)]; exact I.m) (fun y hy => ev_of y fun t ht => ?_) (fun j b t hg ht => ?_) ⟨fun m hm => ?_, fun m m' hm hm' => ?_⟩ (fun m h1 h2 => I.new i hi hu' m h1 h2) (fun u W' k' hd hv => hK _ _ k' ?_)
  · subst ht; exact I.fr t i (by omega) (ct t (Or.inl (look_op hy)))
  · exact I.fr t i (by omega) (ct t (Or.inl (look_guard hg ht)))
  · exact I.hp m i (by omega) (hRr i hi m hm) (ch m (Or.inl hm))
  · exact I.inj m m' i i (by omega) (by omega) (hRr i hi m hm) (hRr i hi m' hm') (ch m (Or.inl hm)) (ch m' (Or.inl hm'))
  -- what lived there and was not written
  have hkk : ∀ m c, c ≤ ops.size → RR m → ¬ tb (w i) m → Cn ops.size (fun j => listed.getD j false = true) (fun j => tb (w j) m) c → live (st c).h m → ∀ b z, k' m = some (b, z) → k m = some (b, z) ∧ b < W.heap.size := fun m c hc hR hm h hl b z hk => by
    obtain ⟨b', z', e1, e2⟩ := (I.hp m c hc hR h).lt hl
    have := hd.ext m _ e1
    rw [hk] at this; cases this
    exact ⟨e1, e2⟩
  have hlo : ∀ m, live (st i).h m → m < (st i).n := fun m hl => by
    rcases Nat.lt_or_ge m (st i).n with h' | h'
    · exact h'
    · exact absurd hl (not_live (nni i (by omega) m h'))
  have hlo1 : ∀ m, live (st (i + 1)).h m → m < (st (i + 1)).n := fun m hl => by
    rcases Nat.lt_or_ge m (st (i + 1)).n with h' | h'
    · exact h'
    · exact absurd hl (not_live (nni (i + 1) (by omega) m h'))
  have hmix : ∀ m m' c c', c ≤ ops.size → c' ≤ ops.size → RR m → RR m' → ¬ tb (w i) m → tb (w i) m' → Cn ops.size (fun j => (listed.setIfInBounds i true).getD j false = true) (fun j => tb (w j) m) c → Cn ops.size (fun j => (listed.setIfInBounds i true).getD j false = true) (fun j => tb (w j) m') c' →
      live (st c).h m → live (st c').h m' → m ≠ m' → ∀ b z b' z', k' m = some (b, z) → k' m' = some (b', z') → b ≠ b' := by
    intro m m' c c' hc hc' hR hR' hm hm' h h' hl hl' hne b z b' z' ek ek'
    have h0 := hold m c hm h
    obtain ⟨km, hb⟩ := hkk m c hc hR hm h0 hl b z ek
    have hl1 : live (st (i + 1)).h m' := by obtain ⟨cs, e⟩ := hl'; exact ⟨cs, by rw [← hsame m' c' hc' hm' h']; exact e⟩
    rcases Nat.lt_or_ge m' (st i).n with hn | hn
    · have hl0 := d.ss.back m' hn hl1
      rw [hd.dom m' (Or.inl hn)] at ek'
      exact I.inj m m' c i hc (by omega) hR hR' h0 (ch m' (Or.inr hm')) hl hl0 hne b z b' z' km ek'
    · rcases hd.fresh m' b' z' hn (hlo1 m' hl1) hl1 ek' with hB | ⟨j, zj, j1, j2, j3, _, j5⟩
      · omega
      · exact I.inj m j c i hc (by omega) hR (hRw i hi j j1) h0 (ch j (Or.inr j1)) hl j3 (fun e => hm (e ▸ j1)) b z b' zj km j5
  -- what was let go stays so
  have hdead : ∀ j, j < (st 0).n → (∀ c', c' ≤ ops.size → Cn ops.size (fun j => listed.getD j false = true) (fun i => tb (w i) j) c' → ¬ live (st c').h j) → ∀ c', c' ≤ ops.size → Cn ops.size (fun j => (listed.setIfInBounds i true).getD j false = true) (fun i => tb (w i) j) c' → ¬ live (st c').h j := by
    intro j hj h c' hc' hcn hl
    by_cases hw : tb (w i) j
    · have hl1 : live (st (i + 1)).h j := by obtain ⟨cs, e⟩ := hl; exact ⟨cs, by rw [← hsame j c' hc' hw hcn]; exact e⟩
      exact h i (by omega) (ch j (Or.inr hw)) (d.ss.back j (Nat.lt_of_lt_of_le hj (st_n D (Nat.zero_le i) (by omega))) hl1)
    · exact h c' hc' (hold j c' hw hcn) hl
  have hfresh : ∀ m b z, (st 0).n ≤ m → m < (st i).n → (tb (r i) m ∨ tb (w i) m) → live (st i).h m → k m = some (b, z) → W0.heap.size ≤ b ∨ ∃ j z', WW j ∧ j < (st 0).n ∧ live (st 0).h j ∧ (∀ c', c' ≤ ops.size → Cn ops.size (fun j => (listed.setIfInBounds i true).getD j false = true) (fun i => tb (w i) j) c' → ¬ live (st c').h j) ∧ k0 j = some (b, z') := by
    intro m b z h1 h2 h3 h4 h5
    rcases I.fresh m i b z (by omega) (h3.elim (hRr i hi m) (hRw i hi m)) (ch m h3) h1 (Nat.lt_of_lt_of_le h2 (st_n D (by omega) (Nat.le_refl _))) h4 h5 with h | ⟨j, z', a1, a2, a3, a4, a5⟩
    · exact Or.inl h
    · exact Or.inr ⟨j, z', a1, a2, a3, hdead j a2 a4, a5⟩
  refine ⟨?_, ?_, ?_, ?_, ?_, ?_, fun m p hp => hd.ext m p (I.ext m p hp), ?_, ?_, ?_, ?_, Nat.le_trans I.size hd.size, hd.os.trans I.os, hd.tape.trans I.tape, hd.output.trans I.output, fun x => (hd.fz x).trans (I.fz x)⟩
  · intro j oj hoj hlj e he hb
    by_cases hji : j = i
    · subst hji
      rw [ho] at hoj; cases hoj
      exact getD_set_true (hall e he hb)
    · rw [hL j hji] at hlj
      exact getD_set_true (I.sh j oj hoj hlj e he hb)
  · rw [put_sz]; exact I.m
  · rw [put_df]; exact I.df
  · intro t c hc hcn
    by_cases hw : wt ops t i
    · obtain ⟨h1, h2⟩ := wcut (wt ops t) c hw (ct t (Or.inr hw)) hcn
      rw [st_f D hle h1 hc (fun j a b => h2 j a b (by omega)), d.f]
      exact put_get (by rw [st_m D i (by omega)]; exact I.m) (by rw [st_m D i (by omega)]; exact hle) hv t ((I.fr t i (by omega) (ct t (Or.inr hw))).mono hd.ext)
    · rw [put_other (fun e => hw ⟨o, ho, e⟩)]
      exact (I.fr t c hc (Cn.same hL hw hcn)).mono hd.ext
  · intro m c hc hR hcn
    by_cases hw : tb (w i) m
    · intro cs hcs
      rw [hsame m c hc hw hcn] at hcs
      exact hd.rep.rep m (tb_or.2 (Or.inr hw)) cs hcs
    · intro cs hcs
      have h0 := hold m c hw hcn
      obtain ⟨b, us, sp, ty, e1, e2, e3⟩ := I.hp m c hc hR h0 cs hcs
      refine ⟨b, us, sp, ty, hd.ext _ _ e1, ?_, LX.mono hd.ext e3⟩
      rw [hd.frm b (Array.getElem?_eq_some_iff.1 e2).1 (fun j z hj hl hk => ?_), e2]
      exact I.inj m j c i hc (by omega) hR (hRw i hi j hj) h0 (ch j (Or.inr hj)) ⟨cs, hcs⟩ hl (fun e => hw (e ▸ hj)) _ _ _ _ e1 hk rfl
  · intro m m' c c' hc hc' hR hR' hcn hcn' hl hl' hne b z b' z' ek ek'
    by_cases hw : tb (w i) m <;> by_cases hw' : tb (w i) m'
    · have e1 := hsame m c hc hw hcn
      have e2 := hsame m' c' hc' hw' hcn'
      obtain ⟨cs, e⟩ := hl
      obtain ⟨cs', e'⟩ := hl'
      exact hd.rep.inj m m' (tb_or.2 (Or.inr hw)) (tb_or.2 (Or.inr hw')) ⟨cs, by rw [← e1]; exact e⟩ ⟨cs', by rw [← e2]; exact e'⟩ hne b z b' z' ek ek'
    · exact fun e => hmix m' m c' c hc' hc hR' hR hw' hw hcn' hcn hl' hl (Ne.symm hne) b' z' b z ek' ek e.symm
    · exact hmix m m' c c' hc hc' hR hR' hw hw' hcn hcn' hl hl' hne b z b' z' ek ek'
    · have h0 := hold m c hw hcn
      have h0' := hold m' c' hw' hcn'
      exact I.inj m m' c c' hc hc' hR hR' h0 h0' hl hl' hne b z b' z' (hkk m c hc hR hw h0 hl b z ek).1 (hkk m' c' hc' hR' hw' h0' hl' b' z' ek').1
  · intro m hm
    have h1 := st_n D (Nat.zero_le i) (by omega)
    have h2 := st_n D (show i + 1 ≤ ops.size by omega) (Nat.le_refl _)
    rw [hd.dom m (by omega)]
    exact I.dom m hm
  · intro j hj hnl m h1 h2
    by_cases hji : j = i
    · subst hji; exact absurd hLi hnl
    · rw [hL j hji] at hnl
      have : k' m = k m := by
        rcases Nat.lt_or_ge j i with h | h
        · exact hd.dom m (Or.inl (Nat.lt_of_lt_of_le h2 (st_n D h (by omega))))
        · exact hd.dom m (Or.inr (Nat.le_trans (st_n D (show i + 1 ≤ j by omega) (by omega)) h1))
      rw [this]
      exact I.new j hj hnl m h1 h2
  · intro b hb hj
    rw [hd.frm b (Nat.lt_of_lt_of_le hb I.size) (fun j z hw hl hk => ?_)]
    · exact I.frm b hb hj
    · rcases Nat.lt_or_ge j (st 0).n with hjn | hjn
      · have hin := st_n D (Nat.zero_le i) (by omega)
        exact hj j z (hWw i hi j hw) (st_back D hjn i (by omega) hl) (by rw [← I.dom j (Or.inl hjn)]; exact hk)
      · rcases hfresh j b z hjn (hlo j hl) (Or.inr hw) hl hk with h' | ⟨j0, z0, a1, a2, a3, _, a5⟩
        · omega
        · exact hj j0 z0 a1 a3 a5
  · intro m c b z hc hR hcn hm1 hm2 hl hk
    by_cases hw : tb (w i) m
    · have hl1 : live (st (i + 1)).h m := by obtain ⟨cs, e⟩ := hl; exact ⟨cs, by rw [← hsame m c hc hw hcn]; exact e⟩
      rcases Nat.lt_or_ge m (st i).n with hn | hn
      · rw [hd.dom m (Or.inl hn)] at hk
        exact hfresh m b z hm1 hn (Or.inr hw) (d.ss.back m hn hl1) hk
      · rcases hd.fresh m b z hn (hlo1 m hl1) hl1 hk with hB | ⟨j, zj, j1, j2, j3, j4, j5⟩
        · exact Or.inl (Nat.le_trans I.size hB)
        · rcases Nat.lt_or_ge j (st 0).n with hjn | hjn
          · refine Or.inr ⟨j, zj, hWw i hi j j1, hjn, st_back D hjn i (by omega) j3, fun c' hc' hcn' hl' => ?_, by rw [← I.dom j (Or.inl hjn)]; exact j5⟩
            obtain ⟨cs, e⟩ := hl'
            exact j4 ⟨cs, by rw [← hsame j c' hc' j1 hcn']; exact e⟩
          · exact hfresh j b zj hjn j2 (Or.inr j1) j3 j5
    · have h0 := hold m c hw hcn
      rcases I.fresh m c b z hc hR h0 hm1 hm2 hl (hkk m c hc hR hw h0 hl b z hk).1 with h | ⟨j, z', a1, a2, a3, a4, a5⟩
      · exact Or.inl h
      · exact Or.inr ⟨j, z', a1, a2, a3, hdead j a2 a4, a5⟩
theorem draw_ok {cf : Nat → List Value → HT → Nat → Option R5} (hcf : Cs P cf) (hmo : P.follows .mixedOrders = true) {s s' : RL} (nn : ∀ i, s.n ≤ i → hget s.h i = none) (hl : s.l = []) (hr0 : s.r = 0) (hw0 : s.w = 0)
    (e : opsL P cf ops ops.toList s = some s') (hdk : drawOk ops = true) (hdr : drawn (bef ops) ops.size s'.l = true) :
    Ss s.h s.n s'.h s'.n s'.r s'.w ∧
      ∀ (k : K) (W : World) (a : Act) (Q : Exit → Act → World → Prop) (id : Nat), FR k s.f a → HR k s.h W s'.r → (∀ i, s.n ≤ i → i < s'.n → k i = none) → (∀ k' W' a', Sd s.h s.n s'.h s'.n s'.r s'.w k W k' W' → FR k' s'.f a' → Q .normal a' W') → (Code.region id ops true).wp P Q a W := by
  obtain ⟨r1, w1, h1, h2, ss, _⟩ := list_ok hcf _ _ _ nn e
  have ss' : Ss s.h s.n s'.h s'.n s'.r s'.w := ss.congr (fun i => by rw [h1, hr0]; exact ⟨Or.inr, fun h => h.resolve_left tb_zero⟩) (fun i => by rw [h2, hw0]; exact ⟨Or.inr, fun h => h.resolve_left tb_zero⟩)
  refine ⟨ss', ?_⟩
  obtain ⟨st, e0, eN, hst⟩ := opsL_states _ _ _ e
  rw [show ops.toList.length = ops.size by simp] at eN
  -- what each operation does
  have nnst : ∀ i, i ≤ ops.size → ∀ m, (st i).n ≤ m → hget (st i).h m = none := by
    intro i
    induction i with
    | zero => intro _; rw [e0]; exact nn
    | succ i ih =>
      intro hi
      obtain ⟨_, _, _, _, _, _, _, hs, _⟩ := step_ok hcf (ih (by omega)) (hst i ops[i] (by rw [Array.getElem?_toList]; exact op_at (by omega)))
      exact hs.nn (ih (by omega))
  have ex : ∀ i, ∃ q : Nat × Nat × Value, ∀ o, ops[i]? = some o → Dt P ops st (fun _ => q.1) (fun _ => q.2.1) (fun _ => q.2.2) i o := by
    intro i
    cases ho : ops[i]? with
    | none => exact ⟨(0, 0, undef), fun o h => by cases h⟩
    | some o =>
      obtain ⟨r, w, v, a1, a2, a3, a4, a5, a6⟩ := step_ok hcf (nnst i (Nat.le_of_lt (Array.getElem?_eq_some_iff.1 ho).1)) (hst i o (by rw [Array.getElem?_toList]; exact ho))
      refine ⟨(r, w, v), fun o' h => ?_⟩
      cases h
      exact ⟨a1, a2, a3, a4, a5, a6⟩
  let q : Nat → Nat × Nat × Value := fun i => Classical.choose (ex i)
  have D : ∀ i o, ops[i]? = some o → Dt P ops st (fun i => (q i).1) (fun i => (q i).2.1) (fun i => (q i).2.2) i o := fun i o ho => by
    have := Classical.choose_spec (ex i) o ho
    exact ⟨this.l, this.f, this.mr, this.mw, this.ss, this.ok⟩
  generalize hqr : (fun i => (q i).1) = r at D
  generalize hqw : (fun i => (q i).2.1) = w at D
  generalize hqv : (fun i => (q i).2.2) = v at D
  have hdl : ∀ i, i ≤ ops.size → (st i).l = dl (fun i => (r i, w i)) i := by
    intro i
    induction i with
    | zero => intro _; rw [e0, hl]; rfl
    | succ i ih => intro hi; rw [(D i _ (op_at (by omega))).l, ih (by omega)]; rfl
  have hmr : ∀ i, i ≤ ops.size → ∀ m, tb (st i).r m ↔ ∃ j, j < i ∧ tb (r j) m := by
    intro i
    induction i with
    | zero => intro _ m; rw [e0, hr0]; exact ⟨fun h => absurd h tb_zero, fun ⟨j, h, _⟩ => absurd h (by omega)⟩
    | succ i ih =>
      intro hi m
      rw [(D i _ (op_at (by omega))).mr, ih (by omega)]
      constructor
      · rintro (⟨j, a, b⟩ | h)
        · exact ⟨j, by omega, b⟩
        · exact ⟨i, by omega, h⟩
      · rintro ⟨j, a, b⟩
        by_cases hji : j = i
        · subst hji; exact Or.inr b
        · exact Or.inl ⟨j, by omega, b⟩
  have hmw : ∀ i, i ≤ ops.size → ∀ m, tb (st i).w m ↔ ∃ j, j < i ∧ tb (w j) m := by
    intro i
    induction i with
    | zero => intro _ m; rw [e0, hw0]; exact ⟨fun h => absurd h tb_zero, fun ⟨j, h, _⟩ => absurd h (by omega)⟩
    | succ i ih =>
      intro hi m
      rw [(D i _ (op_at (by omega))).mw, ih (by omega)]
      constructor
      · rintro (⟨j, a, b⟩ | h)
        · exact ⟨j, by omega, b⟩
        · exact ⟨i, by omega, h⟩
      · rintro ⟨j, a, b⟩
        by_cases hji : j = i
        · subst hji; exact Or.inr b
        · exact Or.inl ⟨j, by omega, b⟩
  have hR := hmr ops.size (Nat.le_refl _)
  have hW := hmw ops.size (Nat.le_refl _)
  rw [eN] at hR hW
  unfold drawOk at hdk
  simp only [Bool.and_eq_true] at hdk
  obtain ⟨hedge, hdt⟩ := hdk
  rw [dl_ops ops _ default] at hdt
  have hdh : drawn (bef ops) ops.size (dl (fun i => (r i, w i)) ops.size) = true := by rw [← hdl ops.size (Nat.le_refl _), eN]; exact hdr
  intro k W a Q id hf H hnew hk
  have hle : (st 0).f.m ≤ 256 := by rw [e0]; exact hf.le
  have nn0 : ∀ i, (st 0).n ≤ i → hget (st 0).h i = none := by rw [e0]; exact nn
  refine wp_region_any hmo ?_
  refine wpAny_inv (fun listed a' W' => listed.size = ops.size ∧ ∃ k', Iv ops st w (fun i => tb s'.r i ∨ tb s'.w i) (fun i => tb s'.w i) k { W with drawn := W.drawn + 1 } listed a' W' k') hedge ?_ ?_ _ _ _ _ ?_ ⟨by simp, k, ?_⟩
  · rintro listed a' W' i o ⟨hsz, k', I⟩ ho hu hall
    refine wpOp_step ho fun K hK => ?_
    refine I.step D nn0 hle hdh hdt (fun j hj m hm => Or.inl ((hR m).2 ⟨j, hj, hm⟩)) (fun j hj m hm => Or.inr ((hW m).2 ⟨j, hj, hm⟩)) (fun j hj m hm => (hW m).2 ⟨j, hj, hm⟩) hsz ho hu hall Q K (fun a2 W2 k2 I2 => hK _ _ ⟨by simpa using hsz, k2, I2⟩)
  · rintro listed a' W' ⟨hsz, k', I⟩ hall
    have hc : ∀ wr : Nat → Prop, Cn ops.size (fun j => listed.getD j false = true) wr ops.size := fun wr j hj _ => ⟨fun _ => hj, fun _ => by
      have := hall j hj
      have h2 : j < listed.size := by omega
      simpa [h2] using this⟩
    have hfr := fun t => I.fr t ops.size (Nat.le_refl _) (hc _)
    have hhp := fun i hi => I.hp i ops.size (Nat.le_refl _) hi (hc _)
    rw [eN] at hfr hhp
    refine hk k' W' a' ⟨I.ext, ?_, ⟨fun i hi => hhp i (tb_or.1 hi), fun i j hi hj li lj hne => ?_⟩, ?_, ?_, I.size, I.os, I.tape, I.output, I.fz⟩ ⟨?_, ?_, hfr, I.df⟩
    · have := I.dom; rw [e0, eN] at this; exact this
    · exact I.inj i j ops.size ops.size (Nat.le_refl _) (Nat.le_refl _) (tb_or.1 hi) (tb_or.1 hj) (hc _) (hc _) (by rw [eN]; exact li) (by rw [eN]; exact lj) hne
    · have := I.frm; rw [e0] at this; exact this
    · intro i b z h1 h2 h3 h4
      by_cases hwi : tb s'.w i
      · rcases I.fresh i ops.size b z (Nat.le_refl _) (Or.inr hwi) (hc _) (by rw [e0]; exact h1) (by rw [eN]; exact h2) (by rw [eN]; exact h3) h4 with h | ⟨j, z', a1, a2, a3, a4, a5⟩
        · exact Or.inl h
        · rw [e0] at a2 a3
          refine Or.inr ⟨j, z', a1, a2, a3, ?_, a5⟩
          have := a4 ops.size (Nat.le_refl _) (hc _)
          rw [eN] at this; exact this
      · obtain ⟨cs, h3⟩ := h3
        rw [ss'.same i hwi, nn i h1] at h3
        cases h3
    · have := st_m D ops.size (Nat.le_refl _)
      rw [eN, e0] at this
      rw [this, ← e0]; exact I.m
    · have := st_m D ops.size (Nat.le_refl _)
      rw [eN, e0] at this
      rw [this]; exact hf.le
  · simp
  · have hz : ∀ j, ¬ (Array.replicate ops.size false).getD j false = true := fun j => by
      rcases Nat.lt_or_ge j ops.size with h | h <;> simp [h]
    have hcn : ∀ wr c, c ≤ ops.size → Cn ops.size (fun j => (Array.replicate ops.size false).getD j false = true) wr c → ∀ j, 0 ≤ j → j < c → ¬ wr j := fun wr c hc h j _ hj hw => hz j ((h j (by omega) hw).2 hj)
    have hh : ∀ i c, c ≤ ops.size → Cn ops.size (fun j => (Array.replicate ops.size false).getD j false = true) (fun j => tb (w j) i) c → hget (st c).h i = hget s.h i := fun i c hc h => by
      rw [st_h D (Nat.zero_le c) hc (hcn _ c hc h), e0]
    -- what is written and was there was read
    have hrd : ∀ i c, c ≤ ops.size → (tb s'.r i ∨ tb s'.w i) → live s.h i → tb s'.r i := fun i c _ h hl => by
      rcases h with h | h
      · exact h
      · refine ss'.old i h ?_
        rcases Nat.lt_or_ge i s.n with h' | h'
        · exact h'
        · exact absurd hl (not_live (nn i h'))
    refine ⟨fun j o _ h => absurd h (hz j), by rw [e0]; exact hf.m, hf.df, fun t c hc h => ?_, fun i c hc hi h cs hcs => ?_, fun i i' c c' hc hc' hi hi' h h' hl hl' hne => ?_, fun _ _ h => h, fun _ _ => rfl, fun j hj _ i h1 h2 => ?_, fun _ _ _ => rfl, fun i c b z hc hi h h1 h2 hl => ?_, Nat.le_refl _, rfl, rfl, rfl, fun _ => rfl⟩
    · rw [st_f D hle (Nat.zero_le c) hc (hcn _ c hc h), e0]; exact hf.get t
    · rw [hh i c hc h] at hcs
      exact H.rep i (hrd i c hc hi ⟨cs, hcs⟩) cs hcs
    · obtain ⟨cs, hl⟩ := hl
      obtain ⟨cs', hl'⟩ := hl'
      rw [hh i c hc h] at hl
      rw [hh i' c' hc' h'] at hl'
      exact H.inj i i' (hrd i c hc hi ⟨cs, hl⟩) (hrd i' c' hc' hi' ⟨cs', hl'⟩) ⟨cs, hl⟩ ⟨cs', hl'⟩ hne
    · have a1 := st_n D (Nat.zero_le j) (by omega)
      have a2 := st_n D (show j + 1 ≤ ops.size by omega) (Nat.le_refl _)
      rw [e0] at a1; rw [eN] at a2
      exact hnew i (by omega) (by omega)
    · obtain ⟨cs, hl⟩ := hl
      rw [hh i c hc h, nn i (by rw [e0] at h1; exact h1)] at hl
      cases hl
end
end E
end Go.Proofs.YtepfokoepibkcaaGreat
