/-
  Code, calls: what was reckoned of a closed call is what each run of it does.
-/
import Derived.Test.YtepfokoepibkcaaGreatEn
namespace Go.Proofs.YtepfokoepibkcaaGreat
namespace E
open Go.CheckFast (force force_eq)
section
variable {P : Program}
/-- What is said of code. -/
def Rn (P : Program) (rn : Code → FT → HT → Nat → Option RC) : Prop := ∀ c f h n x, (∀ i, n ≤ i → hget h i = none) → rn c f h n = some x → Ss h n x.h x.n x.r x.w ∧
  ∀ (k : K) (W : World) (a : Act) (Q : Exit → Act → World → Prop), FR k f a → HR k h W x.r → (∀ i, n ≤ i → i < x.n → k i = none) → (∀ k' W' a', Sd h n x.h x.n x.r x.w k W k' W' → FR k' x.f a' → Q x.e a' W') → c.wp P Q a W
theorem args_m : ∀ (l : List Value) (f : FT) (i : Nat), (args' f i l).m = f.m
  | [], _, _ => rfl
  | v :: l, f, i => by rw [args', args_m l, fput_m]
theorem args_get : ∀ (l : List Value) (f : FT) (i t : Nat), f.m ≤ 256 → i + l.length ≤ f.m → fget (args' f i l) t = if i ≤ t then (l[t - i]?).getD (fget f t) else fget f t
  | [], f, i, t, _, _ => by simp [args']
  | v :: l, f, i, t, hm, hl => by
    simp only [List.length_cons] at hl
    rw [args', args_get l (fput f i v) (i + 1) t (by rw [fput_m]; exact hm) (by rw [fput_m]; omega)]
    by_cases e : i = t
    · subst e
      rw [if_neg (by omega), if_pos (Nat.le_refl _), fget_same v hm (by omega)]
      simp
    · rw [fget_ne v hm e]
      by_cases h : i ≤ t
      · rw [if_pos (by omega), if_pos h, show t - i = (t - (i + 1)) + 1 by omega, List.getElem?_cons_succ]
      · rw [if_neg (by omega), if_neg h]
theorem LR.get' {R : Value → Value → Prop} : ∀ {l m : List Value} (i : Nat) (d : Value), LR R l m → R d d → R ((l[i]?).getD d) ((m[i]?).getD d)
  | [], _, i, d, e, h => by rw [e]; simpa using h
  | x :: xs, _, 0, d, ⟨y, ys, e, r, _⟩, h => by rw [e]; simpa using r
  | x :: xs, _, i + 1, d, ⟨y, ys, e, _, q⟩, h => by rw [e]; simpa using q.get' i d h
theorem args_fr {k : K} {vs us : List Value} {m : Nat} (h : LR (VX k) vs us) (hm : m ≤ 256) (hl : vs.length ≤ m) : FR k (args' ⟨m, fe5, fe8⟩ 0 vs) { tmps := us.toArray ++ Array.replicate (m - us.toArray.size) undef, defers := [] } := by
  have hlen := h.len
  refine ⟨by rw [args_m]; simp; omega, by rw [args_m]; exact hm, fun t => ?_, rfl⟩
  rw [args_get vs _ 0 t hm (by simpa using hl), if_pos (Nat.zero_le _), fget_new, Nat.sub_zero]
  have : (us.toArray ++ Array.replicate (m - us.toArray.size) undef).getD t undef = (us[t]?).getD undef := by
    rw [Array.getD_eq_getD_getElem?]
    by_cases ht : t < us.length
    · rw [Array.getElem?_append_left (by simpa using ht)]; simp
    · rw [Array.getElem?_append_right (by simpa using ht)]
      rw [List.getElem?_eq_none (by omega)]
      by_cases h2 : t - us.toArray.size < m - us.toArray.size
      · rw [Array.getElem?_replicate, if_pos h2]; rfl
      · rw [Array.getElem?_replicate, if_neg h2]
  rw [this]
  exact h.get' t undef undef_vx
def resF (tmps : Array Value) (x : ResultVar) : Sem Value := match x with
  | .tmp t => pure (tmps.getD t undef)
  | .cell b t => do loadVar t (← asAddr (tmps.getD b undef))
theorem res_ok {k : K} {f : FT} {a : Act} {h : HT} {W : World} (hf : FR k f a) : ∀ (l : List ResultVar) (y : List Value × Nat), res P f h l = some y → HR k h W y.2 →
    ∃ us, LR (VX k) y.1 us ∧ (l.mapM (resF a.tmps)).run P W = .ok us W
  | [], y, e, _ => by cases e; exact ⟨[], rfl, rfl⟩
  | x :: l, y, e, H => by
    simp only [res] at e
    obtain ⟨y', h1, e⟩ := bind_some e
    cases x with
    | tmp t =>
      cases e
      obtain ⟨us, h2, h3⟩ := res_ok hf l y' h1 H
      exact ⟨_, ⟨_, us, rfl, hf.get t, h2⟩, by rw [List.mapM_cons]; simp only [resF, Sem.run_bind, Sem.run_pure, Result.andThen_ok, h3]⟩
    | cell b t =>
      obtain ⟨z, h4, e⟩ := bind_some e
      cases e
      obtain ⟨us, h2, h3⟩ := res_ok hf l y' h1 (H.sub fun i hi => tb_or.2 (Or.inl hi))
      obtain ⟨p, q, hv, h5⟩ := onP_some h4
      obtain ⟨_, _, hr, _, h6⟩ := ld_ok h5
      have h7 := hf.get b
      have hv' : fget f b = .pointer (some ⟨p, q, none⟩) := hv
      rw [hv'] at h7
      obtain ⟨_, b', zz, hk, h8⟩ := h7.ptr_inv
      obtain ⟨u, h9, h10⟩ := h6 k W b' zz (H.sub fun i hi => tb_or.2 (Or.inr (by rw [hr]; exact hi))) hk
      refine ⟨u :: us, ⟨u, us, rfl, h9, h2⟩, ?_⟩
      rw [List.mapM_cons]
      simp only [resF, Sem.run_bind, Sem.run_pure, Result.andThen_ok, h8, asAddr, h10, h3]
theorem results_run {k : K} {f : FT} {a : Act} {h : HT} {W : World} {fn : Func} (hf : FR k f a) {y : List Value × Nat} (e : res P f h fn.results.toList = some y) (H : HR k h W y.2) : ∃ u, VX k (single y.1) u ∧ (results fn a.tmps).run P W = .ok u W := by
  obtain ⟨us, h1, h2⟩ := res_ok (P := P) hf _ y e H
  refine ⟨if us.length = 1 then us.headD undef else .tuple us.toArray, ?_, ?_⟩
  · obtain ⟨vs, m⟩ := y
    simp only at h1 ⊢
    cases vs with
    | nil => rw [h1]; exact VX.tuple (cs := []) (us := []) rfl
    | cons v vs =>
      obtain ⟨u, us', rfl, r1, r2⟩ := h1
      cases vs with
      | nil => rw [r2]; exact r1
      | cons v' vs' =>
        have hl := r2.len
        rw [if_neg (by intro h0; simp only [List.length_cons] at h0 hl; omega)]
        exact VX.tuple ⟨u, us', rfl, r1, r2⟩
  · have e1 : results fn a.tmps = (do
        let vs ← fn.results.mapM (resF a.tmps)
        pure (if h : vs.size = 1 then vs[0] else .tuple vs)) := rfl
    rw [e1, Array.mapM_eq_mapM_toList]
    simp only [map_eq_pure_bind, Sem.run_bind, h2, Result.andThen_ok, Sem.run_pure]
    congr 1
    by_cases hl : us.length = 1
    · rw [if_pos hl, dif_pos (by simpa using hl)]
      cases us with
      | nil => cases hl
      | cons u us => simp
    · rw [if_neg hl, dif_neg (by simpa using hl)]
theorem call_ok {tb' : List En} {rn : Code → FT → HT → Nat → Option RC} (ht : ∀ e ∈ tb', EnOk P e) (hrn : Rn P rn) : Cs P (call P tb' rn) := by
  intro f vs h n x nn e
  unfold call at e
  cases hfd : find f vs tb' with
  | some en =>
    rw [hfd] at e
    obtain ⟨h1, rfl, rfl⟩ := find_some hfd
    exact known_ok (ht en h1) e
  | none =>
  rw [hfd] at e
  have e : call0 P rn f vs h n = some x := e
  unfold call0 at e
  split at e
  · rename_i fn hfn
    split at e
    · rename_i c hc
      obtain ⟨hok, e⟩ := bif_some e
      unfold fnok at hok
      simp only [Bool.and_eq_true, Nat.ble_eq, Bool.not_eq_true'] at hok
      obtain ⟨⟨o1, o2⟩, o3⟩ := hok
      unfold callB at e
      obtain ⟨y, hy, e⟩ := bind_some e
      obtain ⟨z, hz, e⟩ := bind_some e
      obtain ⟨he, e⟩ := bif_some e
      cases e
      obtain ⟨ss, ok⟩ := hrn _ _ _ _ _ nn hy
      have ssr : Ss h n y.h y.n (Nat.lor y.r z.2) y.w := (ss.trans (Ss.read y.h y.n z.2)).congr (fun _ => Iff.rfl) (fun i => ⟨fun h => (tb_or.1 h).resolve_right tb_zero, fun h => tb_or.2 (Or.inl h)⟩)
      refine ⟨ssr, fun args w => ?_, fun k W us hvs H hnew => ?_⟩
      · have hb : fn.body.isNone = false := by rw [hc]; rfl
        simp only [callFunc, Sem.run_bind, program, Sem.run, Result.andThen_ok, hfn]
        rw [if_neg (by rw [o3]; simp), hb]
        simp
      · refine calls_of_wp hfn hc ?_
        refine ok k W _ _ (args_fr hvs o2 o1) (H.sub fun i hi => tb_or.2 (Or.inl hi)) hnew (fun k' W' a' hd hf => ?_)
        have H2 := Sd.next ss hd nn H
        have H3 : HR k' y.h W' z.2 := H2.sub fun i hi => tb_or.2 (Or.inr hi)
        obtain ⟨u, h1, h2⟩ := results_run hf hz H3
        have hd' : Sd h n y.h y.n (Nat.lor y.r z.2) y.w k W k' W' := (Sd.trans ss hd (Ss.read y.h y.n z.2) (Sd.read H3) nn H).congr (fun _ => Iff.rfl) (fun i => ⟨fun h => (tb_or.1 h).resolve_right tb_zero, fun h => tb_or.2 (Or.inl h)⟩)
        cases hye : y.e with
        | normal => exact ⟨hf.df, u, h2, u, k', rfl, hd', h1⟩
        | ret => exact ⟨hf.df, u, h2, u, k', rfl, hd', h1⟩
        | _ => rw [hye] at he; cases he
    · cases e
  · cases e
/-- One thing behind another. -/
theorem then_ok {f : FT} {h : HT} {n : Nat} {x y z : RC} {a b : Code} (nn : ∀ i, n ≤ i → hget h i = none)
    (sa : Ss h n x.h x.n x.r x.w) (oka : ∀ (k : K) (W : World) (a' : Act) (Q : Exit → Act → World → Prop), FR k f a' → HR k h W x.r → (∀ i, n ≤ i → i < x.n → k i = none) → (∀ k' W' a', Sd h n x.h x.n x.r x.w k W k' W' → FR k' x.f a' → Q x.e a' W') → a.wp P Q a' W)
    (sb : Ss x.h x.n y.h y.n y.r y.w) (hz : z = ⟨y.e, y.f, y.h, y.n, Nat.lor x.r y.r, Nat.lor x.w y.w⟩) (he : x.e = .normal)
    {T : (Exit → Act → World → Prop) → Act → World → Prop} (okb : ∀ (k : K) (W : World) (a' : Act) (Q : Exit → Act → World → Prop), FR k x.f a' → HR k x.h W y.r → (∀ i, x.n ≤ i → i < y.n → k i = none) → (∀ k' W' a', Sd x.h x.n y.h y.n y.r y.w k W k' W' → FR k' y.f a' → Q y.e a' W') → T Q a' W) :
    Ss h n z.h z.n z.r z.w ∧ ∀ (k : K) (W : World) (a' : Act) (Q : Exit → Act → World → Prop), FR k f a' → HR k h W z.r → (∀ i, n ≤ i → i < z.n → k i = none) → (∀ k' W' a', Sd h n z.h z.n z.r z.w k W k' W' → FR k' z.f a' → Q z.e a' W') → a.wp P (Exit.then (T Q) Q) a' W := by
  have _ := b
  subst hz
  refine ⟨sa.trans sb, fun k W a' Q hf H hnew hk => ?_⟩
  refine oka k W a' _ hf (H.sub fun i hi => tb_or.2 (Or.inl hi)) (fun i h1 h2 => hnew i h1 (Nat.lt_of_lt_of_le h2 sb.le)) (fun k1 W1 a1 hd hf1 => ?_)
  rw [he]
  have H2 := Sd.next sa hd nn H
  refine okb k1 W1 a1 Q hf1 (H2.sub fun i hi => tb_or.2 (Or.inr hi)) (fun i h1 h2 => by rw [hd.dom i (Or.inr h1)]; exact hnew i (Nat.le_trans sa.le h1) h2) (fun k2 W2 a2 hd2 hf2 => hk k2 W2 a2 (Sd.trans sa hd sb hd2 nn H) hf2)
theorem thenC_some {x : Option RC} {g : FT → HT → Nat → Option RC} {z : RC} (e : thenC x g = some z) : ∃ y, x = some y ∧ ((y.e ≠ .normal ∧ z = y) ∨ (y.e = .normal ∧ ∃ u, g y.f y.h y.n = some u ∧ z = ⟨u.e, u.f, u.h, u.n, Nat.lor y.r u.r, Nat.lor y.w u.w⟩)) := by
  obtain ⟨y, hy, e⟩ := bind_some e
  refine ⟨y, hy, ?_⟩
  cases he : y.e with
  | normal =>
    rw [he] at e
    obtain ⟨u, hu, e⟩ := bind_some (x := g y.f y.h y.n) e
    rw [force_eq, force_eq] at e
    cases e
    exact Or.inr ⟨rfl, u, hu, rfl⟩
  | _ => rw [he] at e; cases e; exact Or.inl ⟨by simp, rfl⟩
theorem run_ok {tb' : List En} (ht : ∀ e ∈ tb', EnOk P e) (hmo : P.follows .mixedOrders = true) : ∀ fuel, Rn P (run P tb' fuel) ∧ ∀ c f h n x, (∀ i, n ≤ i → hget h i = none) → run P tb' fuel (.loop c) f h n = some x → Ss h n x.h x.n x.r x.w ∧
    ∀ (k : K) (W : World) (a : Act) (Q : Exit → Act → World → Prop), FR k f a → HR k h W x.r → (∀ i, n ≤ i → i < x.n → k i = none) → (∀ k' W' a', Sd h n x.h x.n x.r x.w k W k' W' → FR k' x.f a' → Q x.e a' W') → Code.rounds P c Q fuel a W := by
  intro fuel
  induction fuel with
  | zero => exact ⟨fun c f h n x _ e => (by cases e), fun c f h n x _ e => (by cases e)⟩
  | succ fuel ih =>
    obtain ⟨ih1, ih2⟩ := ih
    have lp : ∀ c f h n x, (∀ i, n ≤ i → hget h i = none) → run P tb' (fuel + 1) (.loop c) f h n = some x → Ss h n x.h x.n x.r x.w ∧
        ∀ (k : K) (W : World) (a : Act) (Q : Exit → Act → World → Prop), FR k f a → HR k h W x.r → (∀ i, n ≤ i → i < x.n → k i = none) → (∀ k' W' a', Sd h n x.h x.n x.r x.w k W k' W' → FR k' x.f a' → Q x.e a' W') → Code.rounds P c Q (fuel + 1) a W := by
      intro c f h n x nn e
      obtain ⟨y, hy, e'⟩ := thenC_some (show thenC (run P tb' fuel c f h n) (run P tb' fuel (.loop c)) = some x from e)
      obtain ⟨sa, oka⟩ := ih1 _ _ _ _ _ nn hy
      rcases e' with ⟨he, rfl⟩ | ⟨he, u, hu, hx⟩
      · refine ⟨sa, fun k W a Q hf H hnew hk => ?_⟩
        refine oka k W a _ hf H hnew (fun k' W' a' hd hf' => ?_)
        have := hk k' W' a' hd hf'
        cases hxe : x.e with
        | normal => exact absurd hxe he
        | _ => rw [hxe] at this; exact this
      · obtain ⟨sb, okb⟩ := ih2 _ _ _ _ _ (sa.nn nn) hu
        exact then_ok (b := .skip) nn sa oka sb hx he (T := fun Q => Code.rounds P c Q fuel) okb
    refine ⟨fun c f h n x nn e => ?_, lp⟩
    cases c with
    | skip => cases e; exact ⟨Ss.refl _ _, fun k W a Q hf _ _ hk => wp_skip (hk k W a (Sd.refl _ _ _ _) hf)⟩
    | label l => cases e; exact ⟨Ss.refl _ _, fun k W a Q hf _ _ hk => wp_label (hk k W a (Sd.refl _ _ _ _) hf)⟩
    | ret => cases e; exact ⟨Ss.refl _ _, fun k W a Q hf _ _ hk => wp_ret (hk k W a (Sd.refl _ _ _ _) hf)⟩
    | exit i => cases e; exact ⟨Ss.refl _ _, fun k W a Q hf _ _ hk => wp_exit (hk k W a (Sd.refl _ _ _ _) hf)⟩
    | seq c1 c2 =>
      obtain ⟨y, hy, e'⟩ := thenC_some (show thenC (run P tb' fuel c1 f h n) (run P tb' fuel c2) = some x from e)
      obtain ⟨sa, oka⟩ := ih1 _ _ _ _ _ nn hy
      rcases e' with ⟨he, rfl⟩ | ⟨he, u, hu, hx⟩
      · refine ⟨sa, fun k W a Q hf H hnew hk => wp_seq ?_⟩
        refine oka k W a _ hf H hnew (fun k' W' a' hd hf' => ?_)
        have := hk k' W' a' hd hf'
        cases hxe : x.e with
        | normal => exact absurd hxe he
        | _ => rw [hxe] at this; exact this
      · obtain ⟨sb, okb⟩ := ih1 _ _ _ _ _ (sa.nn nn) hu
        obtain ⟨s1, s2⟩ := then_ok (b := c2) nn sa oka sb hx he (T := fun Q => c2.wp P Q) okb
        exact ⟨s1, fun k W a Q hf H hnew hk => wp_seq (s2 k W a Q hf H hnew hk)⟩
    | cond c c1 c2 =>
      obtain ⟨t, ht, e'⟩ := onB_some (show onB (evo f c) (run P tb' fuel c1 f h n) (run P tb' fuel c2 f h n) = some x from e)
      have hc : ∀ (k : K) (a : Act), FR k f a → a.eval c = .bool t := fun k a hf => by
        have := hf.ev c; rw [ht] at this; exact this.bool_inv
      cases t with
      | true =>
        obtain ⟨sa, oka⟩ := ih1 _ _ _ _ _ nn e'
        exact ⟨sa, fun k W a Q hf H hnew hk => wp_cond_true (hc k a hf) (oka k W a Q hf H hnew hk)⟩
      | false =>
        obtain ⟨sa, oka⟩ := ih1 _ _ _ _ _ nn e'
        exact ⟨sa, fun k W a Q hf H hnew hk => wp_cond_false (hc k a hf) (oka k W a Q hf H hnew hk)⟩
    | block id c =>
      obtain ⟨y, hy, e'⟩ := bind_some (show (run P tb' fuel c f h n).bind (fun x => some ⟨outE id x.e, x.f, x.h, x.n, x.r, x.w⟩) = some x from e)
      cases e'
      obtain ⟨sa, oka⟩ := ih1 _ _ _ _ _ nn hy
      refine ⟨sa, fun k W a Q hf H hnew hk => wp_block (oka k W a _ hf H hnew fun k' W' a' hd hf' => ?_)⟩
      have := hk k' W' a' hd hf'
      cases hye : y.e with
      | exit i =>
        rw [hye] at this
        show if i = id then Q .normal a' W' else Q (.exit i) a' W'
        by_cases hid : i = id
        · have hb : Nat.beq i id = true := by rw [Nat.beq_eq]; exact hid
          simp only [outE, hb, cond_true] at this
          rw [if_pos hid]; exact this
        · have hb : Nat.beq i id = false := by rw [← Bool.not_eq_true, Nat.beq_eq]; exact hid
          simp only [outE, hb, cond_false] at this
          rw [if_neg hid]; exact this
      | _ => rw [hye] at this; exact this
    | loop c =>
      obtain ⟨s1, s2⟩ := lp c f h n x nn e
      exact ⟨s1, fun k W a Q hf H hnew hk => wp_loop_rounds (fuel + 1) (s2 k W a Q hf H hnew hk)⟩
    | region id ops draw =>
      obtain ⟨s, hs, e'⟩ := bind_some (show (opsL P (call P tb' (run P tb' fuel)) ops ops.toList ⟨f, h, n, 0, 0, []⟩).bind (fun s => bif !draw || (drawOk ops && drawn (bef ops) ops.size s.l) then some ⟨.normal, s.f, s.h, s.n, s.r, s.w⟩ else none) = some x from e)
      obtain ⟨hd, e'⟩ := bif_some e'
      cases e'
      have hcf := call_ok ht ih1
      cases draw with
      | false =>
        obtain ⟨r, w, h1, h2, ss, ok⟩ := list_ok hcf _ _ _ nn hs
        have hr : ∀ i, tb r i ↔ tb s.r i := fun i => by rw [h1]; exact ⟨Or.inr, fun h => h.resolve_left tb_zero⟩
        have hw : ∀ i, tb w i ↔ tb s.w i := fun i => by rw [h2]; exact ⟨Or.inr, fun h => h.resolve_left tb_zero⟩
        refine ⟨ss.congr hr hw, fun k W a Q hf H hnew hk => wp_region_list (ok k W a Q hf (H.sub fun i hi => (hr i).1 hi) hnew fun k' W' a' hd' hf' => hk k' W' a' (hd'.congr hr hw) hf')⟩
      | true =>
        simp only [Bool.not_true, Bool.false_or, Bool.and_eq_true] at hd
        obtain ⟨s1, s2⟩ := draw_ok hcf hmo nn rfl rfl rfl hs hd.1 hd.2
        exact ⟨s1, fun k W a Q hf H hnew hk => s2 k W a Q id hf H hnew hk⟩
    | rangeFunc _ _ _ _ => cases e
    | scope _ => cases e
    | goto _ => cases e
    | refuse _ => cases e
/-- What a call of such values comes to, in whatever world. -/
theorem closed {tb' : List En} (ht : ∀ e ∈ tb', EnOk P e) (hmo : P.follows .mixedOrders = true) {fuel f : Nat} {args : List Value} (ha : args.all cok1 = true) {x : R5} (e : call P tb' (run P tb' fuel) f args he12 0 = some x) (W : World) :
    (∀ a w, (callFunc f a).run P w = .ok (.enter f a) w) ∧ Calls P f args.toArray W fun r W' => ∃ u k', r = .returned u ∧ Sd he12 0 x.h x.n x.r x.w (fun _ => none) W k' W' ∧ VX k' x.v u := by
  obtain ⟨_, h2, h3⟩ := call_ok ht (run_ok ht hmo fuel).1 f args he12 0 x (fun i _ => hget_new i) e
  refine ⟨h2, h3 _ W args (cokL_vx ha) ⟨fun i _ cs h => ?_, fun i j _ _ hi => ?_⟩ (fun _ _ _ => rfl)⟩
  · rw [hget_new] at h; cases h
  · exact absurd hi (not_live (hget_new i))
theorem ok_true {x : Option R5} (h : isTrue x = true) : ∃ y, x = some y ∧ y.v = .bool true := by
  unfold isTrue at h
  split at h
  · rename_i y
    split at h
    · rename_i b hb; subst h; exact ⟨y, rfl, hb⟩
    · cases h
  · cases h
theorem apartL_spec : ∀ {l : List Nat}, apartL l = true → ∀ (i j a : Nat), l[i]? = some a → l[j]? = some a → i = j
  | [], _, _, _, _, h, _ => by cases h
  | x :: l, h, i, j, a, hi, hj => by
    simp only [apartL] at h
    cases hc : l.any (Nat.beq x) with
    | true => rw [hc] at h; cases h
    | false =>
      rw [hc] at h
      have hx : ∀ y ∈ l, x ≠ y := fun y hy e => by
        have := List.any_eq_false.1 hc y hy
        rw [Nat.beq_eq] at this
        exact this e
      cases i with
      | zero => cases j with
        | zero => rfl
        | succ j => simp at hi hj; subst hi; exact absurd rfl (hx x (List.mem_of_getElem? hj))
      | succ i => cases j with
        | zero => simp at hi hj; subst hj; exact absurd rfl (hx x (List.mem_of_getElem? hi))
        | succ j => simp at hi hj; rw [apartL_spec h i j a hi hj]
theorem blocksOk_spec {h : HT} {g : Nat → Nat} : ∀ {is : List Nat} {bs : List (List Value)}, blocksOk h g is bs = true → is.length = bs.length ∧ ∀ (j i : Nat) (b : List Value), is[j]? = some i → bs[j]? = some b → hget h i = some (sL g b)
  | [], [], _ => ⟨rfl, fun j i b h => by cases h⟩
  | [], _ :: _, e => by cases e
  | _ :: _, [], e => by cases e
  | i :: is, b :: bs, e => by
    simp only [blocksOk] at e
    cases hc : hget h i with
    | none => rw [hc] at e; cases e
    | some cs =>
      rw [hc] at e
      simp only at e
      cases hl : leq cs (sL g b) with
      | false => rw [hl] at e; cases e
      | true =>
        rw [hl] at e
        obtain ⟨h1, h2⟩ := blocksOk_spec (is := is) (bs := bs) e
        refine ⟨by simp [h1], fun j i' b' hi hb => ?_⟩
        cases j with
        | zero => simp at hi hb; subst hi; subst hb; rw [hc, leq_eq hl]
        | succ j => exact h2 j i' b' (by simpa using hi) (by simpa using hb)
/-- An entry out of a run. -/
theorem entry {tb' : List En} (ht : ∀ e ∈ tb', EnOk P e) (hmo : P.follows .mixedOrders = true) {fuel : Nat} {ids : List Nat} {e : En} (h : entOk (call P tb' (run P tb' fuel) e.f e.args he12 0) ids e = true) : EnOk P e := by
  unfold entOk at h
  split at h
  · rename_i x hx
    cases h1 : veq2 x.v (s2 (ix ids) e.v) with
    | false => rw [h1] at h; cases h
    | true =>
      rw [h1] at h
      cases h2 : (apartL ids && Nat.ble x.n 4096 && at2 e.v && e.bs.all (·.all at0) && e.args.all flat1) with
      | false => rw [h2] at h; cases h
      | true =>
        rw [h2] at h
        simp only [Bool.and_eq_true, Nat.ble_eq] at h2
        obtain ⟨⟨⟨⟨c1, c2⟩, c3⟩, c4⟩, c5⟩ := h2
        obtain ⟨l1, l2⟩ := blocksOk_spec h
        have hv := veq2_eq h1
        have hfl : e.args.all cok1 = true := by
          rw [List.all_eq_true] at c5 ⊢
          intro v hv
          have := c5 v hv
          cases v <;> first | rfl | cases this
        have cl := fun W => closed (fuel := fuel) ht hmo hfl hx W
        refine ⟨c3, fun b hb => List.all_eq_true.1 c4 b hb, c5, (cl default).1, fun W => (cl W).2.mono ?_⟩
        rintro r W' ⟨u, k', rfl, hd, hvx⟩
        have hnx : ∀ i, x.n ≤ i → k' i = none := fun i hi => hd.dom i (Or.inr hi)
        have hg : ∀ i p, k' (ix ids i) = some p → (fun i => k' (ix ids i)) i = some p := fun i p h => h
        have hlive : ∀ (j i : Nat) (b : List Value), ids[j]? = some i → e.bs[j]? = some b → tb (Nat.lor x.r x.w) i ∧ live x.h i := fun j i b hi hb => by
          have h3 := l2 j i b hi hb
          refine ⟨tb_or.2 (Or.inr ?_), ⟨_, h3⟩⟩
          refine Classical.byContradiction fun hn => ?_
          have h4 := (call_ok ht (run_ok ht hmo fuel).1 _ _ he12 0 x (fun i _ => hget_new i) hx).1.same i hn
          rw [h3, hget_new] at h4
          cases h4
        have hix : ∀ (j i : Nat), ids[j]? = some i → ix ids j = i := fun j i h => by unfold ix; rw [h]; rfl
        have hnone : ∀ i, e.bs.length ≤ i → k' (ix ids i) = none := fun i hi => by
          have : ix ids i = 4096 := by unfold ix; rw [List.getElem?_eq_none (by omega)]; rfl
          rw [this]; exact hnx 4096 c2
        have hgi : ∀ i : Nat, i < e.bs.length → ∃ a b, ids[i]? = some a ∧ e.bs[i]? = some b := fun i hi => ⟨ids[i], e.bs[i], by simp [l1, hi], by simp [hi]⟩
        have hsm : ∀ i p, k' (ix ids i) = some p → i < e.bs.length := fun i p hp => by
          rcases Nat.lt_or_ge i e.bs.length with h' | h'
          · exact h'
          · rw [hnone i h'] at hp; cases hp
        refine ⟨u, fun i => k' (ix ids i), rfl, r2 hg c3 (by rw [← hv]; exact hvx), hnone, fun i cs hcs => ?_, fun i j b z b' z' hne hb hb' => ?_, fun b hb => hd.frm b hb (fun j z _ hl => absurd hl (not_live (hget_new j))), hd.size, hd.os, hd.tape, hd.output, hd.fz⟩
        · have hi : i < e.bs.length := (List.getElem?_eq_some_iff.1 hcs).1
          obtain ⟨a, b0, ha, hb0⟩ := hgi i hi
          obtain ⟨ht1, hl1⟩ := hlive i a cs ha hcs
          obtain ⟨b, us, sp, ty, e1, e2, e3⟩ := hd.rep.rep a ht1 _ (l2 i a cs ha hcs)
          refine ⟨b, us, sp, ty, by show k' (ix ids i) = _; rw [hix i a ha]; exact e1, e2, rL hg (List.all_eq_true.1 c4 cs (List.mem_of_getElem? hcs)) e3, ?_⟩
          have han : a < x.n := by
            rcases Nat.lt_or_ge a x.n with h' | h'
            · exact h'
            · rw [hnx a h'] at e1; cases e1
          rcases hd.fresh a b _ (Nat.zero_le _) han hl1 e1 with h' | ⟨j, _, _, h', _⟩
          · exact h'
          · omega
        · have hi := hsm i _ hb
          have hj := hsm j _ hb'
          obtain ⟨a1, b1, ha1, hb1⟩ := hgi i hi
          obtain ⟨a2, b2, ha2, hb2⟩ := hgi j hj
          obtain ⟨t1, l1'⟩ := hlive i a1 b1 ha1 hb1
          obtain ⟨t2, l2'⟩ := hlive j a2 b2 ha2 hb2
          have hb3 : k' a1 = some (b, z) := by rw [← hix i a1 ha1]; exact hb
          have hb4 : k' a2 = some (b', z') := by rw [← hix j a2 ha2]; exact hb'
          exact hd.rep.inj a1 a2 t1 t2 l1' l2' (fun e => hne (apartL_spec c1 i j a1 ha1 (by rw [e]; exact ha2))) b z b' z' hb3 hb4
  · cases h
end
end E
end Go.Proofs.YtepfokoepibkcaaGreat
