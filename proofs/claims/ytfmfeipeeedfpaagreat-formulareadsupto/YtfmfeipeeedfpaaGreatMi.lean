/-
  Both tell the same: what is sorted behind, and what is put where it belongs. Two slices that hold the same; the law.
-/
import Derived.Test.YtfmfeipeeedfpaaGreatMh
import Derived.Test.YtfmfeipeeedfpaaGreatKf
namespace Go.Proofs.YtfmfeipeeedfpaaGreat
open S Go.Sort Go.Lib
/-- An order that parts whatever two that are not one. -/
structure Od {κ : Type} (lb : κ → κ → Bool) : Prop where
  irr : ∀ a, lb a a = false
  tr : ∀ a b c, lb a b = true → lb b c = true → lb a c = true
  tri : ∀ a b, lb a b = false → lb b a = false → a = b
theorem rise_ext {κ : Type} {lb : κ → κ → Bool} (O : Od lb) : ∀ (xs ys : List κ), xs.Pairwise (fun a b => lb a b = true) → ys.Pairwise (fun a b => lb a b = true) → (∀ x, x ∈ xs ↔ x ∈ ys) → xs = ys
  | [], [], _, _, _ => rfl
  | [], b :: ys, _, _, h => by have := (h b).2 (List.mem_cons_self ..); simp at this
  | a :: xs, [], _, _, h => by have := (h a).1 (List.mem_cons_self ..); simp at this
  | a :: xs, b :: ys, ha, hb, h => by
    rw [List.pairwise_cons] at ha hb
    have no : ∀ u v, lb u v = true → lb v u = true → False := fun u v h1 h2 => by have := O.tr u v u h1 h2; rw [O.irr u] at this; cases this
    have e : a = b := by
      rcases List.mem_cons.1 ((h a).1 (List.mem_cons_self ..)) with q | q
      · exact q
      · rcases List.mem_cons.1 ((h b).2 (List.mem_cons_self ..)) with q2 | q2
        · exact q2.symm
        · exact (no _ _ (hb.1 a q) (ha.1 b q2)).elim
    subst e
    congr 1
    refine rise_ext O xs ys ha.2 hb.2 (fun x => ⟨fun hx => ?_, fun hx => ?_⟩)
    · rcases List.mem_cons.1 ((h x).1 (List.mem_cons_of_mem _ hx)) with q | q
      · have := ha.1 x hx; rw [q, O.irr a] at this; cases this
      · exact q
    · rcases List.mem_cons.1 ((h x).2 (List.mem_cons_of_mem _ hx)) with q | q
      · have := hb.1 x hx; rw [q, O.irr a] at this; cases this
      · exact q
section
variable {κ : Type} [DecidableEq κ]
/-- The keys as they come. -/
def kyl (kx : Ex → Option κ) : Nat → Ex → List κ
  | 0, x => (kx x).toList
  | d + 1, x => (kx x).toList ++ x.a.flatMap (kyl kx d)
theorem gth_kyl (kx : Ex → Option κ) : ∀ (d : Nat) (x : Ex) (al : List (κ × Int)), gth kx d x al = (kyl kx d x).foldl stp al
  | 0, x, al => by unfold gth kyl one; cases kx x <;> rfl
  | d + 1, x, al => by
    have key : ∀ (l : List Ex) (s : List (κ × Int)), l.foldl (fun s y => gth kx d y s) s = (l.flatMap (kyl kx d)).foldl stp s := by
      intro l
      induction l with
      | nil => intro s; rfl
      | cons y l ih => intro s; rw [List.foldl_cons, List.flatMap_cons, List.foldl_append, gth_kyl kx d y s]; exact ih _
    show x.a.foldl (fun s y => gth kx d y s) (one kx x al) = ((kx x).toList ++ x.a.flatMap (kyl kx d)).foldl stp al
    rw [List.foldl_append, key]
    congr 1
    unfold one
    cases kx x <;> rfl
theorem gtD_kyl (kx : Ex → Option κ) (lb : κ → κ → Bool) : ∀ (d : Nat) (x : Ex) (L : List κ), gtD kx lb d x L = (kyl kx d x).foldl (insL lb) L
  | 0, x, L => by unfold gtD kyl oneD; cases kx x <;> rfl
  | d + 1, x, L => by
    have key : ∀ (l : List Ex) (s : List κ), l.foldl (fun s y => gtD kx lb d y s) s = (l.flatMap (kyl kx d)).foldl (insL lb) s := by
      intro l
      induction l with
      | nil => intro s; rfl
      | cons y l ih => intro s; rw [List.foldl_cons, List.flatMap_cons, List.foldl_append, gtD_kyl kx lb d y s]; exact ih _
    show x.a.foldl (fun s y => gtD kx lb d y s) (oneD kx lb x L) = ((kx x).toList ++ x.a.flatMap (kyl kx d)).foldl (insL lb) L
    rw [List.foldl_append, key]
    congr 1
    unfold oneD
    cases kx x <;> rfl
theorem lkq_iff : ∀ (al : List (κ × Int)) (a : κ), (lkq al a).isSome = true ↔ a ∈ al.map Prod.fst
  | [], a => by simp [lkq]
  | (b, u) :: r, a => by
    by_cases e : b = a
    · simp [lkq, e]
    · simp only [lkq, if_neg e, List.map_cons, List.mem_cons, lkq_iff r a]
      exact ⟨Or.inr, fun h => h.resolve_left (fun h => e h.symm)⟩
theorem keys_spec (ks : List κ) : ∀ al : List (κ × Int), (al.map Prod.fst).Nodup → ((ks.foldl stp al).map Prod.fst).Nodup ∧ ∀ a, a ∈ (ks.foldl stp al).map Prod.fst ↔ a ∈ al.map Prod.fst ∨ a ∈ ks := by
  induction ks with
  | nil => intro al h; exact ⟨h, fun a => by simp⟩
  | cons k ks ih =>
    intro al h
    have hf := putq_fst al k (nof al k + 1)
    have hn : ((stp al k).map Prod.fst).Nodup ∧ ∀ a, a ∈ (stp al k).map Prod.fst ↔ a ∈ al.map Prod.fst ∨ a = k := by
      show ((putq al k (nof al k + 1)).map Prod.fst).Nodup ∧ ∀ a, a ∈ (putq al k (nof al k + 1)).map Prod.fst ↔ _
      rw [hf]
      split
      · rename_i hs
        have := (lkq_iff al k).1 hs
        exact ⟨h, fun a => ⟨Or.inl, fun e => e.elim id (fun e => e ▸ this)⟩⟩
      · rename_i hs
        have hk : k ∉ al.map Prod.fst := fun e => hs ((lkq_iff al k).2 e)
        refine ⟨List.nodup_append.2 ⟨h, by simp, fun a ha b hb e => hk (by simp at hb; rw [← hb, ← e]; exact ha)⟩, fun a => by rw [List.mem_append, List.mem_singleton]⟩
    obtain ⟨h1, h2⟩ := ih (stp al k) hn.1
    refine ⟨h1, fun a => ?_⟩
    rw [List.foldl_cons, h2 a, hn.2 a, List.mem_cons, or_assoc]
theorem insL_cons (lb : κ → κ → Bool) (a : κ) (L : List κ) (s : κ) : insL lb (a :: L) s = bif lb a s then a :: insL lb L s else if a = s then a :: L else s :: a :: L := by
  unfold insL
  cases h : lb a s with
  | true =>
    simp only [cntL, h, cond_true, List.getElem?_cons_succ, List.take_succ_cons, List.drop_succ_cons, List.cons_append]
    split <;> rfl
  | false =>
    simp only [cntL, h, cond_false, List.getElem?_cons_zero, List.take_zero, List.drop_zero, List.nil_append, Option.some.injEq]
variable {lb : κ → κ → Bool}
theorem insL_spec (O : Od lb) (s : κ) : ∀ L : List κ, L.Pairwise (fun a b => lb a b = true) → (insL lb L s).Pairwise (fun a b => lb a b = true) ∧ ∀ a, a ∈ insL lb L s ↔ a ∈ L ∨ a = s
  | [], _ => by
    have : insL lb ([] : List κ) s = [s] := rfl
    rw [this]
    exact ⟨by simp, fun a => by simp⟩
  | b :: L, h => by
    rw [insL_cons]
    have h' := List.pairwise_cons.1 h
    cases hb : lb b s with
    | true =>
      obtain ⟨i1, i2⟩ := insL_spec O s L h'.2
      simp only [cond_true]
      refine ⟨List.pairwise_cons.2 ⟨fun a ha => ?_, i1⟩, fun a => by rw [List.mem_cons, i2 a, List.mem_cons, or_assoc]⟩
      rcases (i2 a).1 ha with ha | rfl
      · exact h'.1 a ha
      · exact hb
    | false =>
      simp only [cond_false]
      split
      · rename_i e
        subst e
        exact ⟨h, fun a => ⟨Or.inl, fun g => g.elim id (fun g => by rw [g]; exact List.mem_cons_self ..)⟩⟩
      · rename_i e
        have hsb : lb s b = true := by
          cases g : lb s b with
          | true => rfl
          | false => exact absurd (O.tri b s hb g) e
        refine ⟨List.pairwise_cons.2 ⟨fun a ha => ?_, h⟩, fun a => by rw [List.mem_cons]; exact ⟨fun g => g.symm, fun g => g.symm⟩⟩
        rcases List.mem_cons.1 ha with rfl | ha
        · exact hsb
        · exact O.tr s b a hsb (h'.1 a ha)
theorem fold_spec (O : Od lb) (ks : List κ) : ∀ L : List κ, L.Pairwise (fun a b => lb a b = true) → (ks.foldl (insL lb) L).Pairwise (fun a b => lb a b = true) ∧ ∀ a, a ∈ ks.foldl (insL lb) L ↔ a ∈ L ∨ a ∈ ks := by
  induction ks with
  | nil => intro L h; exact ⟨h, fun a => by simp⟩
  | cons k ks ih =>
    intro L h
    obtain ⟨i1, i2⟩ := insL_spec O k L h
    obtain ⟨j1, j2⟩ := ih _ i1
    exact ⟨j1, fun a => by rw [List.foldl_cons, j2 a, i2 a, List.mem_cons, or_assoc]⟩
/-- A list that is a sorted one of all keys is the one in which each was put where it belongs. -/
theorem same_keys (O : Od lb) (kx : Ex → Option κ) (d : Nat) (x : Ex) (M : List κ) (hp : M.Perm ((gth kx d x []).map Prod.fst)) (hs : M.Pairwise (fun a b => lb b a = false)) : M = gtD kx lb d x [] := by
  rw [gth_kyl] at hp
  rw [gtD_kyl]
  obtain ⟨k1, k2⟩ := keys_spec (kyl kx d x) [] (by simp)
  obtain ⟨f1, f2⟩ := fold_spec O (kyl kx d x) [] List.Pairwise.nil
  have hn : M.Nodup := hp.nodup_iff.2 k1
  refine rise_ext O _ _ ?_ f1 (fun a => ?_)
  · refine (hs.and hn).imp ?_
    intro a b ⟨h1, h2⟩
    cases g : lb a b with
    | true => rfl
    | false => exact absurd (O.tri a b g h1) h2
  · rw [hp.mem_iff, k2 a, f2 a]
    simp
end
theorem od_s : Od ltb := ⟨fun a => ltb_f.2 (lts_irr a), fun _ _ _ h g => ltb_t.2 (lts_trans (ltb_t.1 h) (ltb_t.1 g)), fun _ _ h g => lts_tri (ltb_f.1 h) (ltb_f.1 g)⟩
theorem ltcb_f {p q : CK} : ltcb p q = false ↔ ¬ ltc p q := by
  rw [← ltcb_t]; cases ltcb p q <;> simp
theorem od_c : Od ltcb := ⟨fun a => ltcb_f.2 (ltc_irr a), fun _ _ _ h g => ltcb_t.2 (ltc_trans (ltcb_t.1 h) (ltcb_t.1 g)), fun _ _ h g => ltc_tri (ltcb_f.1 h) (ltcb_f.1 g)⟩
theorem same_c (d : Nat) (x : Ex) : srtC (ksC d x) = gtD kxC ltcb d x [] :=
  same_keys od_c kxC d x _ (srtC_spec _).1 ((srtC_spec _).2.imp fun h => ltcb_f.2 h)
theorem srt_spec (L : List ByteArray) : (srt L).Perm L ∧ (srt L).Pairwise (fun a b => ltb b a = false) := by
  have hp := List.mergeSort_perm (L.map (·.data.toList)) (fun x y => decide (x ≤ y))
  have hs : ((L.map (·.data.toList)).mergeSort (fun x y => decide (x ≤ y))).Pairwise (fun x y => decide (x ≤ y) = true) := by
    refine List.pairwise_mergeSort (fun a b c h1 h2 => ?_) (fun a b => ?_) _
    · rw [decide_eq_true_iff] at h1 h2 ⊢
      have h1 : ¬ b < a := h1
      have h2 : ¬ c < b := h2
      show ¬ c < a
      have := swo_ltStr.ntrans c b a ((ltStr_not _ _).2 h2) ((ltStr_not _ _).2 h1)
      exact (ltStr_not _ _).1 this
    · rw [Bool.or_eq_true, decide_eq_true_iff, decide_eq_true_iff]
      by_cases h : b < a
      · refine Or.inr (show ¬ a < b from fun g => ?_)
        have := swo_ltStr.trans a b a ((ltStr_iff _ _).2 g) ((ltStr_iff _ _).2 h)
        rw [swo_ltStr.irrefl] at this; cases this
      · exact Or.inl h
  constructor
  · have := hp.map fun l => (⟨l.toArray⟩ : ByteArray)
    rw [List.map_map] at this
    have e : (L.map ((fun l => (⟨l.toArray⟩ : ByteArray)) ∘ fun x => x.data.toList)) = L := by
      conv => rhs; rw [← List.map_id L]
      refine List.map_congr_left fun a _ => ?_
      simp
    rw [e] at this
    exact this
  · unfold srt
    rw [List.pairwise_map]
    refine hs.imp fun {a b} h => ?_
    rw [decide_eq_true_iff] at h
    have h : ¬ b < a := h
    rw [ltb_f]
    show ¬ (b.toArray.toList < a.toArray.toList)
    simpa using h
theorem same_s (d : Nat) (x : Ex) : srt (ksN d x) = gtD kxN ltb d x [] := same_keys od_s kxN d x _ (srt_spec _).1 (srt_spec _).2
end Go.Proofs.YtfmfeipeeedfpaaGreat
namespace Go.Proofs.YtfmfeipeeedfpaaGreat
open S Go.Sort Go.Lib
abbrev h2 (cells : List Value) : HT := [(0 + 4096, none), (0, some (cells.map rel1)), (1 + 4096, none), (1, some (cells.map rel1))]
set_option maxRecDepth 20000 in
theorem eqs_1 (X : World) (L : List ByteArray) (hb : L.length ≤ 1000000000) : Ctr Tryz.prog X 16 [.slice (some ⟨0, 0, none⟩) L.length 1, .slice (some ⟨1, 0, none⟩) L.length 1] (h2 (sv L)) 2 2 litT (h2 (sv L)) 2 := by
  refine fn_c _ Tryz.func16 rfl rfl rfl rfl (fun w l X' hX => run_ok (st mo ?_))
  refine st mo (st mo ⟨fun h => absurd rfl h, fun _ => st mo (st mo ?_)⟩)
  refine w_loop (fun i : Nat => ⟨⟨26, [(0, .slice (some ⟨0, 0, none⟩) L.length 1), (1, .slice (some ⟨1, 0, none⟩) L.length 1), (12, .int .i64 (L.length : Int)), (13, .int .i64 (i : Int))]⟩, h2 (sv L), 2, X'⟩) (fun i => i ≤ L.length) (fun i => L.length - i) 0 (Nat.zero_le _) [0, 1] ⟨rfl, ⟨fs, fs, fv, fv, trivial⟩, ⟨trivial, flr rfl, trivial, flr rfl, trivial⟩, xf, rfl, rfl⟩ ?_
  intro i hi
  refine st mo ⟨fun hlt => ?_, fun hge => ?_⟩
  · have hil : i < L.length := by omega
    obtain ⟨a, ha⟩ : ∃ a, L[i]? = some a := ⟨_, List.getElem?_eq_getElem hil⟩
    refine st mo ⟨i, rfl, hil, st mo ⟨.string a, sv_at ha, st mo ⟨i, rfl, hil, st mo ⟨.string a, sv_at ha, st mo ⟨fun h => absurd rfl h, fun _ => st mo ⟨dk, st mo ⟨_, wz (i + 1) rfl, st mo ?_⟩⟩⟩⟩⟩⟩⟩
    exact ⟨i + 1, hil, by dsimp; omega, [0, 1], rfl, ⟨fs, fs, fv, fv, trivial⟩, ⟨trivial, flr rfl, trivial, flr rfl, trivial⟩, xf, rfl, rfl⟩
  · refine st mo (st mo ?_)
    exact ⟨rfl, [0, 1], fv, ⟨trivial, flr rfl, trivial, flr rfl, trivial⟩, rfl, rfl⟩
set_option maxRecDepth 20000 in
theorem eqs_0 (w : World) : Calls Tryz.prog 16 #[.slice none 0 0, .slice none 0 0] w fun e W => e = .returned (.bool true) ∧ Mb w W := by
  refine fn_pure [.slice none 0 0, .slice none 0 0] Tryz.func16 rfl rfl rfl (run_ok (st mo (st mo (st mo ⟨fun h => absurd rfl h, fun _ => st mo (st mo ?_)⟩))))
  refine w_loop (fun _ : Nat => ⟨⟨26, [(12, .int .i64 0), (13, .int .i64 0)]⟩, [], 0, w⟩) (fun _ => True) (fun _ => 0) 0 trivial [] ⟨rfl, ⟨fv, fv, trivial⟩, trivial, xf, rfl, rfl⟩ ?_
  intro i _
  refine st mo ⟨fun h => absurd h (by omega), fun _ => st mo (st mo rfl)⟩
set_option maxRecDepth 20000 in
theorem eqc_1 (X : World) (L : List CK) (hb : L.length ≤ 1000000000) : Ctr Tryz.prog X 19 [.slice (some ⟨0, 0, none⟩) L.length 2, .slice (some ⟨1, 0, none⟩) L.length 2] (h2 (cv L)) 2 2 litT (h2 (cv L)) 2 := by
  refine fn_c _ Tryz.func19 rfl rfl rfl rfl (fun w l X' hX => run_ok (st mo ?_))
  refine st mo (st mo ⟨fun h => absurd rfl h, fun _ => st mo (st mo ?_)⟩)
  refine w_loop (fun i : Nat => ⟨⟨26, [(0, .slice (some ⟨0, 0, none⟩) L.length 2), (1, .slice (some ⟨1, 0, none⟩) L.length 2), (12, .int .i64 (L.length : Int)), (13, .int .i64 (i : Int))]⟩, h2 (cv L), 2, X'⟩) (fun i => i ≤ L.length) (fun i => L.length - i) 0 (Nat.zero_le _) [0, 1] ⟨rfl, ⟨fs, fs, fv, fv, trivial⟩, ⟨trivial, flr rfl, trivial, flr rfl, trivial⟩, xf, rfl, rfl⟩ ?_
  intro i hi
  refine st mo ⟨fun hlt => ?_, fun hge => ?_⟩
  · have hil : i < L.length := by omega
    obtain ⟨a, ha⟩ : ∃ a, L[i]? = some a := ⟨_, List.getElem?_eq_getElem hil⟩
    refine st mo ⟨i, rfl, hil, st mo ⟨_, cv_row ha, rfl, Or.inl (st mo ⟨i, rfl, hil, st mo ⟨_, cv_row ha, rfl, Or.inl (st mo ?_)⟩⟩)⟩⟩
    refine ⟨_, r_ne a a, fun h => ?_, fun _ => st mo ⟨dk, st mo ⟨_, wz (i + 1) rfl, st mo ?_⟩⟩⟩
    · rw [decide_eq_true rfl] at h; cases h
    · exact ⟨i + 1, hil, by dsimp; omega, [0, 1], rfl, ⟨fs, fs, fv, fv, trivial⟩, ⟨trivial, flr rfl, trivial, flr rfl, trivial⟩, xf, rfl, rfl⟩
  · refine st mo (st mo ?_)
    exact ⟨rfl, [0, 1], fv, ⟨trivial, flr rfl, trivial, flr rfl, trivial⟩, rfl, rfl⟩
set_option maxRecDepth 20000 in
theorem eqc_0 (w : World) : Calls Tryz.prog 19 #[.slice none 0 0, .slice none 0 0] w fun e W => e = .returned (.bool true) ∧ Mb w W := by
  refine fn_pure [.slice none 0 0, .slice none 0 0] Tryz.func19 rfl rfl rfl (run_ok (st mo (st mo (st mo ⟨fun h => absurd rfl h, fun _ => st mo (st mo ?_)⟩))))
  refine w_loop (fun _ : Nat => ⟨⟨26, [(12, .int .i64 0), (13, .int .i64 0)]⟩, [], 0, w⟩) (fun _ => True) (fun _ => 0) 0 trivial [] ⟨rfl, ⟨fv, fv, trivial⟩, trivial, xf, rfl, rfl⟩ ?_
  intro i _
  refine st mo ⟨fun h => absurd h (by omega), fun _ => st mo (st mo rfl)⟩
theorem t_live (w : World) : Calls Tryz.prog 11 #[] w fun e W => e = .returned (.bool true) ∧ Mb w W := (E.lv w).mono (by
  rintro e W ⟨rfl, h1, h2, h3, h4, h5, _⟩
  exact ⟨rfl, ⟨h2, h3.1, h4, h1, h5⟩, h3.2⟩)
end Go.Proofs.YtfmfeipeeedfpaaGreat
