/-
  Columns, as the document tells them. Columns, as the document tells them: one put where it belongs. Both tell the same: what is sorted behind, and what is put where it belongs. Two slices that hold the same; the law. The law FormulaReads. What Eval reads of an environment; calls that are handed maps of one's own. The law FormulaOnly.
-/
import Derived.Test.YtfmfeipeeedfpaaGreatKf
namespace Go.Proofs.YtfmfeipeeedfpaaGreat
open S Go.Sort Go.Lib
def hK1 (L : List CK) : HT := match L with
  | [] => []
  | _ :: _ => [(1 + 4096, none), (1, some ((cv L).map rel1))]
def nK1 (L : List CK) : Nat := match L with
  | [] => 1
  | _ :: _ => 2
abbrev TC (x : Ex) (L : List CK) (X : World) : St := ⟨⟨68, [(1, lvK 1 L), (2, p0 0)]⟩, (0, some (x.c.map rel1)) :: hK1 L, nK1 L, X⟩
def CaC (d : Nat) : Prop := ∀ (X : World) (x : Ex) (L : List CK), LT X d x → L.length + nds d x ≤ 1000000000 → Ctr Tryz.prog X 57 [.agg (x.c.map rel1).toArray, lvK 0 L] (hSc L) (nSc L) 0 (lvK 0 (gtD kxC ltcb d x L)) (hSc (gtD kxC ltcb d x L)) (nSc (gtD kxC ltcb d x L))
set_option maxRecDepth 20000 in
theorem col_t {d : Nat} (ih : ∀ d', d' + 1 = d → CaC d') {w : World} {l : Nat → Nat × Nat} {X : World} {x : Ex} {L : List CK} (hL : LT X d x) (hb : L.length + x.a.foldl (fun n y => n + nds (d - 1) y) 0 ≤ 1000000000) :
    Rn Tryz.prog ⟨w, 0, l⟩ (retC Tryz.prog Tryz.f57 X 0 (lvK 0 (x.a.foldl (fun s y => gtD kxC ltcb (d - 1) y s) L)) (hSc (x.a.foldl (fun s y => gtD kxC ltcb (d - 1) y s) L)) (nSc (x.a.foldl (fun s y => gtD kxC ltcb (d - 1) y s) L))) (cf (TC x L X) [co (sndC (sndC (Tryz.f57.body.getD .skip)))]) := by
  have hlen := hL.len
  have start : ∀ M : List CK, ∃ σ, Fit 0 ⟨⟨68, (8, .int .i64 0) :: [(1, lvK 1 M), (2, p0 0)]⟩, (0, some (x.c.map rel1)) :: hK1 M, nK1 M, X⟩ ⟨⟨68, [(1, lvK 1 M), (2, p0 0), (8, .int .i64 ((0 : Nat) : Int))]⟩, (0, some (x.c.map rel1)) :: hK1 M, nK1 M, X⟩ σ := by
    intro M
    rcases M with _ | ⟨m, M⟩
    · exact ⟨[0], rfl, ⟨fv, fp, fv, trivial⟩, ⟨flr rfl, trivial⟩, xf, rfl, rfl⟩
    · exact ⟨[0, 1], rfl, ⟨fs, fp, fv, trivial⟩, ⟨flr rfl, trivial, flr rfl, trivial⟩, xf, rfl, rfl⟩
  obtain ⟨σ0, F0⟩ := start L
  refine st mo ?_
  refine w_loop (fun i : Nat => ⟨⟨68, [(1, lvK 1 ((x.a.take i).foldl (fun s y => gtD kxC ltcb (d - 1) y s) L)), (2, p0 0), (8, .int .i64 (i : Int))]⟩, (0, some (x.c.map rel1)) :: hK1 ((x.a.take i).foldl (fun s y => gtD kxC ltcb (d - 1) y s) L), nK1 ((x.a.take i).foldl (fun s y => gtD kxC ltcb (d - 1) y s) L), X⟩)
    (fun i => i ≤ x.a.length ∧ ((x.a.take i).foldl (fun s y => gtD kxC ltcb (d - 1) y s) L).length ≤ L.length + (x.a.take i).foldl (fun n y => n + nds (d - 1) y) 0) (fun i => x.a.length - i) 0 ⟨by omega, by simp⟩ σ0 F0 ?_
  intro i ⟨hi, hli⟩
  generalize hal : (x.a.take i).foldl (fun s y => gtD kxC ltcb (d - 1) y s) L = M at hli ⊢
  by_cases hil : i < x.a.length
  · obtain ⟨y, hy⟩ : ∃ y, x.a[i]? = some y := ⟨_, List.getElem?_eq_getElem hil⟩
    cases d with
    | zero => rw [show x.a = [] from hL] at hy; cases hy
    | succ d =>
    obtain ⟨⟨b, o, h4, h5⟩, h8⟩ := hL.at hy
    have hstep : (x.a.take (i + 1)).foldl (fun n y => n + nds d y) 0 = (x.a.take i).foldl (fun n y => n + nds d y) 0 + nds d y := by rw [List.take_add_one, hy, List.foldl_append]; rfl
    have hmono : (x.a.take (i + 1)).foldl (fun n y => n + nds d y) 0 ≤ x.a.foldl (fun n y => n + nds d y) 0 := by
      have := fold_nds (d := d) (x.a.drop (i + 1)) ((x.a.take (i + 1)).foldl (fun n y => n + nds d y) 0)
      rw [← List.foldl_append, List.take_append_drop] at this
      omega
    have hb' : L.length + x.a.foldl (fun n y => n + nds d y) 0 ≤ 1000000000 := hb
    have hli : M.length ≤ L.length + (x.a.take i).foldl (fun n y => n + nds d y) 0 := hli
    have g := ih d rfl X y M h8 (by omega)
    have gl := gtD_len kxC ltcb d y M
    have hal2 : gtD kxC ltcb d y M = (x.a.take (i + 1)).foldl (fun s y => gtD kxC ltcb d y s) L := by rw [List.take_add_one, hy, List.foldl_append, ← hal]; rfl
    have hpre : i + 1 ≤ x.a.length ∧ ((x.a.take (i + 1)).foldl (fun s y => gtD kxC ltcb d y s) L).length ≤ L.length + (x.a.take (i + 1)).foldl (fun n y => n + nds d y) 0 := ⟨hil, by rw [← hal2, hstep]; omega⟩
    generalize gtD kxC ltcb d y M = N at g gl hal2
    rcases M with _ | ⟨m, M⟩
    · rcases N with _ | ⟨q, N⟩
      · refine st mo (st mo ⟨fun hlt => st mo ⟨b, o, i, h4, rfl, hil, st mo ⟨y.c, rfl, h5, st mo ?_⟩⟩, fun hge => absurd hge (by omega)⟩)
        refine ⟨_, fun nn => r_c (tc := .slice none 0 0) [] [] [] rfl rfl g (by exact fitL_cons fv (fitL_cons fv rfl)) trivial uv trivial, st mo ⟨_, wz (i + 1) rfl, st mo ?_⟩⟩
        refine ⟨i + 1, hpre, by dsimp; omega, [0], ?_⟩
        show Fit 0 _ ⟨⟨68, [(1, lvK 1 ((x.a.take (i + 1)).foldl (fun s y => gtD kxC ltcb d y s) L)), (2, p0 0), (8, .int .i64 ((i + 1 : Nat) : Int))]⟩, (0, some (x.c.map rel1)) :: hK1 ((x.a.take (i + 1)).foldl (fun s y => gtD kxC ltcb d y s) L), nK1 ((x.a.take (i + 1)).foldl (fun s y => gtD kxC ltcb d y s) L), X⟩ _
        rw [← hal2]
        exact ⟨rfl, ⟨fv, fp, fv, trivial⟩, ⟨flr rfl, trivial⟩, xf, rfl, rfl⟩
      · refine st mo (st mo ⟨fun hlt => st mo ⟨b, o, i, h4, rfl, hil, st mo ⟨y.c, rfl, h5, st mo ?_⟩⟩, fun hge => absurd hge (by omega)⟩)
        refine ⟨_, fun nn => r_c (tc := .slice (some ⟨1, 0, none⟩) (N.length + 1) 2) [] [some ((cv (q :: N)).map rel1)] [1] rfl rfl g (by exact fitL_cons fv (fitL_cons fv rfl)) trivial us ⟨ulr rfl, trivial⟩, st mo ⟨_, wz (i + 1) rfl, st mo ?_⟩⟩
        refine ⟨i + 1, hpre, by dsimp; omega, [0, 1], ?_⟩
        show Fit 0 _ ⟨⟨68, [(1, lvK 1 ((x.a.take (i + 1)).foldl (fun s y => gtD kxC ltcb d y s) L)), (2, p0 0), (8, .int .i64 ((i + 1 : Nat) : Int))]⟩, (0, some (x.c.map rel1)) :: hK1 ((x.a.take (i + 1)).foldl (fun s y => gtD kxC ltcb d y s) L), nK1 ((x.a.take (i + 1)).foldl (fun s y => gtD kxC ltcb d y s) L), X⟩ _
        rw [← hal2]
        exact ⟨rfl, ⟨fs, fp, fv, trivial⟩, ⟨flr rfl, trivial, flr rfl, trivial⟩, xf, rfl, rfl⟩
    · rcases N with _ | ⟨q, N⟩
      · exact absurd gl.2 (by simp)
      · refine st mo (st mo ⟨fun hlt => st mo ⟨b, o, i, h4, rfl, hil, st mo ⟨y.c, rfl, h5, st mo ?_⟩⟩, fun hge => absurd hge (by omega)⟩)
        refine ⟨_, fun nn => r_c (tc := .slice (some ⟨2, 0, none⟩) (N.length + 1) 2) [1] [some ((cv (q :: N)).map rel1)] [2] rfl rfl g (by exact fitL_cons fv (fitL_cons fs rfl)) ⟨trivial, flr rfl, trivial⟩ us ⟨ulr rfl, trivial⟩, st mo ⟨_, wz (i + 1) rfl, st mo ?_⟩⟩
        refine ⟨i + 1, hpre, by dsimp; omega, [0, 2], ?_⟩
        show Fit 0 _ ⟨⟨68, [(1, lvK 1 ((x.a.take (i + 1)).foldl (fun s y => gtD kxC ltcb d y s) L)), (2, p0 0), (8, .int .i64 ((i + 1 : Nat) : Int))]⟩, (0, some (x.c.map rel1)) :: hK1 ((x.a.take (i + 1)).foldl (fun s y => gtD kxC ltcb d y s) L), nK1 ((x.a.take (i + 1)).foldl (fun s y => gtD kxC ltcb d y s) L), X⟩ _
        rw [← hal2]
        exact ⟨rfl, ⟨fs, fp, fv, trivial⟩, ⟨flr rfl, trivial, flr rfl, trivial⟩, xf, rfl, rfl⟩
  · have : i = x.a.length := by omega
    subst this
    rw [List.take_length] at hal
    rw [hal]
    rcases M with _ | ⟨m, M⟩
    · refine st mo (st mo ⟨fun hlt => absurd hlt (by omega), fun hge => st mo (st mo ?_)⟩)
      exact ⟨rfl, [], fv, trivial, rfl, rfl⟩
    · refine st mo (st mo ⟨fun hlt => absurd hlt (by omega), fun hge => st mo (st mo ?_)⟩)
      exact ⟨rfl, [1], fs, ⟨trivial, flr rfl, trivial⟩, rfl, rfl⟩
theorem one_cv : ∀ L : List CK, allOne ((cv L).map rel1) = true
  | [] => rfl
  | a :: L => by simp only [cv, List.flatMap_cons, List.map_append]; exact one_cv L
theorem cv_row : ∀ {L : List CK} {k : Nat} {a : CK}, L[k]? = some a → (((cv L).map rel1).drop (k * 2)).take 2 = [.string a.1, .string a.2]
  | [], k, a, h => by cases h
  | b :: L, 0, a, h => by simp at h; subst h; rfl
  | b :: L, k + 1, a, h => by
    have := cv_row (L := L) (k := k) (a := a) (by simpa using h)
    rw [show (k + 1) * 2 = 2 + k * 2 by omega, ← List.drop_drop]
    exact this
theorem cv_take (L : List CK) (k : Nat) (h : k ≤ L.length) : (cv (L.take k)).map rel1 = (((cv L).map rel1).drop 0).take (k * 2) ∧ ((cv (L.take k)).map rel1).length = k * 2 := by
  have h2 : ((cv (L.take k)).map rel1).length = k * 2 := by rw [List.length_map, cv_len, List.length_take]; omega
  refine ⟨?_, h2⟩
  have : (cv L).map rel1 = (cv (L.take k)).map rel1 ++ (cv (L.drop k)).map rel1 := by
    rw [← List.map_append]; congr 1
    show cv L = List.flatMap ec (L.take k) ++ List.flatMap ec (L.drop k)
    rw [← List.flatMap_append, List.take_append_drop]
  rw [List.drop_zero, this, List.take_left' h2]
theorem cv_drop (L : List CK) (k : Nat) (h : k ≤ L.length) : (cv (L.drop k)).map rel1 = (((cv L).map rel1).drop (0 + k * 2)).take ((L.length - k) * 2) ∧ ((cv (L.drop k)).map rel1).length = (L.length - k) * 2 := by
  have h2 : ((cv (L.take k)).map rel1).length = k * 2 := by rw [List.length_map, cv_len, List.length_take]; omega
  have h3 : ((cv (L.drop k)).map rel1).length = (L.length - k) * 2 := by rw [List.length_map, cv_len, List.length_drop]
  refine ⟨?_, h3⟩
  have : (cv L).map rel1 = (cv (L.take k)).map rel1 ++ (cv (L.drop k)).map rel1 := by
    rw [← List.map_append]; congr 1
    show cv L = List.flatMap ec (L.take k) ++ List.flatMap ec (L.drop k)
    rw [← List.flatMap_append, List.take_append_drop]
  rw [Nat.zero_add, this, List.drop_left' h2, List.take_of_length_le (by rw [h3]; exact Nat.le_refl _)]
end Go.Proofs.YtfmfeipeeedfpaaGreat
namespace Go.Proofs.YtfmfeipeeedfpaaGreat
open S Go.Sort Go.Lib
set_option maxRecDepth 20000 in
theorem col_s {d : Nat} (ih : ∀ d', d' + 1 = d → CaC d') : CaC d := fun X x L hL hb => by
  rw [gtD_eq kxC ltcb hL L]
  have hb1 := hb
  rw [nds_eq hL] at hb1
  by_cases hk : x.k = 10
  · have e1 : oneD kxC ltcb x L = insL ltcb L (colK x) := by unfold oneD kxC; rw [if_pos hk]
    rw [e1]
    have hil := insL_len ltcb L (colK x)
    rcases L with _ | ⟨q, L⟩
    · have e2 : insL ltcb ([] : List CK) (colK x) = [colK x] := rfl
      rw [e2]
      refine fn_c _ Tryz.func57 rfl rfl rfl rfl (fun w l X' hX => run_ok (st mo ?_))
      have tl := col_t (w := w) (l := l) ih (L := [colK x]) (hL.mono (xcell hX)) (by simp at hb1 ⊢; omega)
      refine ⟨fun _ => st mo ?_, fun h => absurd hk h⟩
      refine ⟨_, fun nn => r_call (t := es53 (colK x)) rfl rfl Tryz.func34 (fun W M E => t_key x W), st mo ?_⟩
      refine w_loop (fun _ : Nat => ⟨⟨68, [(1, .slice none 0 0), (2, p0 0), (5, p0 1), (6, .int .i64 0)]⟩, [(0, some (x.c.map rel1)), (1, some [.string (colK x).1, .string (colK x).2])], 2, X'⟩) (fun _ => True) (fun _ => 0) 0 trivial [0, 1] ⟨rfl, ⟨fv, fp, fp, fv, trivial⟩, ⟨flr rfl, fl rfl rfl, trivial⟩, xf, rfl, rfl⟩ ?_
      intro i _
      refine st mo (st mo ⟨fun h => absurd h (by omega), fun _ => st mo ⟨dk, st mo (st mo (st mo ⟨fun _ => st mo ⟨dk, st mo ?_⟩, fun h => absurd rfl h⟩))⟩⟩)
      refine ⟨_, fun nn => r_slN (Or.inl rfl) (Or.inr ⟨_, _, rfl, rfl⟩), st mo ⟨_, fun nn => r_apN, st mo ⟨1, [.string (colK x).1, .string (colK x).2], _, put_own rfl rfl rfl rfl rfl, by omega, by omega, st mo ⟨dk, st mo ?_⟩⟩⟩⟩
      refine ⟨_, fun nn => r_slN (Or.inr ⟨_, _, rfl, rfl⟩) (Or.inl rfl), st mo ⟨_, fun nn => r_apE, adv_ok mo 1 _ ?_⟩⟩
      exact rn_fit (TC x [colK x] X') [0, 3] ⟨rfl, ⟨fs, fp, trivial⟩, ⟨flr rfl, trivial, flr rfl, trivial⟩, xf, rfl, rfl⟩ tl
    · refine fn_c _ Tryz.func57 rfl rfl rfl rfl (fun w l X' hX => run_ok (st mo ?_))
      have tl := col_t (w := w) (l := l) ih (L := insL ltcb (q :: L) (colK x)) (hL.mono (xcell hX)) (by omega)
      have hcl := cntL_le ltcb (colK x) (q :: L)
      have hml : (q :: L).length = L.length + 1 := rfl
      generalize hN : insL ltcb (q :: L) (colK x) = N at tl hil ⊢
      rcases N with _ | ⟨n0, N⟩
      · exact absurd hil.2.2 (by simp)
      refine ⟨fun _ => st mo ?_, fun h => absurd hk h⟩
      refine ⟨_, fun nn => r_call (t := es53 (colK x)) rfl rfl Tryz.func34 (fun W M E => t_key x W), st mo ?_⟩
      refine w_loop (fun k : Nat => ⟨⟨68, [(1, .slice (some ⟨0, 0, none⟩) (L.length + 1) 2), (2, p0 1), (5, p0 2), (6, .int .i64 (k : Int))]⟩, [(0 + 4096, none), (0, some ((cv (q :: L)).map rel1)), (1, some (x.c.map rel1)), (2, some [.string (colK x).1, .string (colK x).2])], 3, X'⟩) (fun k => k ≤ cntL ltcb (colK x) (q :: L)) (fun k => L.length + 1 - k) 0 (Nat.zero_le _) [0, 1, 2] ⟨rfl, ⟨fs, fp, fp, fv, trivial⟩, ⟨trivial, flr rfl, flr rfl, fl rfl rfl, trivial⟩, xf, rfl, rfl⟩ ?_
      intro k hkc0
      refine st mo (st mo ⟨fun hlt => ?_, fun hge => ?_⟩)
      · have hkl : k < L.length + 1 := by omega
        obtain ⟨a, ha⟩ : ∃ a, (q :: L)[k]? = some a := ⟨_, List.getElem?_eq_getElem hkl⟩
        have hc := cntL_lt ltcb (colK x) (q :: L) k a hkc0 ha
        refine st mo ⟨k, rfl, hkl, st mo ⟨_, cv_row ha, rfl, Or.inl (st mo ?_)⟩⟩
        cases hab : ltcb a (colK x) with
        | true =>
          refine ⟨_, fun nn => r_call (t := litT) rfl rfl Tryz.func87 (fun W M E => by have := t_less a (colK x) W; rw [hab] at this; exact this), st mo ⟨dk, st mo ⟨_, wz (k + 1) rfl, st mo ?_⟩⟩⟩
          exact ⟨k + 1, hc.1 hab, by dsimp; omega, [0, 1, 2], rfl, ⟨fs, fp, fp, fv, trivial⟩, ⟨trivial, flr rfl, flr rfl, fl rfl rfl, trivial⟩, xf, rfl, rfl⟩
        | false =>
          have hkc := hc.2 hab
          refine ⟨_, fun nn => r_call (t := litF) rfl rfl Tryz.func87 (fun W M E => by have := t_less a (colK x) W; rw [hab] at this; exact this), st mo ⟨dk, st mo (st mo (st mo ⟨fun h => absurd h (by omega), fun _ => st mo ⟨k, rfl, hkl, st mo ⟨_, cv_row ha, rfl, Or.inl (st mo ?_)⟩⟩⟩))⟩⟩
          refine ⟨_, r_ne a (colK x), fun hne => ?_, fun he => ?_⟩
          · have hne : a ≠ colK x := fun e => by rw [decide_eq_true e] at hne; cases hne
            have hi : n0 :: N = (q :: L).take k ++ colK x :: (q :: L).drop k := by rw [← hN]; unfold insL; rw [← hkc, ha, if_neg (fun e => hne (Option.some.inj e))]
            have hlen : N.length = L.length + 1 := by
              have := congrArg List.length hi
              simp only [List.length_append, List.length_take, List.length_cons, List.length_drop] at this
              omega
            have hcv : (cv (n0 :: N)).map rel1 = (cv ((q :: L).take k)).map rel1 ++ [.string (colK x).1, .string (colK x).2] ++ (cv ((q :: L).drop k)).map rel1 := by
              rw [hi]
              simp only [cv, List.flatMap_append, List.flatMap_cons, List.map_append, List.append_assoc]
              rfl
            obtain ⟨d1, d2⟩ := cv_drop (q :: L) k (by omega)
            rcases Nat.eq_zero_or_pos k with hk0 | hk0
            · subst hk0
              refine st mo ⟨dk, st mo ⟨_, fun nn => r_slE0 (b := 0) (q := 0) (m := L.length + 1) (es := 2) rfl, st mo ⟨_, fun nn => r_apN, st mo ⟨1, [.string (colK x).1, .string (colK x).2], _, put_own rfl rfl rfl rfl rfl, by omega, by omega, st mo ⟨dk, st mo ?_⟩⟩⟩⟩⟩
              refine ⟨_, fun nn => r_slL (b := 0) (q := 0) (m := L.length + 1) (es := 2) (k := 0) rfl hkl, st mo ⟨rfl, L.length + 1 - 0, (cv ((q :: L).drop 0)).map rel1, _, put_own rfl d1 d2 (one_cv _) rfl, by omega, _, rfl, adv_ok mo 1 _ ?_⟩⟩
              refine rn_fit (TC x (n0 :: N) X') [1, 5] ⟨rfl, ⟨?_, fp, trivial⟩, ⟨flr rfl, trivial, flr ?_, trivial⟩, xf, rfl, rfl⟩ tl
              · show S.fitV _ (.slice (some ⟨5, 0, none⟩) (1 + (L.length + 1 - 0)) 2) (.slice (some ⟨1, 0, none⟩) (N.length + 1) 2)
                rw [hlen, show 1 + (L.length + 1 - 0) = L.length + 1 + 1 by omega]
                exact fs
              · rw [hcv]; rfl
            · obtain ⟨c1, c2⟩ := cv_take (q :: L) k (by omega)
              refine st mo ⟨dk, st mo ⟨_, fun nn => r_slH (b := 0) (q := 0) (m := L.length + 1) (es := 2) (k := k) rfl (by omega), st mo ⟨k, (cv ((q :: L).take k)).map rel1, _, put_own rfl c1 c2 (one_cv _) rfl, hk0, by omega, st mo ⟨c2, 1, [.string (colK x).1, .string (colK x).2], _, put_own rfl rfl rfl rfl rfl, by omega, _, rfl, st mo ⟨dk, st mo ?_⟩⟩⟩⟩⟩
              refine ⟨_, fun nn => r_slL (b := 0) (q := 0) (m := L.length + 1) (es := 2) (k := k) rfl hkl, st mo ⟨?_, L.length + 1 - k, (cv ((q :: L).drop k)).map rel1, _, put_own rfl d1 d2 (one_cv _) rfl, by omega, _, rfl, adv_ok mo 1 _ ?_⟩⟩
              · rw [List.length_append, c2]
                show k * 2 + 2 = (k + 1) * 2
                omega
              refine rn_fit (TC x (n0 :: N) X') [1, 6] ⟨rfl, ⟨?_, fp, trivial⟩, ⟨flr rfl, trivial, flr ?_, trivial⟩, xf, rfl, rfl⟩ tl
              · show S.fitV _ (.slice (some ⟨6, 0, none⟩) (k + 1 + (L.length + 1 - k)) 2) (.slice (some ⟨1, 0, none⟩) (N.length + 1) 2)
                rw [hlen, show k + 1 + (L.length + 1 - k) = L.length + 1 + 1 by omega]
                exact fs
              · rw [hcv]
          · have he : a = colK x := Classical.byContradiction fun e => by rw [decide_eq_false e] at he; cases he
            have hi : n0 :: N = q :: L := by rw [← hN]; unfold insL; rw [← hkc, ha, he, if_pos rfl]
            rw [hi] at tl ⊢
            refine st mo ⟨dk, adv_ok mo 2 _ ?_⟩
            exact rn_fit (TC x (q :: L) X') [1, 0] ⟨rfl, ⟨fs, fp, trivial⟩, ⟨flr rfl, trivial, flr rfl, trivial⟩, xf, rfl, rfl⟩ tl
      · have hkl : k = L.length + 1 := by omega
        subst hkl
        have hcn : cntL ltcb (colK x) (q :: L) = L.length + 1 := by omega
        have hi : n0 :: N = (q :: L) ++ [colK x] := by
          rw [← hN]; unfold insL
          rw [hcn, List.getElem?_eq_none (by simp), if_neg (by simp), List.take_of_length_le (by simp), List.drop_of_length_le (by simp)]
        have hlen : N.length = L.length + 1 := by
          have := congrArg List.length hi
          simpa using this
        have hcv : (cv (n0 :: N)).map rel1 = (cv (q :: L)).map rel1 ++ [.string (colK x).1, .string (colK x).2] := by
          rw [hi]
          simp only [cv, List.flatMap_append, List.map_append]
          rfl
        obtain ⟨c1, c2⟩ := cv_take (q :: L) (L.length + 1) (Nat.le_refl _)
        rw [List.take_of_length_le (by simp)] at c1 c2
        refine st mo ⟨dk, st mo (st mo (st mo ⟨fun _ => st mo ⟨dk, st mo ?_⟩, fun h => absurd rfl h⟩))⟩
        refine ⟨_, fun nn => r_slH (b := 0) (q := 0) (m := L.length + 1) (es := 2) (k := L.length + 1) rfl (Nat.le_refl _), st mo ⟨L.length + 1, (cv (q :: L)).map rel1, _, put_own rfl c1 c2 (one_cv _) rfl, by omega, by omega, st mo ⟨c2, 1, [.string (colK x).1, .string (colK x).2], _, put_own rfl rfl rfl rfl rfl, by omega, _, rfl, st mo ⟨dk, st mo ?_⟩⟩⟩⟩
        refine ⟨_, fun nn => r_slE1 (b := 0) (q := 0) (m := L.length + 1) (es := 2) rfl, st mo ⟨_, fun nn => r_apE, adv_ok mo 1 _ ?_⟩⟩
        refine rn_fit (TC x (n0 :: N) X') [1, 5] ⟨rfl, ⟨?_, fp, trivial⟩, ⟨flr rfl, trivial, flr ?_, trivial⟩, xf, rfl, rfl⟩ tl
        · show S.fitV _ (.slice (some ⟨5, 0, none⟩) (L.length + 1 + 1) 2) (.slice (some ⟨1, 0, none⟩) (N.length + 1) 2)
          rw [hlen]
          exact fs
        · rw [hcv]
  · have e1 : oneD kxC ltcb x L = L := by unfold oneD kxC; rw [if_neg hk]
    rw [e1]
    rcases L with _ | ⟨q, L⟩
    · refine fn_c _ Tryz.func57 rfl rfl rfl rfl (fun w l X' hX => run_ok (st mo ?_))
      have tl := col_t (w := w) (l := l) ih (L := []) (hL.mono (xcell hX)) (by omega)
      refine ⟨fun h => absurd h hk, fun _ => adv_ok mo 2 _ ?_⟩
      exact rn_fit (TC x [] X') [0] ⟨rfl, ⟨fv, fp, trivial⟩, ⟨flr rfl, trivial⟩, xf, rfl, rfl⟩ tl
    · refine fn_c _ Tryz.func57 rfl rfl rfl rfl (fun w l X' hX => run_ok (st mo ?_))
      have tl := col_t (w := w) (l := l) ih (L := q :: L) (hL.mono (xcell hX)) (by omega)
      refine ⟨fun h => absurd h hk, fun _ => adv_ok mo 2 _ ?_⟩
      exact rn_fit (TC x (q :: L) X') [1, 0] ⟨rfl, ⟨fs, fp, trivial⟩, ⟨flr rfl, trivial, flr rfl, trivial⟩, xf, rfl, rfl⟩ tl
theorem col_n (d : Nat) : CaC d := by
  induction d with
  | zero => exact col_s fun d' h => (by omega)
  | succ d ih => exact col_s fun d' h => by cases h; exact ih
set_option maxRecDepth 20000 in
theorem qcols_n (d : Nat) (X : World) (x : Ex) (hL : LT X d x) (hb : nds d x ≤ 1000000000) : Ctr Tryz.prog X 21 [.agg (x.c.map rel1).toArray] [] 0 0 (lvK 0 (gtD kxC ltcb d x [])) (hSc (gtD kxC ltcb d x [])) (nSc (gtD kxC ltcb d x [])) := by
  refine fn_c _ Tryz.func21 rfl rfl rfl rfl (fun w l X' hX => run_ok (st mo ?_))
  have g := col_n d X' x [] (hL.mono (xcell hX)) (by simp; omega)
  generalize gtD kxC ltcb d x [] = N at g ⊢
  rcases N with _ | ⟨m, N⟩
  · refine ⟨_, fun nn => r_c (tc := .slice none 0 0) [] [] [] rfl rfl g (by exact fitL_cons fv (fitL_cons fv rfl)) trivial uv trivial, st mo ?_⟩
    exact ⟨rfl, [], fv, trivial, rfl, rfl⟩
  · refine ⟨_, fun nn => r_c (tc := .slice (some ⟨1, 0, none⟩) (N.length + 1) 2) [] [some ((cv (m :: N)).map rel1)] [1] rfl rfl g (by exact fitL_cons fv (fitL_cons fv rfl)) trivial us ⟨ulr rfl, trivial⟩, st mo ?_⟩
    exact ⟨rfl, [1], fs, ⟨trivial, flr rfl, trivial⟩, rfl, rfl⟩
end Go.Proofs.YtfmfeipeeedfpaaGreat
namespace Go.Proofs.YtfmfeipeeedfpaaGreat
open S Go.Sort Go.Lib
/-- An order that parts whatever two that are not one. -/
structure Od {κ : Type} (lb : κ → κ → Bool) : Prop where
  irr : ∀ a, lb a a = false
  tr : ∀ a b c, lb a b = true → lb b c = true → lb a c = true
  tri : ∀ a b, lb a b = false → lb b a = false → a = b
theorem rise_ext {κ : Type} {lb : κ → κ → Bool} (O : Od lb) : ∀ (xs ys : List κ), xs.Pairwise (fun a b => lb a b = true) → ys.Pairwise (fun a b => lb a b = true) → (∀ x, x ∈ xs ↔ x ∈ ys) → xs = ys
  | [], [], _, _, _ => rfl
  | [], b :: ys, _, _, h => by have := (h b).2 (List.mem_cons_self ..); simp at this
  | a :: xs, [], _, _, h => by have := (h a).1 (List.mem_cons_self ..); simp at this
  | a :: xs, b :: ys, ha, hb, h => by
    rw [List.pairwise_cons] at ha hb
    have no : ∀ u v, lb u v = true → lb v u = true → False := fun u v h1 h2 => by have := O.tr u v u h1 h2; rw [O.irr u] at this; cases this
    have e : a = b := by
      rcases List.mem_cons.1 ((h a).1 (List.mem_cons_self ..)) with q | q
      · exact q
      · rcases List.mem_cons.1 ((h b).2 (List.mem_cons_self ..)) with q2 | q2
        · exact q2.symm
        · exact (no _ _ (hb.1 a q) (ha.1 b q2)).elim
    subst e
    congr 1
    refine rise_ext O xs ys ha.2 hb.2 (fun x => ⟨fun hx => ?_, fun hx => ?_⟩)
    · rcases List.mem_cons.1 ((h x).1 (List.mem_cons_of_mem _ hx)) with q | q
      · have := ha.1 x hx; rw [q, O.irr a] at this; cases this
      · exact q
    · rcases List.mem_cons.1 ((h x).2 (List.mem_cons_of_mem _ hx)) with q | q
      · have := hb.1 x hx; rw [q, O.irr a] at this; cases this
      · exact q
section
variable {κ : Type} [DecidableEq κ]
/-- The keys as they come. -/
def kyl (kx : Ex → Option κ) : Nat → Ex → List κ
  | 0, x => (kx x).toList
  | d + 1, x => (kx x).toList ++ x.a.flatMap (kyl kx d)
theorem gth_kyl (kx : Ex → Option κ) : ∀ (d : Nat) (x : Ex) (al : List (κ × Int)), gth kx d x al = (kyl kx d x).foldl stp al
  | 0, x, al => by unfold gth kyl one; cases kx x <;> rfl
  | d + 1, x, al => by
    have key : ∀ (l : List Ex) (s : List (κ × Int)), l.foldl (fun s y => gth kx d y s) s = (l.flatMap (kyl kx d)).foldl stp s := by
      intro l
      induction l with
      | nil => intro s; rfl
      | cons y l ih => intro s; rw [List.foldl_cons, List.flatMap_cons, List.foldl_append, gth_kyl kx d y s]; exact ih _
    show x.a.foldl (fun s y => gth kx d y s) (one kx x al) = ((kx x).toList ++ x.a.flatMap (kyl kx d)).foldl stp al
    rw [List.foldl_append, key]
    congr 1
    unfold one
    cases kx x <;> rfl
theorem gtD_kyl (kx : Ex → Option κ) (lb : κ → κ → Bool) : ∀ (d : Nat) (x : Ex) (L : List κ), gtD kx lb d x L = (kyl kx d x).foldl (insL lb) L
  | 0, x, L => by unfold gtD kyl oneD; cases kx x <;> rfl
  | d + 1, x, L => by
    have key : ∀ (l : List Ex) (s : List κ), l.foldl (fun s y => gtD kx lb d y s) s = (l.flatMap (kyl kx d)).foldl (insL lb) s := by
      intro l
      induction l with
      | nil => intro s; rfl
      | cons y l ih => intro s; rw [List.foldl_cons, List.flatMap_cons, List.foldl_append, gtD_kyl kx lb d y s]; exact ih _
    show x.a.foldl (fun s y => gtD kx lb d y s) (oneD kx lb x L) = ((kx x).toList ++ x.a.flatMap (kyl kx d)).foldl (insL lb) L
    rw [List.foldl_append, key]
    congr 1
    unfold oneD
    cases kx x <;> rfl
theorem lkq_iff : ∀ (al : List (κ × Int)) (a : κ), (lkq al a).isSome = true ↔ a ∈ al.map Prod.fst
  | [], a => by simp [lkq]
  | (b, u) :: r, a => by
    by_cases e : b = a
    · simp [lkq, e]
    · simp only [lkq, if_neg e, List.map_cons, List.mem_cons, lkq_iff r a]
      exact ⟨Or.inr, fun h => h.resolve_left (fun h => e h.symm)⟩
theorem keys_spec (ks : List κ) : ∀ al : List (κ × Int), (al.map Prod.fst).Nodup → ((ks.foldl stp al).map Prod.fst).Nodup ∧ ∀ a, a ∈ (ks.foldl stp al).map Prod.fst ↔ a ∈ al.map Prod.fst ∨ a ∈ ks := by
  induction ks with
  | nil => intro al h; exact ⟨h, fun a => by simp⟩
  | cons k ks ih =>
    intro al h
    have hf := putq_fst al k (nof al k + 1)
    have hn : ((stp al k).map Prod.fst).Nodup ∧ ∀ a, a ∈ (stp al k).map Prod.fst ↔ a ∈ al.map Prod.fst ∨ a = k := by
      show ((putq al k (nof al k + 1)).map Prod.fst).Nodup ∧ ∀ a, a ∈ (putq al k (nof al k + 1)).map Prod.fst ↔ _
      rw [hf]
      split
      · rename_i hs
        have := (lkq_iff al k).1 hs
        exact ⟨h, fun a => ⟨Or.inl, fun e => e.elim id (fun e => e ▸ this)⟩⟩
      · rename_i hs
        have hk : k ∉ al.map Prod.fst := fun e => hs ((lkq_iff al k).2 e)
        refine ⟨List.nodup_append.2 ⟨h, by simp, fun a ha b hb e => hk (by simp at hb; rw [← hb, ← e]; exact ha)⟩, fun a => by rw [List.mem_append, List.mem_singleton]⟩
    obtain ⟨h1, h2⟩ := ih (stp al k) hn.1
    refine ⟨h1, fun a => ?_⟩
    rw [List.foldl_cons, h2 a, hn.2 a, List.mem_cons, or_assoc]
theorem insL_cons (lb : κ → κ → Bool) (a : κ) (L : List κ) (s : κ) : insL lb (a :: L) s = bif lb a s then a :: insL lb L s else if a = s then a :: L else s :: a :: L := by
  unfold insL
  cases h : lb a s with
  | true =>
    simp only [cntL, h, cond_true, List.getElem?_cons_succ, List.take_succ_cons, List.drop_succ_cons, List.cons_append]
    split <;> rfl
  | false =>
    simp only [cntL, h, cond_false, List.getElem?_cons_zero, List.take_zero, List.drop_zero, List.nil_append, Option.some.injEq]
variable {lb : κ → κ → Bool}
theorem insL_spec (O : Od lb) (s : κ) : ∀ L : List κ, L.Pairwise (fun a b => lb a b = true) → (insL lb L s).Pairwise (fun a b => lb a b = true) ∧ ∀ a, a ∈ insL lb L s ↔ a ∈ L ∨ a = s
  | [], _ => by
    have : insL lb ([] : List κ) s = [s] := rfl
    rw [this]
    exact ⟨by simp, fun a => by simp⟩
  | b :: L, h => by
    rw [insL_cons]
    have h' := List.pairwise_cons.1 h
    cases hb : lb b s with
    | true =>
      obtain ⟨i1, i2⟩ := insL_spec O s L h'.2
      simp only [cond_true]
      refine ⟨List.pairwise_cons.2 ⟨fun a ha => ?_, i1⟩, fun a => by rw [List.mem_cons, i2 a, List.mem_cons, or_assoc]⟩
      rcases (i2 a).1 ha with ha | rfl
      · exact h'.1 a ha
      · exact hb
    | false =>
      simp only [cond_false]
      split
      · rename_i e
        subst e
        exact ⟨h, fun a => ⟨Or.inl, fun g => g.elim id (fun g => by rw [g]; exact List.mem_cons_self ..)⟩⟩
      · rename_i e
        have hsb : lb s b = true := by
          cases g : lb s b with
          | true => rfl
          | false => exact absurd (O.tri b s hb g) e
        refine ⟨List.pairwise_cons.2 ⟨fun a ha => ?_, h⟩, fun a => by rw [List.mem_cons]; exact ⟨fun g => g.symm, fun g => g.symm⟩⟩
        rcases List.mem_cons.1 ha with rfl | ha
        · exact hsb
        · exact O.tr s b a hsb (h'.1 a ha)
theorem fold_spec (O : Od lb) (ks : List κ) : ∀ L : List κ, L.Pairwise (fun a b => lb a b = true) → (ks.foldl (insL lb) L).Pairwise (fun a b => lb a b = true) ∧ ∀ a, a ∈ ks.foldl (insL lb) L ↔ a ∈ L ∨ a ∈ ks := by
  induction ks with
  | nil => intro L h; exact ⟨h, fun a => by simp⟩
  | cons k ks ih =>
    intro L h
    obtain ⟨i1, i2⟩ := insL_spec O k L h
    obtain ⟨j1, j2⟩ := ih _ i1
    exact ⟨j1, fun a => by rw [List.foldl_cons, j2 a, i2 a, List.mem_cons, or_assoc]⟩
/-- A list that is a sorted one of all keys is the one in which each was put where it belongs. -/
theorem same_keys (O : Od lb) (kx : Ex → Option κ) (d : Nat) (x : Ex) (M : List κ) (hp : M.Perm ((gth kx d x []).map Prod.fst)) (hs : M.Pairwise (fun a b => lb b a = false)) : M = gtD kx lb d x [] := by
  rw [gth_kyl] at hp
  rw [gtD_kyl]
  obtain ⟨k1, k2⟩ := keys_spec (kyl kx d x) [] (by simp)
  obtain ⟨f1, f2⟩ := fold_spec O (kyl kx d x) [] List.Pairwise.nil
  have hn : M.Nodup := hp.nodup_iff.2 k1
  refine rise_ext O _ _ ?_ f1 (fun a => ?_)
  · refine (hs.and hn).imp ?_
    intro a b ⟨h1, h2⟩
    cases g : lb a b with
    | true => rfl
    | false => exact absurd (O.tri a b g h1) h2
  · rw [hp.mem_iff, k2 a, f2 a]
    simp
end
theorem od_s : Od ltb := ⟨fun a => ltb_f.2 (lts_irr a), fun _ _ _ h g => ltb_t.2 (lts_trans (ltb_t.1 h) (ltb_t.1 g)), fun _ _ h g => lts_tri (ltb_f.1 h) (ltb_f.1 g)⟩
theorem ltcb_f {p q : CK} : ltcb p q = false ↔ ¬ ltc p q := by
  rw [← ltcb_t]; cases ltcb p q <;> simp
theorem od_c : Od ltcb := ⟨fun a => ltcb_f.2 (ltc_irr a), fun _ _ _ h g => ltcb_t.2 (ltc_trans (ltcb_t.1 h) (ltcb_t.1 g)), fun _ _ h g => ltc_tri (ltcb_f.1 h) (ltcb_f.1 g)⟩
theorem same_c (d : Nat) (x : Ex) : srtC (ksC d x) = gtD kxC ltcb d x [] :=
  same_keys od_c kxC d x _ (srtC_spec _).1 ((srtC_spec _).2.imp fun h => ltcb_f.2 h)
theorem srt_spec (L : List ByteArray) : (srt L).Perm L ∧ (srt L).Pairwise (fun a b => ltb b a = false) := by
  have hp := List.mergeSort_perm (L.map (·.data.toList)) (fun x y => decide (x ≤ y))
  have hs : ((L.map (·.data.toList)).mergeSort (fun x y => decide (x ≤ y))).Pairwise (fun x y => decide (x ≤ y) = true) := by
    refine List.pairwise_mergeSort (fun a b c h1 h2 => ?_) (fun a b => ?_) _
    · rw [decide_eq_true_iff] at h1 h2 ⊢
      have h1 : ¬ b < a := h1
      have h2 : ¬ c < b := h2
      show ¬ c < a
      have := swo_ltStr.ntrans c b a ((ltStr_not _ _).2 h2) ((ltStr_not _ _).2 h1)
      exact (ltStr_not _ _).1 this
    · rw [Bool.or_eq_true, decide_eq_true_iff, decide_eq_true_iff]
      by_cases h : b < a
      · refine Or.inr (show ¬ a < b from fun g => ?_)
        have := swo_ltStr.trans a b a ((ltStr_iff _ _).2 g) ((ltStr_iff _ _).2 h)
        rw [swo_ltStr.irrefl] at this; cases this
      · exact Or.inl h
  constructor
  · have := hp.map fun l => (⟨l.toArray⟩ : ByteArray)
    rw [List.map_map] at this
    have e : (L.map ((fun l => (⟨l.toArray⟩ : ByteArray)) ∘ fun x => x.data.toList)) = L := by
      conv => rhs; rw [← List.map_id L]
      refine List.map_congr_left fun a _ => ?_
      simp
    rw [e] at this
    exact this
  · unfold srt
    rw [List.pairwise_map]
    refine hs.imp fun {a b} h => ?_
    rw [decide_eq_true_iff] at h
    have h : ¬ b < a := h
    rw [ltb_f]
    show ¬ (b.toArray.toList < a.toArray.toList)
    simpa using h
theorem same_s (d : Nat) (x : Ex) : srt (ksN d x) = gtD kxN ltb d x [] := same_keys od_s kxN d x _ (srt_spec _).1 (srt_spec _).2
end Go.Proofs.YtfmfeipeeedfpaaGreat
namespace Go.Proofs.YtfmfeipeeedfpaaGreat
open S Go.Sort Go.Lib
abbrev h2 (cells : List Value) : HT := [(0 + 4096, none), (0, some (cells.map rel1)), (1 + 4096, none), (1, some (cells.map rel1))]
set_option maxRecDepth 20000 in
theorem eqs_1 (X : World) (L : List ByteArray) (hb : L.length ≤ 1000000000) : Ctr Tryz.prog X 16 [.slice (some ⟨0, 0, none⟩) L.length 1, .slice (some ⟨1, 0, none⟩) L.length 1] (h2 (sv L)) 2 2 litT (h2 (sv L)) 2 := by
  refine fn_c _ Tryz.func16 rfl rfl rfl rfl (fun w l X' hX => run_ok (st mo ?_))
  refine st mo (st mo ⟨fun h => absurd rfl h, fun _ => st mo (st mo ?_)⟩)
  refine w_loop (fun i : Nat => ⟨⟨26, [(0, .slice (some ⟨0, 0, none⟩) L.length 1), (1, .slice (some ⟨1, 0, none⟩) L.length 1), (12, .int .i64 (L.length : Int)), (13, .int .i64 (i : Int))]⟩, h2 (sv L), 2, X'⟩) (fun i => i ≤ L.length) (fun i => L.length - i) 0 (Nat.zero_le _) [0, 1] ⟨rfl, ⟨fs, fs, fv, fv, trivial⟩, ⟨trivial, flr rfl, trivial, flr rfl, trivial⟩, xf, rfl, rfl⟩ ?_
  intro i hi
  refine st mo ⟨fun hlt => ?_, fun hge => ?_⟩
  · have hil : i < L.length := by omega
    obtain ⟨a, ha⟩ : ∃ a, L[i]? = some a := ⟨_, List.getElem?_eq_getElem hil⟩
    refine st mo ⟨i, rfl, hil, st mo ⟨.string a, sv_at ha, st mo ⟨i, rfl, hil, st mo ⟨.string a, sv_at ha, st mo ⟨fun h => absurd rfl h, fun _ => st mo ⟨dk, st mo ⟨_, wz (i + 1) rfl, st mo ?_⟩⟩⟩⟩⟩⟩⟩
    exact ⟨i + 1, hil, by dsimp; omega, [0, 1], rfl, ⟨fs, fs, fv, fv, trivial⟩, ⟨trivial, flr rfl, trivial, flr rfl, trivial⟩, xf, rfl, rfl⟩
  · refine st mo (st mo ?_)
    exact ⟨rfl, [0, 1], fv, ⟨trivial, flr rfl, trivial, flr rfl, trivial⟩, rfl, rfl⟩
set_option maxRecDepth 20000 in
theorem eqs_0 (w : World) : Calls Tryz.prog 16 #[.slice none 0 0, .slice none 0 0] w fun e W => e = .returned (.bool true) ∧ Mb w W := by
  refine fn_pure [.slice none 0 0, .slice none 0 0] Tryz.func16 rfl rfl rfl (run_ok (st mo (st mo (st mo ⟨fun h => absurd rfl h, fun _ => st mo (st mo ?_)⟩))))
  refine w_loop (fun _ : Nat => ⟨⟨26, [(12, .int .i64 0), (13, .int .i64 0)]⟩, [], 0, w⟩) (fun _ => True) (fun _ => 0) 0 trivial [] ⟨rfl, ⟨fv, fv, trivial⟩, trivial, xf, rfl, rfl⟩ ?_
  intro i _
  refine st mo ⟨fun h => absurd h (by omega), fun _ => st mo (st mo rfl)⟩
set_option maxRecDepth 20000 in
theorem eqc_1 (X : World) (L : List CK) (hb : L.length ≤ 1000000000) : Ctr Tryz.prog X 19 [.slice (some ⟨0, 0, none⟩) L.length 2, .slice (some ⟨1, 0, none⟩) L.length 2] (h2 (cv L)) 2 2 litT (h2 (cv L)) 2 := by
  refine fn_c _ Tryz.func19 rfl rfl rfl rfl (fun w l X' hX => run_ok (st mo ?_))
  refine st mo (st mo ⟨fun h => absurd rfl h, fun _ => st mo (st mo ?_)⟩)
  refine w_loop (fun i : Nat => ⟨⟨26, [(0, .slice (some ⟨0, 0, none⟩) L.length 2), (1, .slice (some ⟨1, 0, none⟩) L.length 2), (12, .int .i64 (L.length : Int)), (13, .int .i64 (i : Int))]⟩, h2 (cv L), 2, X'⟩) (fun i => i ≤ L.length) (fun i => L.length - i) 0 (Nat.zero_le _) [0, 1] ⟨rfl, ⟨fs, fs, fv, fv, trivial⟩, ⟨trivial, flr rfl, trivial, flr rfl, trivial⟩, xf, rfl, rfl⟩ ?_
  intro i hi
  refine st mo ⟨fun hlt => ?_, fun hge => ?_⟩
  · have hil : i < L.length := by omega
    obtain ⟨a, ha⟩ : ∃ a, L[i]? = some a := ⟨_, List.getElem?_eq_getElem hil⟩
    refine st mo ⟨i, rfl, hil, st mo ⟨_, cv_row ha, rfl, Or.inl (st mo ⟨i, rfl, hil, st mo ⟨_, cv_row ha, rfl, Or.inl (st mo ?_)⟩⟩)⟩⟩
    refine ⟨_, r_ne a a, fun h => ?_, fun _ => st mo ⟨dk, st mo ⟨_, wz (i + 1) rfl, st mo ?_⟩⟩⟩
    · rw [decide_eq_true rfl] at h; cases h
    · exact ⟨i + 1, hil, by dsimp; omega, [0, 1], rfl, ⟨fs, fs, fv, fv, trivial⟩, ⟨trivial, flr rfl, trivial, flr rfl, trivial⟩, xf, rfl, rfl⟩
  · refine st mo (st mo ?_)
    exact ⟨rfl, [0, 1], fv, ⟨trivial, flr rfl, trivial, flr rfl, trivial⟩, rfl, rfl⟩
set_option maxRecDepth 20000 in
theorem eqc_0 (w : World) : Calls Tryz.prog 19 #[.slice none 0 0, .slice none 0 0] w fun e W => e = .returned (.bool true) ∧ Mb w W := by
  refine fn_pure [.slice none 0 0, .slice none 0 0] Tryz.func19 rfl rfl rfl (run_ok (st mo (st mo (st mo ⟨fun h => absurd rfl h, fun _ => st mo (st mo ?_)⟩))))
  refine w_loop (fun _ : Nat => ⟨⟨26, [(12, .int .i64 0), (13, .int .i64 0)]⟩, [], 0, w⟩) (fun _ => True) (fun _ => 0) 0 trivial [] ⟨rfl, ⟨fv, fv, trivial⟩, trivial, xf, rfl, rfl⟩ ?_
  intro i _
  refine st mo ⟨fun h => absurd h (by omega), fun _ => st mo (st mo rfl)⟩
theorem t_live (w : World) : Calls Tryz.prog 11 #[] w fun e W => e = .returned (.bool true) ∧ Mb w W := (E.lv w).mono (by
  rintro e W ⟨rfl, h1, h2, h3, h4, h5, _⟩
  exact ⟨rfl, ⟨h2, h3.1, h4, h1, h5⟩, h3.2⟩)
end Go.Proofs.YtfmfeipeeedfpaaGreat
namespace Go.Proofs.YtfmfeipeeedfpaaGreat
open S Go.Sort Go.Lib
set_option maxRecDepth 20000 in
theorem t_fitB {d : Nat} {x : Ex} {w : World} (hL : LT w d x) : Calls Tryz.prog 10 #[.agg x.c.toArray] w fun e W => e = .returned (.bool (decide (szX 60 x ≤ 2000))) ∧ Mb w W := by
  by_cases h : szX 60 x ≤ 2000
  · rw [decide_eq_true h]
    exact fn_pure [.agg (x.c.map rel1).toArray] Tryz.func10 rfl rfl rfl (run_ok (st mo ⟨_, fun nn => r_call (t := .int .i64 (szX 60 x)) rfl rfl Tryz.func28 (fun W M E => t_size 60 x W (by decide) ((hL.mono E).lx 60)), st mo ⟨fun _ => st mo rfl, fun h' => absurd h (by omega)⟩⟩))
  · rw [decide_eq_false h]
    exact fn_pure [.agg (x.c.map rel1).toArray] Tryz.func10 rfl rfl rfl (run_ok (st mo ⟨_, fun nn => r_call (t := .int .i64 (szX 60 x)) rfl rfl Tryz.func28 (fun W M E => t_size 60 x W (by decide) ((hL.mono E).lx 60)), st mo ⟨fun h' => absurd h' h, fun _ => st mo rfl⟩⟩))
set_option maxRecDepth 20000 in
theorem rea_n (d : Nat) (x : Ex) (w : World) (hL : LT w d x) (hb : nds d x ≤ 1000000000) : Calls Tryz.prog 5 #[.agg x.c.toArray] w fun e W => e = .returned (.bool true) ∧ Mb w W := by
  refine fn_pure [.agg (x.c.map rel1).toArray] Tryz.func5 rfl rfl rfl (run_ok (st mo ?_))
  cases hf : decide (szX 60 x ≤ 2000) with
  | false =>
    refine ⟨_, fun nn => r_call (t := litF) rfl rfl Tryz.func10 (fun W M E => by have := t_fitB (hL.mono E); rw [hf] at this; exact this), st mo ?_⟩
    exact ⟨_, fun nn => r_call (t := litT) rfl rfl Tryz.func11 (fun W M E => t_live W), st mo rfl⟩
  | true =>
    refine ⟨_, fun nn => r_call (t := litT) rfl rfl Tryz.func10 (fun W M E => by have := t_fitB (hL.mono E); rw [hf] at this; exact this), st mo ?_⟩
    refine ⟨_, fun nn => r_call (t := litT) rfl rfl Tryz.func11 (fun W M E => t_live W), st mo ?_⟩
    have g1 := names_n d w x hL hb
    have g2 := qnames_n d w x hL hb
    have g3 := cols_n d w x hL hb
    have g4 := qcols_n d w x hL hb
    have l1 := (gtD_len kxN ltb d x []).1
    have l2 := (gtD_len kxC ltcb d x []).1
    rw [same_s] at g1
    rw [same_c] at g3
    generalize gtD kxN ltb d x [] = N at g1 g2 l1
    generalize gtD kxC ltcb d x [] = K at g3 g4 l2
    rcases N with _ | ⟨n0, N⟩
    · rcases K with _ | ⟨k0, K⟩
      · refine ⟨_, fun nn => r_c (tc := .slice none 0 0) [] [] [] rfl rfl g1 (by exact fitL_cons fv rfl) trivial uv trivial, st mo ?_⟩
        refine ⟨_, fun nn => r_c (tc := .slice none 0 0) [] [] [] rfl rfl g2 (by exact fitL_cons fv rfl) trivial uv trivial, st mo ?_⟩
        refine ⟨_, fun nn => r_call (t := litT) rfl rfl Tryz.func16 (fun W M E => eqs_0 W), st mo ?_⟩
        refine ⟨_, fun nn => r_c (tc := .slice none 0 0) [] [] [] rfl rfl g3 (by exact fitL_cons fv rfl) trivial uv trivial, st mo ?_⟩
        refine ⟨_, fun nn => r_c (tc := .slice none 0 0) [] [] [] rfl rfl g4 (by exact fitL_cons fv rfl) trivial uv trivial, st mo ?_⟩
        refine ⟨_, fun nn => r_call (t := litT) rfl rfl Tryz.func19 (fun W M E => eqc_0 W), st mo ?_⟩
        refine ⟨_, fun nn => r_call (t := .int .i64 (nX d x)) rfl rfl Tryz.func22 (fun W M E => t_nodes d x W (hL.mono E)), st mo ?_⟩
        refine ⟨_, fun nn => r_call (t := .int .i64 (nX d x)) rfl rfl Tryz.func23 (fun W M E => q_nodes d x W (hL.mono E)), st mo ?_⟩
        exact ⟨fun _ => st mo ⟨dk, st mo rfl⟩, fun h => absurd rfl h⟩
      · refine ⟨_, fun nn => r_c (tc := .slice none 0 0) [] [] [] rfl rfl g1 (by exact fitL_cons fv rfl) trivial uv trivial, st mo ?_⟩
        refine ⟨_, fun nn => r_c (tc := .slice none 0 0) [] [] [] rfl rfl g2 (by exact fitL_cons fv rfl) trivial uv trivial, st mo ?_⟩
        refine ⟨_, fun nn => r_call (t := litT) rfl rfl Tryz.func16 (fun W M E => eqs_0 W), st mo ?_⟩
        refine ⟨_, fun nn => r_c (tc := .slice (some ⟨1, 0, none⟩) (K.length + 1) 2) [] [some ((cv (k0 :: K)).map rel1)] [1] rfl rfl g3 (by exact fitL_cons fv rfl) trivial us ⟨ulr rfl, trivial⟩, st mo ?_⟩
        refine ⟨_, fun nn => r_c (tc := .slice (some ⟨2, 0, none⟩) (K.length + 1) 2) [] [some ((cv (k0 :: K)).map rel1)] [2] rfl rfl g4 (by exact fitL_cons fv rfl) trivial us ⟨ulr rfl, trivial⟩, st mo ?_⟩
        refine ⟨_, fun nn => r_c (tc := litT) [1, 2] [some ((cv (k0 :: K)).map rel1), some ((cv (k0 :: K)).map rel1)] [1, 2] rfl rfl (eqc_1 w (k0 :: K) (by simp at l2 ⊢; omega)) (by exact fitL_cons fs (fitL_cons fs rfl)) ⟨trivial, flr rfl, trivial, flr rfl, trivial⟩ uv ⟨ulr rfl, ulr rfl, trivial⟩, st mo ?_⟩
        refine ⟨_, fun nn => r_call (t := .int .i64 (nX d x)) rfl rfl Tryz.func22 (fun W M E => t_nodes d x W (hL.mono E)), st mo ?_⟩
        refine ⟨_, fun nn => r_call (t := .int .i64 (nX d x)) rfl rfl Tryz.func23 (fun W M E => q_nodes d x W (hL.mono E)), st mo ?_⟩
        exact ⟨fun _ => st mo ⟨dk, st mo rfl⟩, fun h => absurd rfl h⟩
    · rcases K with _ | ⟨k0, K⟩
      · refine ⟨_, fun nn => r_c (tc := .slice (some ⟨1, 0, none⟩) (N.length + 1) 1) [] [some ((sv (n0 :: N)).map rel1)] [1] rfl rfl g1 (by exact fitL_cons fv rfl) trivial us ⟨ulr rfl, trivial⟩, st mo ?_⟩
        refine ⟨_, fun nn => r_c (tc := .slice (some ⟨2, 0, none⟩) (N.length + 1) 1) [] [some ((sv (n0 :: N)).map rel1)] [2] rfl rfl g2 (by exact fitL_cons fv rfl) trivial us ⟨ulr rfl, trivial⟩, st mo ?_⟩
        refine ⟨_, fun nn => r_c (tc := litT) [1, 2] [some ((sv (n0 :: N)).map rel1), some ((sv (n0 :: N)).map rel1)] [1, 2] rfl rfl (eqs_1 w (n0 :: N) (by simp at l1 ⊢; omega)) (by exact fitL_cons fs (fitL_cons fs rfl)) ⟨trivial, flr rfl, trivial, flr rfl, trivial⟩ uv ⟨ulr rfl, ulr rfl, trivial⟩, st mo ?_⟩
        refine ⟨_, fun nn => r_c (tc := .slice none 0 0) [] [] [] rfl rfl g3 (by exact fitL_cons fv rfl) trivial uv trivial, st mo ?_⟩
        refine ⟨_, fun nn => r_c (tc := .slice none 0 0) [] [] [] rfl rfl g4 (by exact fitL_cons fv rfl) trivial uv trivial, st mo ?_⟩
        refine ⟨_, fun nn => r_call (t := litT) rfl rfl Tryz.func19 (fun W M E => eqc_0 W), st mo ?_⟩
        refine ⟨_, fun nn => r_call (t := .int .i64 (nX d x)) rfl rfl Tryz.func22 (fun W M E => t_nodes d x W (hL.mono E)), st mo ?_⟩
        refine ⟨_, fun nn => r_call (t := .int .i64 (nX d x)) rfl rfl Tryz.func23 (fun W M E => q_nodes d x W (hL.mono E)), st mo ?_⟩
        exact ⟨fun _ => st mo ⟨dk, st mo rfl⟩, fun h => absurd rfl h⟩
      · refine ⟨_, fun nn => r_c (tc := .slice (some ⟨1, 0, none⟩) (N.length + 1) 1) [] [some ((sv (n0 :: N)).map rel1)] [1] rfl rfl g1 (by exact fitL_cons fv rfl) trivial us ⟨ulr rfl, trivial⟩, st mo ?_⟩
        refine ⟨_, fun nn => r_c (tc := .slice (some ⟨2, 0, none⟩) (N.length + 1) 1) [] [some ((sv (n0 :: N)).map rel1)] [2] rfl rfl g2 (by exact fitL_cons fv rfl) trivial us ⟨ulr rfl, trivial⟩, st mo ?_⟩
        refine ⟨_, fun nn => r_c (tc := litT) [1, 2] [some ((sv (n0 :: N)).map rel1), some ((sv (n0 :: N)).map rel1)] [1, 2] rfl rfl (eqs_1 w (n0 :: N) (by simp at l1 ⊢; omega)) (by exact fitL_cons fs (fitL_cons fs rfl)) ⟨trivial, flr rfl, trivial, flr rfl, trivial⟩ uv ⟨ulr rfl, ulr rfl, trivial⟩, st mo ?_⟩
        refine ⟨_, fun nn => r_c (tc := .slice (some ⟨3, 0, none⟩) (K.length + 1) 2) [] [some ((cv (k0 :: K)).map rel1)] [3] rfl rfl g3 (by exact fitL_cons fv rfl) trivial us ⟨ulr rfl, trivial⟩, st mo ?_⟩
        refine ⟨_, fun nn => r_c (tc := .slice (some ⟨4, 0, none⟩) (K.length + 1) 2) [] [some ((cv (k0 :: K)).map rel1)] [4] rfl rfl g4 (by exact fitL_cons fv rfl) trivial us ⟨ulr rfl, trivial⟩, st mo ?_⟩
        refine ⟨_, fun nn => r_c (tc := litT) [3, 4] [some ((cv (k0 :: K)).map rel1), some ((cv (k0 :: K)).map rel1)] [3, 4] rfl rfl (eqc_1 w (k0 :: K) (by simp at l2 ⊢; omega)) (by exact fitL_cons fs (fitL_cons fs rfl)) ⟨trivial, flr rfl, trivial, flr rfl, trivial⟩ uv ⟨ulr rfl, ulr rfl, trivial⟩, st mo ?_⟩
        refine ⟨_, fun nn => r_call (t := .int .i64 (nX d x)) rfl rfl Tryz.func22 (fun W M E => t_nodes d x W (hL.mono E)), st mo ?_⟩
        refine ⟨_, fun nn => r_call (t := .int .i64 (nX d x)) rfl rfl Tryz.func23 (fun W M E => q_nodes d x W (hL.mono E)), st mo ?_⟩
        exact ⟨fun _ => st mo ⟨dk, st mo rfl⟩, fun h => absurd rfl h⟩
end Go.Proofs.YtfmfeipeeedfpaaGreat
namespace Go.Proofs.YtfmfeipeeedfpaaGreat
open S Go.RowKit
namespace S
section
variable {P : Program} {w0 : B0} {X : World} {o : Oper} {fr : FT} {h : HT} {n : Nat}
/-- A call by what is known of the heap and of the arguments. -/
theorem r_callG {t : Value} {f : FuncId} {fn : Func} {v : Value} {cal : Callee} {xs : Array Operand} {ts : Array TypeId} (rd : Nat) (ho : o.op = .call { callee := cal, args := xs, argTypes := ts }) (hcal : cal = .value (.func f)) (hf : P.funcs[f]? = some fn)
    (hc : ∀ k W us, Mb w0.w W → (∀ a u, X.cell? a = some u → W.cell? a = some u) → (∀ (b : Nat) (o : Obj), X.heap[b]? = some o → o ≠ hole X → W.heap[b]? = some o) → HR k h W rd → LR (VX k) (evl fr xs.toList) us → Calls P f us.toArray W fun e W' => e = .returned v ∧ Mb W W')
    (hv : den t = v := by rfl) (hb : callB fn = true := by rfl) (ht : pur t = true := by rfl) : Oa (Am w0 X) P o fr h n ⟨t, h, n, rd, 0⟩ := by
  subst hcal
  refine ⟨ss_id rd, fun k W a K' Q hA hop H hnew hk => ?_⟩
  have h8 := evl_rel (fr := fr) (k := k) (a := a) xs.toList (fun y hy => hop y (by rw [ho]; simp [Op.operands, Call.operands]; right; simpa using hy))
  unfold Oper.wp
  rw [run_call ho hf hb, Oper.upon_enter]
  refine (hc k W _ ⟨hA.old, hA.dr⟩ (fun a u => hA.cell) hA.see H h8).mono ?_
  rintro e W' ⟨rfl, hm⟩
  refine hk v W' k ⟨fun _ _ h => h, fun _ _ => rfl, (hr_mb H hm).sub (fun i hi => (tb_or.1 hi).elim id (fun h => absurd h tb_zero)), fun b hb _ => hm.block b hb, fun _ _ _ h1 h2 => absurd h2 (by show ¬ _ < n; omega), fun _ _ h => h, hm.size, hm.os, ⟨hm.tape, hm.dr⟩, hm.output⟩ ?_
  rw [← hv]; exact pur_vx ht
end
end S
section
variable {κ β : Type} [DecidableEq κ]
/-- Of what a map says, what it says of these keys. -/
def selB (al : List (κ × β)) (acc : List (κ × β)) : List κ → List (κ × β)
  | [] => acc
  | s :: r => selB al (match lkB al s with
    | some v => putB acc s v
    | none => acc) r
theorem sel_lk (al : List (κ × β)) : ∀ (L : List κ) (acc : List (κ × β)) (c : κ), lkB (selB al acc L) c = if c ∈ L then (match lkB al c with
    | some v => some v
    | none => lkB acc c) else lkB acc c
  | [], _, _ => rfl
  | s :: r, acc, c => by
    rw [selB, sel_lk al r]
    cases hs : lkB al s with
    | none =>
      by_cases e : c = s
      · subst e; simp [hs]
      · simp [e]
    | some v =>
      simp only [lkB_put]
      by_cases e : s = c
      · subst e; simp [hs]
      · have e' : ¬ c = s := fun q => e q.symm
        simp [e, e']
theorem sel_snoc (al : List (κ × β)) : ∀ (L : List κ) (acc : List (κ × β)) (s : κ), selB al acc (L ++ [s]) = (match lkB al s with
    | some v => putB (selB al acc L) s v
    | none => selB al acc L)
  | [], _, _ => rfl
  | t :: r, acc, s => by rw [List.cons_append, selB, sel_snoc al r, selB]
theorem sel_at {al : List (κ × β)} {L : List κ} {c : κ} (h : c ∈ L) : lkB (selB al [] L) c = lkB al c := by
  rw [sel_lk, if_pos h]
  cases lkB al c <;> rfl
theorem put_mem : ∀ {al : List (κ × β)} {a : κ} {v : β} {q : κ × β}, q ∈ putB al a v → q = (a, v) ∨ q ∈ al
  | [], a, v, q, h => by simp [putB] at h; exact Or.inl h
  | (b, u) :: r, a, v, q, h => by
    rw [putB] at h
    split at h
    · rcases List.mem_cons.1 h with h | h
      · exact Or.inl h
      · exact Or.inr (List.mem_cons_of_mem _ h)
    · rcases List.mem_cons.1 h with h | h
      · exact Or.inr (h ▸ List.mem_cons_self ..)
      · rcases put_mem h with h | h
        · exact Or.inl h
        · exact Or.inr (List.mem_cons_of_mem _ h)
theorem sel_mem (al : List (κ × β)) : ∀ (L : List κ) (acc : List (κ × β)) (q : κ × β), q ∈ selB al acc L → q ∈ acc ∨ lkB al q.1 = some q.2
  | [], _, _, h => Or.inl h
  | s :: r, acc, q, h => by
    rw [selB] at h
    rcases sel_mem al r _ q h with h | h
    · cases hs : lkB al s with
      | none => rw [hs] at h; exact Or.inl h
      | some v =>
        rw [hs] at h
        rcases put_mem h with h | h
        · subst h; exact Or.inr hs
        · exact Or.inl h
    · exact Or.inr h
end
/-- Two environments of which a node reads the same. -/
theorem nod_only {e e' : Ev} {x : Ex} {a : Nat → VL} (hw : whl x = true) (h2 : x.k = 2 → lkB e'.N x.nm = lkB e.N x.nm) (h10 : x.k = 10 → lkB e'.C (colE x) = lkB e.C (colE x)) (ht : e'.tb = e.tb) : nodE e' x a = nodE e x a := by
  have hk : x.k = 1 ∨ x.k = 2 ∨ x.k = 3 ∨ x.k = 4 ∨ x.k = 5 ∨ x.k = 6 ∨ x.k = 7 ∨ x.k = 8 ∨ x.k = 9 ∨ x.k = 10 := by
    have h := of_decide_eq_true hw
    unfold whN at h
    repeat (first | (injection h; omega) | cases h | split at h)
  rcases hk with h | h | h | h | h | h | h | h | h | h
  · unfold nodE; simp [h]
  · unfold nodE; simp [h, h2 h]
  iterate 5 (unfold nodE; simp [h])
  · unfold nodE brkE frmE tabE; simp [h, ht]
  · unfold nodE; simp [h]
  · unfold nodE aggE; simp [h, h10 h]
theorem ev_only {e e' : Ev} (ht : e'.tb = e.tb) {X : World} : ∀ {d : Nat} {x : Ex}, LT X d x → (∀ s ∈ kyl kxN d x, lkB e'.N s = lkB e.N s) → (∀ c ∈ kyl kxC d x, lkB e'.C c = lkB e.C c) → evE e' d x = evE e d x
  | 0, x, _, hn, hc => by
    unfold evE
    cases hw : whl x with
    | false => rfl
    | true =>
      simp only [if_true]
      exact nod_only hw (fun h => hn _ (by unfold kyl kxN; simp [h])) (fun h => hc _ (by unfold kyl kxC; simp [h]; rfl)) ht
  | d + 1, x, hL, hn, hc => by
    have ih : ∀ y ∈ x.a, evE e' d y = evE e d y := fun y hy => by
      obtain ⟨i, hi⟩ := List.getElem?_of_mem hy
      exact ev_only ht (hL.at hi).2 (fun s hs => hn s (by unfold kyl; exact List.mem_append_right _ (List.mem_flatMap.2 ⟨y, hy, hs⟩))) (fun s hs => hc s (by unfold kyl; exact List.mem_append_right _ (List.mem_flatMap.2 ⟨y, hy, hs⟩)))
    have ea : (fun j => ((x.a[j]?).map (evE e' d)).getD vBl) = fun j => ((x.a[j]?).map (evE e d)).getD vBl := funext fun (j : Nat) => by
      cases q : x.a[j]? with
      | none => rfl
      | some y => simp only [Option.map_some, Option.getD_some]; exact ih y (List.mem_of_getElem? q)
    rw [evE, evE, ea]
    cases hw : whl x with
    | false => rfl
    | true =>
      simp only [if_true]
      exact nod_only hw (fun h => hn _ (by unfold kyl kxN; simp [h])) (fun h => hc _ (by unfold kyl kxC; simp [h]; left; rfl)) ht
theorem EvL.lkn' {X W : World} {e : Ev} (h : EvL X e) (M : ∀ (b : Nat) (o : Obj), X.heap[b]? = some o → o ≠ hole X → W.heap[b]? = some o) (s : ByteArray) : (Instr.lookup 32 (.map e.nm) (.string s) true).run Tryz.prog W = .ok (.tuple #[((lkB e.N s).getD vBl).v, .bool (lkB e.N s).isSome]) W := by
  have := lookV kb9 u32 (z28 W) (h.n.mono fun b _ _ hb => M b _ hb hole_map) s true
  rw [this, ← lk_getD VL.v]; rfl
theorem EvL.lkc' {X W : World} {e : Ev} (h : EvL X e) (M : ∀ (b : Nat) (o : Obj), X.heap[b]? = some o → o ≠ hole X → W.heap[b]? = some o) (k : ByteArray × ByteArray) : (Instr.lookup 33 (.map e.cm) (es53 k) true).run Tryz.prog W = .ok (.tuple #[((lkB e.C k).getD cl0).v, .bool (lkB e.C k).isSome]) W := by
  have := lookV kb53 u33 (z66 W) (h.c.mono fun b _ _ hb => M b _ hb hole_map) k true
  rw [this, ← lk_getD CL.v]; rfl
theorem key_n {d : Nat} {x : Ex} {s : ByteArray} (h : s ∈ kyl kxN d x) : s ∈ srt (ksN d x) := by
  rw [(srt_spec _).1.mem_iff]
  unfold ksN
  rw [gth_kyl]
  exact ((keys_spec (kyl kxN d x) [] (by simp)).2 s).2 (Or.inr h)
theorem key_c {d : Nat} {x : Ex} {s : CK} (h : s ∈ kyl kxC d x) : s ∈ srtC (ksC d x) := by
  rw [(srtC_spec _).1.mem_iff]
  unfold ksC
  rw [gth_kyl]
  exact ((keys_spec (kyl kxC d x) [] (by simp)).2 s).2 (Or.inr h)
end Go.Proofs.YtfmfeipeeedfpaaGreat
namespace Go.Proofs.YtfmfeipeeedfpaaGreat
open S Go.RowKit
abbrev onC (e : Ev) : List Value := [.map (some 2), .map (some 3), raw (.slice e.tp e.tb.length e.cp)]
theorem only_call {d : Nat} {x : Ex} {e : Ev} (hu : XU d x) {w W : World} (hL : LT w d x) (he : EvL w e) (M : Mb w W) (E : ∀ a u, w.cell? a = some u → W.cell? a = some u) {k : K} {h : HT} (H : HR k h W (Nat.lor (bit 2) (bit 3)))
    {N : List (ByteArray × VL)} {C : List ((ByteArray × ByteArray) × CL)} (hN : hget h 2 = some (mpl (prB es9 VL.v N))) (hC : hget h 3 = some (mpl (prB es53 CL.v C))) {us : List Value} (hl : LR (VX k) [xY x, .agg (onC e).toArray] us)
    (hev : ∀ e' : Ev, e'.N = N → e'.C = C → e'.tb = e.tb → evE e' d x = evE e d x) (okN : ∀ p ∈ N, p.2.ok) (okC : ∀ p ∈ C, p.2.m.ok) : Calls Tryz.prog 12 us.toArray W fun r W' => r = .returned (evE e d x).v ∧ Mb W W' := by
  obtain ⟨u, r, rfl, h3, v, r', rfl, h4, h5⟩ := hl
  have h5 : r' = [] := h5
  subst h5
  have h3 : u = .agg x.c.toArray := pur2_eq h3 rfl
  subst h3
  obtain ⟨vs, rfl, l⟩ := h4.agg_inv
  obtain ⟨a, r, rfl, ha, b, r', rfl, hb, c, r'', rfl, hc, h6⟩ := l
  have h6 : r'' = [] := h6
  subst h6
  obtain ⟨b2, k2, rfl⟩ := ha.map_inv
  obtain ⟨b3, k3, rfl⟩ := hb.map_inv
  have hc := hc.raw_inv
  subst hc
  obtain ⟨es, e1, e2⟩ := (H.rep 2 (tb_or.2 (Or.inl (tb_bit.2 rfl))) _ hN).map k2
  obtain ⟨fs, f1, f2⟩ := (H.rep 3 (tb_or.2 (Or.inr (tb_bit.2 rfl))) _ hC).map k3
  have heW := he.mb M E
  have he' : EvL W ⟨some b2, some b3, e.tp, e.cp, N, C, e.tb⟩ := ⟨Or.inr ⟨b2, es, _, rfl, e1.1, mpl_inv e2⟩, Or.inr ⟨b3, fs, _, rfl, f1.1, mpl_inv f2⟩, okN, okC, heW.sl, heW.tl, heW.ln⟩
  have q := f_Eval hu W (hL.mono E) he'
  rw [hev ⟨some b2, some b3, e.tp, e.cp, N, C, e.tb⟩ rfl rfl rfl] at q
  exact q
set_option maxRecDepth 20000 in
theorem only_n {d : Nat} {x : Ex} {e : Ev} (hu : XU d x) (w : World) (hL : LT w d x) (he : EvL w e) (hb : nds d x ≤ 1000000000) : Calls Tryz.prog 8 #[.agg x.c.toArray, e.v] w fun r W => r = .returned (.bool true) ∧ Mb w W := by
  refine fn_pure [.agg (x.c.map rel1).toArray, e.y] Tryz.func8 rfl rfl rfl (run_ok (st mo ?_))
  cases hf : decide (szX 60 x ≤ 2000) with
  | false =>
    refine ⟨_, fun nn => r_call (t := litF) rfl rfl Tryz.func10 (fun W M E => u_fits hf (hL.mono E)), st mo ?_⟩
    exact ⟨_, fun nn => r_call (t := litT) rfl rfl Tryz.func11 (fun W M E => u_live W), st mo rfl⟩
  | true =>
    refine ⟨_, fun nn => r_call (t := litT) rfl rfl Tryz.func10 (fun W M E => u_fits hf (hL.mono E)), st mo ?_⟩
    refine ⟨_, fun nn => r_call (t := litT) rfl rfl Tryz.func11 (fun W M E => u_live W), st mo ?_⟩
    refine ⟨_, fun nn => r_mk, st mo ⟨_, fun nn => r_mk, st mo ?_⟩⟩
    have g1 := names_n d w x hL hb
    have g2 := cols_n d w x hL hb
    have k1 := @key_n d x
    have k2 := @key_c d x
    have l1 : (srt (ksN d x)).length ≤ 1000000000 := by have := gth_len kxN d x; rw [srt_len]; unfold ksN; rw [List.length_map]; omega
    have l2 : (srtC (ksC d x)).length ≤ 1000000000 := by have := gth_len kxC d x; rw [srtC_len]; unfold ksC; rw [List.length_map]; omega
    generalize srt (ksN d x) = N at g1 k1 l1
    generalize srtC (ksC d x) = K at g2 k2 l2
    rcases N with _ | ⟨n0, N⟩
    · refine ⟨_, fun nn => r_c (tc := .slice none 0 0) [] [] [] rfl rfl g1 (by exact fitL_cons fv rfl) trivial uv trivial, st mo (st mo ?_)⟩
      refine S.w_loop (fun _ : Nat => ⟨⟨Tryz.f8.ntmps, [(2, q0 0), (3, q0 1), (5, q0 4), (29, .int .i64 0), (30, .int .i64 0)]⟩, [(0, some (x.c.map rel1)), (1, some (e.cells.map rel1)), (4, some (onC e)), (2 + 4096, none), (2, some (mpl (prB es9 VL.v []))), (3 + 4096, none), (3, some (mpl (prB es53 CL.v [])))], 5, w⟩) (fun _ => True) (fun _ => 0) 0 trivial [0, 1, 2, 3, 4] ⟨rfl, ⟨fp, fp, fp, fv, fv, trivial⟩, ⟨flr rfl, flr rfl, fitL_cons fm (fitL_cons fm (fitL_cons fv rfl)), trivial, fml, trivial, fml, trivial⟩, xf, rfl, rfl⟩ ?_
      intro i _
      refine st mo ⟨fun h => absurd h (by omega), fun _ => st mo (st mo ?_)⟩
      obtain ⟨NN, hNN⟩ : ∃ NN, selB e.N [] [] = NN := ⟨_, rfl⟩
      rw [show ([] : List (ByteArray × VL)) = NN from hNN]
      rcases K with _ | ⟨q0', K⟩
      · refine ⟨_, fun nn => r_c (tc := .slice none 0 0) [] [] [] rfl rfl g2 (by exact fitL_cons fv rfl) trivial uv trivial, st mo (st mo ?_)⟩
        refine S.w_loop (fun _ : Nat => ⟨⟨Tryz.f8.ntmps, [(2, q0 0), (3, q0 1), (5, q0 4), (49, .int .i64 0), (50, .int .i64 0)]⟩, [(0, some (x.c.map rel1)), (1, some (e.cells.map rel1)), (4, some (onC e)), (2 + 4096, none), (2, some (mpl (prB es9 VL.v NN))), (3 + 4096, none), (3, some (mpl (prB es53 CL.v [])))], 5, w⟩) (fun _ => True) (fun _ => 0) 0 trivial [0, 1, 2, 3, 4] ⟨rfl, ⟨fp, fp, fp, fv, fv, trivial⟩, ⟨flr rfl, flr rfl, fitL_cons fm (fitL_cons fm (fitL_cons fv rfl)), trivial, fml, trivial, fml, trivial⟩, xf, rfl, rfl⟩ ?_
        intro i _
        refine st mo ⟨fun h => absurd h (by omega), fun _ => st mo (st mo ?_)⟩
        obtain ⟨CC, hCC⟩ : ∃ CC, selB e.C [] [] = CC := ⟨_, rfl⟩
        rw [show ([] : List ((ByteArray × ByteArray) × CL)) = CC from hCC]
        have hev : ∀ e' : Ev, e'.N = NN → e'.C = CC → e'.tb = e.tb → evE e' d x = evE e d x := fun e' h1 h2 h3 => ev_only h3 hL (fun s hs => by rw [h1, ← hNN]; exact sel_at (k1 hs)) (fun s hs => by rw [h2, ← hCC]; exact sel_at (k2 hs))
        have okN : ∀ p ∈ NN, p.2.ok := fun p hp => by
          rw [← hNN] at hp
          rcases sel_mem _ _ _ _ hp with h | h
          · cases h
          · exact he.no _ (lkB_mem h)
        have okC : ∀ p ∈ CC, p.2.m.ok := fun p hp => by
          rw [← hCC] at hp
          rcases sel_mem _ _ _ _ hp with h | h
          · cases h
          · exact he.co _ (lkB_mem h)
        refine ⟨_, fun nn => r_callG (t := (evE e d x).y) (Nat.lor (bit 2) (bit 3)) rfl rfl Tryz.func12 (fun k W us M E S H hl => only_call hu hL he M E H rfl rfl hl hev okN okC), st mo ?_⟩
        refine ⟨_, fun nn => r_call (t := (evE e d x).y) rfl rfl Tryz.func12 (fun W M E => f_Eval hu W (hL.mono E) (he.mb M E)), st mo ?_⟩
        exact ⟨_, r_eqV (evE e d x) (evE e d x), fun _ => st mo ⟨dk, st mo rfl⟩, fun q => absurd (q.symm.trans (svv_self _)) (by decide)⟩
      · refine ⟨_, fun nn => r_c (tc := .slice (some ⟨5, 0, none⟩) (K.length + 1) 2) [] [some ((cv (q0' :: K)).map rel1)] [5] rfl rfl g2 (by exact fitL_cons fv rfl) trivial us ⟨ulr rfl, trivial⟩, st mo (st mo ?_)⟩
        refine S.w_loop (fun i : Nat => ⟨⟨Tryz.f8.ntmps, [(2, q0 0), (3, q0 1), (5, q0 4), (48, .slice (some ⟨5, 0, none⟩) (q0' :: K).length 2), (49, .int .i64 ((q0' :: K).length : Int)), (50, .int .i64 (i : Int))]⟩, [(0, some (x.c.map rel1)), (1, some (e.cells.map rel1)), (4, some (onC e)), (2 + 4096, none), (2, some (mpl (prB es9 VL.v NN))), (3 + 4096, none), (3, some (mpl (prB es53 CL.v (selB e.C [] ((q0' :: K).take i))))), (5 + 4096, none), (5, some ((cv (q0' :: K)).map rel1))], 6, w⟩) (fun i => i ≤ (q0' :: K).length) (fun i => (q0' :: K).length - i) 0 (Nat.zero_le _) [0, 1, 2, 3, 4, 5] ⟨rfl, ⟨fp, fp, fp, fs, fv, fv, trivial⟩, ⟨flr rfl, flr rfl, fitL_cons fm (fitL_cons fm (fitL_cons fv rfl)), trivial, fml, trivial, fml, trivial, flr rfl, trivial⟩, xf, rfl, rfl⟩ ?_
        generalize q0' :: K = K at l2 k2
        intro i hi
        refine st mo ⟨fun hlt => st mo ?_, fun hge => st mo (st mo ?_)⟩
        · have hil : i < K.length := by omega
          obtain ⟨s, hs⟩ : ∃ s, K[i]? = some s := ⟨_, List.getElem?_eq_getElem hil⟩
          have hstep : selB e.C [] (K.take (i + 1)) = (match lkB e.C s with
            | some v => putB (selB e.C [] (K.take i)) s v
            | none => selB e.C [] (K.take i)) := by rw [List.take_add_one, hs, Option.toList_some, sel_snoc]; cases lkB e.C s <;> rfl
          refine ⟨i, rfl, hil, st mo ⟨_, cv_row hs, rfl, Or.inl (st mo ?_)⟩⟩
          have hlk := fun W M => he.lkc' (W := W) M s
          cases hv : lkB e.C s with
          | none =>
            rw [hv] at hstep hlk
            refine ⟨_, fun nn => r_look (t := .tuple #[cl0.y, litF]) rfl hlk, st mo ?_⟩
            refine ⟨_, wz (i + 1) rfl, st mo ?_⟩
            exact ⟨i + 1, hil, by dsimp; omega, [0, 1, 2, 3, 4, 5], rfl, ⟨fp, fp, fp, fs, fv, fv, trivial⟩, ⟨flr rfl, flr rfl, fitL_cons fm (fitL_cons fm (fitL_cons fv rfl)), trivial, fml, trivial, fml (by rw [hstep]), trivial, flr rfl, trivial⟩, xf, rfl, rfl⟩
          | some v =>
            rw [hv] at hstep hlk
            refine ⟨_, fun nn => r_look (t := .tuple #[v.y, litT]) rfl hlk, st mo ?_⟩
            refine ⟨_, fun nn => r_mpB (v := v) kb53 u33 nn rfl rfl rfl, st mo ⟨_, wz (i + 1) rfl, st mo ?_⟩⟩
            exact ⟨i + 1, hil, by dsimp; omega, [0, 1, 2, 3, 4, 5], rfl, ⟨fp, fp, fp, fs, fv, fv, trivial⟩, ⟨flr rfl, flr rfl, fitL_cons fm (fitL_cons fm (fitL_cons fv rfl)), trivial, fml, trivial, fml (by rw [hstep]), trivial, flr rfl, trivial⟩, xf, rfl, rfl⟩
        · obtain rfl : i = K.length := by omega
          rw [List.take_length]
          generalize hCC : selB e.C [] K = CC
          have hev : ∀ e' : Ev, e'.N = NN → e'.C = CC → e'.tb = e.tb → evE e' d x = evE e d x := fun e' h1 h2 h3 => ev_only h3 hL (fun s hs => by rw [h1, ← hNN]; exact sel_at (k1 hs)) (fun s hs => by rw [h2, ← hCC]; exact sel_at (k2 hs))
          have okN : ∀ p ∈ NN, p.2.ok := fun p hp => by
            rw [← hNN] at hp
            rcases sel_mem _ _ _ _ hp with h | h
            · cases h
            · exact he.no _ (lkB_mem h)
          have okC : ∀ p ∈ CC, p.2.m.ok := fun p hp => by
            rw [← hCC] at hp
            rcases sel_mem _ _ _ _ hp with h | h
            · cases h
            · exact he.co _ (lkB_mem h)
          refine ⟨_, fun nn => r_callG (t := (evE e d x).y) (Nat.lor (bit 2) (bit 3)) rfl rfl Tryz.func12 (fun k W us M E S H hl => only_call hu hL he M E H rfl rfl hl hev okN okC), st mo ?_⟩
          refine ⟨_, fun nn => r_call (t := (evE e d x).y) rfl rfl Tryz.func12 (fun W M E => f_Eval hu W (hL.mono E) (he.mb M E)), st mo ?_⟩
          exact ⟨_, r_eqV (evE e d x) (evE e d x), fun _ => st mo ⟨dk, st mo rfl⟩, fun q => absurd (q.symm.trans (svv_self _)) (by decide)⟩
    · refine ⟨_, fun nn => r_c (tc := .slice (some ⟨5, 0, none⟩) (N.length + 1) 1) [] [some ((sv (n0 :: N)).map rel1)] [5] rfl rfl g1 (by exact fitL_cons fv rfl) trivial us ⟨ulr rfl, trivial⟩, st mo (st mo ?_)⟩
      refine S.w_loop (fun i : Nat => ⟨⟨Tryz.f8.ntmps, [(2, q0 0), (3, q0 1), (5, q0 4), (28, .slice (some ⟨5, 0, none⟩) (n0 :: N).length 1), (29, .int .i64 ((n0 :: N).length : Int)), (30, .int .i64 (i : Int))]⟩, [(0, some (x.c.map rel1)), (1, some (e.cells.map rel1)), (4, some (onC e)), (2 + 4096, none), (2, some (mpl (prB es9 VL.v (selB e.N [] ((n0 :: N).take i))))), (3 + 4096, none), (3, some (mpl (prB es53 CL.v []))), (5 + 4096, none), (5, some ((sv (n0 :: N)).map rel1))], 6, w⟩) (fun i => i ≤ (n0 :: N).length) (fun i => (n0 :: N).length - i) 0 (Nat.zero_le _) [0, 1, 2, 3, 4, 5] ⟨rfl, ⟨fp, fp, fp, fs, fv, fv, trivial⟩, ⟨flr rfl, flr rfl, fitL_cons fm (fitL_cons fm (fitL_cons fv rfl)), trivial, fml, trivial, fml, trivial, flr rfl, trivial⟩, xf, rfl, rfl⟩ ?_
      generalize n0 :: N = L at l1 k1
      intro i hi
      refine st mo ⟨fun hlt => st mo ?_, fun hge => st mo (st mo ?_)⟩
      · have hil : i < L.length := by omega
        obtain ⟨s, hs⟩ : ∃ s, L[i]? = some s := ⟨_, List.getElem?_eq_getElem hil⟩
        have hstep : selB e.N [] (L.take (i + 1)) = (match lkB e.N s with
          | some v => putB (selB e.N [] (L.take i)) s v
          | none => selB e.N [] (L.take i)) := by rw [List.take_add_one, hs, Option.toList_some, sel_snoc]; cases lkB e.N s <;> rfl
        refine ⟨i, rfl, hil, st mo ⟨.string s, sv_at hs, st mo ?_⟩⟩
        have hlk := fun W M => he.lkn' (W := W) M s
        cases hv : lkB e.N s with
        | none =>
          rw [hv] at hstep hlk
          refine ⟨_, fun nn => r_look (t := .tuple #[vBl.y, litF]) rfl hlk, st mo ?_⟩
          refine ⟨_, wz (i + 1) rfl, st mo ?_⟩
          exact ⟨i + 1, hil, by dsimp; omega, [0, 1, 2, 3, 4, 5], rfl, ⟨fp, fp, fp, fs, fv, fv, trivial⟩, ⟨flr rfl, flr rfl, fitL_cons fm (fitL_cons fm (fitL_cons fv rfl)), trivial, fml (by rw [hstep]), trivial, fml, trivial, flr rfl, trivial⟩, xf, rfl, rfl⟩
        | some v =>
          rw [hv] at hstep hlk
          refine ⟨_, fun nn => r_look (t := .tuple #[v.y, litT]) rfl hlk, st mo ?_⟩
          refine ⟨_, fun nn => r_mpB (v := v) kb9 u32 nn rfl rfl rfl, st mo ⟨_, wz (i + 1) rfl, st mo ?_⟩⟩
          exact ⟨i + 1, hil, by dsimp; omega, [0, 1, 2, 3, 4, 5], rfl, ⟨fp, fp, fp, fs, fv, fv, trivial⟩, ⟨flr rfl, flr rfl, fitL_cons fm (fitL_cons fm (fitL_cons fv rfl)), trivial, fml (by rw [hstep]), trivial, fml, trivial, flr rfl, trivial⟩, xf, rfl, rfl⟩
      · obtain rfl : i = L.length := by omega
        rw [List.take_length]
        generalize hNN : selB e.N [] L = NN
        rcases K with _ | ⟨q0', K⟩
        · refine ⟨_, fun nn => r_c (tc := .slice none 0 0) [] [] [] rfl rfl g2 (by exact fitL_cons fv rfl) trivial uv trivial, st mo (st mo ?_)⟩
          refine S.w_loop (fun _ : Nat => ⟨⟨Tryz.f8.ntmps, [(2, q0 0), (3, q0 1), (5, q0 4), (49, .int .i64 0), (50, .int .i64 0)]⟩, [(0, some (x.c.map rel1)), (1, some (e.cells.map rel1)), (4, some (onC e)), (2 + 4096, none), (2, some (mpl (prB es9 VL.v NN))), (3 + 4096, none), (3, some (mpl (prB es53 CL.v [])))], 5, w⟩) (fun _ => True) (fun _ => 0) 0 trivial [0, 1, 2, 3, 4] ⟨rfl, ⟨fp, fp, fp, fv, fv, trivial⟩, ⟨flr rfl, flr rfl, fitL_cons fm (fitL_cons fm (fitL_cons fv rfl)), trivial, fml, trivial, fml, trivial⟩, xf, rfl, rfl⟩ ?_
          intro i _
          refine st mo ⟨fun h => absurd h (by omega), fun _ => st mo (st mo ?_)⟩
          obtain ⟨CC, hCC⟩ : ∃ CC, selB e.C [] [] = CC := ⟨_, rfl⟩
          rw [show ([] : List ((ByteArray × ByteArray) × CL)) = CC from hCC]
          have hev : ∀ e' : Ev, e'.N = NN → e'.C = CC → e'.tb = e.tb → evE e' d x = evE e d x := fun e' h1 h2 h3 => ev_only h3 hL (fun s hs => by rw [h1, ← hNN]; exact sel_at (k1 hs)) (fun s hs => by rw [h2, ← hCC]; exact sel_at (k2 hs))
          have okN : ∀ p ∈ NN, p.2.ok := fun p hp => by
            rw [← hNN] at hp
            rcases sel_mem _ _ _ _ hp with h | h
            · cases h
            · exact he.no _ (lkB_mem h)
          have okC : ∀ p ∈ CC, p.2.m.ok := fun p hp => by
            rw [← hCC] at hp
            rcases sel_mem _ _ _ _ hp with h | h
            · cases h
            · exact he.co _ (lkB_mem h)
          refine ⟨_, fun nn => r_callG (t := (evE e d x).y) (Nat.lor (bit 2) (bit 3)) rfl rfl Tryz.func12 (fun k W us M E S H hl => only_call hu hL he M E H rfl rfl hl hev okN okC), st mo ?_⟩
          refine ⟨_, fun nn => r_call (t := (evE e d x).y) rfl rfl Tryz.func12 (fun W M E => f_Eval hu W (hL.mono E) (he.mb M E)), st mo ?_⟩
          exact ⟨_, r_eqV (evE e d x) (evE e d x), fun _ => st mo ⟨dk, st mo rfl⟩, fun q => absurd (q.symm.trans (svv_self _)) (by decide)⟩
        · refine ⟨_, fun nn => r_c (tc := .slice (some ⟨6, 0, none⟩) (K.length + 1) 2) [] [some ((cv (q0' :: K)).map rel1)] [6] rfl rfl g2 (by exact fitL_cons fv rfl) trivial us ⟨ulr rfl, trivial⟩, st mo (st mo ?_)⟩
          refine S.w_loop (fun i : Nat => ⟨⟨Tryz.f8.ntmps, [(2, q0 0), (3, q0 1), (5, q0 4), (48, .slice (some ⟨5, 0, none⟩) (q0' :: K).length 2), (49, .int .i64 ((q0' :: K).length : Int)), (50, .int .i64 (i : Int))]⟩, [(0, some (x.c.map rel1)), (1, some (e.cells.map rel1)), (4, some (onC e)), (2 + 4096, none), (2, some (mpl (prB es9 VL.v NN))), (3 + 4096, none), (3, some (mpl (prB es53 CL.v (selB e.C [] ((q0' :: K).take i))))), (5 + 4096, none), (5, some ((cv (q0' :: K)).map rel1))], 6, w⟩) (fun i => i ≤ (q0' :: K).length) (fun i => (q0' :: K).length - i) 0 (Nat.zero_le _) [0, 1, 2, 3, 4, 6] ⟨rfl, ⟨fp, fp, fp, fs, fv, fv, trivial⟩, ⟨flr rfl, flr rfl, fitL_cons fm (fitL_cons fm (fitL_cons fv rfl)), trivial, fml, trivial, fml, trivial, flr rfl, trivial⟩, xf, rfl, rfl⟩ ?_
          generalize q0' :: K = K at l2 k2
          intro i hi
          refine st mo ⟨fun hlt => st mo ?_, fun hge => st mo (st mo ?_)⟩
          · have hil : i < K.length := by omega
            obtain ⟨s, hs⟩ : ∃ s, K[i]? = some s := ⟨_, List.getElem?_eq_getElem hil⟩
            have hstep : selB e.C [] (K.take (i + 1)) = (match lkB e.C s with
              | some v => putB (selB e.C [] (K.take i)) s v
              | none => selB e.C [] (K.take i)) := by rw [List.take_add_one, hs, Option.toList_some, sel_snoc]; cases lkB e.C s <;> rfl
            refine ⟨i, rfl, hil, st mo ⟨_, cv_row hs, rfl, Or.inl (st mo ?_)⟩⟩
            have hlk := fun W M => he.lkc' (W := W) M s
            cases hv : lkB e.C s with
            | none =>
              rw [hv] at hstep hlk
              refine ⟨_, fun nn => r_look (t := .tuple #[cl0.y, litF]) rfl hlk, st mo ?_⟩
              refine ⟨_, wz (i + 1) rfl, st mo ?_⟩
              exact ⟨i + 1, hil, by dsimp; omega, [0, 1, 2, 3, 4, 5], rfl, ⟨fp, fp, fp, fs, fv, fv, trivial⟩, ⟨flr rfl, flr rfl, fitL_cons fm (fitL_cons fm (fitL_cons fv rfl)), trivial, fml, trivial, fml (by rw [hstep]), trivial, flr rfl, trivial⟩, xf, rfl, rfl⟩
            | some v =>
              rw [hv] at hstep hlk
              refine ⟨_, fun nn => r_look (t := .tuple #[v.y, litT]) rfl hlk, st mo ?_⟩
              refine ⟨_, fun nn => r_mpB (v := v) kb53 u33 nn rfl rfl rfl, st mo ⟨_, wz (i + 1) rfl, st mo ?_⟩⟩
              exact ⟨i + 1, hil, by dsimp; omega, [0, 1, 2, 3, 4, 5], rfl, ⟨fp, fp, fp, fs, fv, fv, trivial⟩, ⟨flr rfl, flr rfl, fitL_cons fm (fitL_cons fm (fitL_cons fv rfl)), trivial, fml, trivial, fml (by rw [hstep]), trivial, flr rfl, trivial⟩, xf, rfl, rfl⟩
          · obtain rfl : i = K.length := by omega
            rw [List.take_length]
            generalize hCC : selB e.C [] K = CC
            have hev : ∀ e' : Ev, e'.N = NN → e'.C = CC → e'.tb = e.tb → evE e' d x = evE e d x := fun e' h1 h2 h3 => ev_only h3 hL (fun s hs => by rw [h1, ← hNN]; exact sel_at (k1 hs)) (fun s hs => by rw [h2, ← hCC]; exact sel_at (k2 hs))
            have okN : ∀ p ∈ NN, p.2.ok := fun p hp => by
              rw [← hNN] at hp
              rcases sel_mem _ _ _ _ hp with h | h
              · cases h
              · exact he.no _ (lkB_mem h)
            have okC : ∀ p ∈ CC, p.2.m.ok := fun p hp => by
              rw [← hCC] at hp
              rcases sel_mem _ _ _ _ hp with h | h
              · cases h
              · exact he.co _ (lkB_mem h)
            refine ⟨_, fun nn => r_callG (t := (evE e d x).y) (Nat.lor (bit 2) (bit 3)) rfl rfl Tryz.func12 (fun k W us M E S H hl => only_call hu hL he M E H rfl rfl hl hev okN okC), st mo ?_⟩
            refine ⟨_, fun nn => r_call (t := (evE e d x).y) rfl rfl Tryz.func12 (fun W M E => f_Eval hu W (hL.mono E) (he.mb M E)), st mo ?_⟩
            exact ⟨_, r_eqV (evE e d x) (evE e d x), fun _ => st mo ⟨dk, st mo rfl⟩, fun q => absurd (q.symm.trans (svv_self _)) (by decide)⟩
end Go.Proofs.YtfmfeipeeedfpaaGreat
