/-
  Columns, as the document tells them: how two stand, whether they are one. Columns, as the document tells them. Columns, as the document tells them: one put where it belongs.
-/
import Derived.Test.YtfmfeipeeedfpaaGreatMg
namespace Go.Proofs.YtfmfeipeeedfpaaGreat
open S Go.Sort Go.Lib
set_option maxRecDepth 20000 in
theorem t_key (x : Ex) (w : World) : Calls Tryz.prog 34 #[.agg x.c.toArray] w fun e W => e = .returned (es53 (colK x)) ∧ Mb w W := by
  unfold colK
  by_cases h : x.op = 16
  · rw [if_pos h]
    exact fn_pure [.agg (x.c.map rel1).toArray] Tryz.func34 rfl rfl rfl (run_ok (st mo ⟨fun _ => st mo rfl, fun h' => absurd h h'⟩))
  · rw [if_neg h]
    exact fn_pure [.agg (x.c.map rel1).toArray] Tryz.func34 rfl rfl rfl (run_ok (st mo ⟨fun h' => absurd h' h, fun _ => st mo rfl⟩))
def ltcb (p q : CK) : Bool := ltb p.1 q.1 || (decide (p.1 = q.1) && ltb p.2 q.2)
theorem ltcb_t {p q : CK} : ltcb p q = true ↔ ltc p q := by
  unfold ltcb ltc
  rw [Bool.or_eq_true, Bool.and_eq_true, ltb_t, ltb_t, decide_eq_true_iff]
set_option maxRecDepth 20000 in
theorem t_less (p q : CK) (w : World) : Calls Tryz.prog 87 #[es53 p, es53 q] w fun e W => e = .returned (.bool (ltcb p q)) ∧ Mb w W := by
  unfold ltcb
  cases h1 : ltb p.1 q.1 with
  | true =>
    exact fn_pure [.agg #[.string p.1, .string p.2], .agg #[.string q.1, .string q.2]] Tryz.func87 rfl rfl rfl (run_ok (st mo ⟨litT, s_lt (ltb_t.1 h1), rfl, st mo rfl⟩))
  | false =>
    by_cases h2 : p.1 = q.1
    · rw [decide_eq_true h2]
      cases h3 : ltb p.2 q.2 with
      | true => exact fn_pure [.agg #[.string p.1, .string p.2], .agg #[.string q.1, .string q.2]] Tryz.func87 rfl rfl rfl (run_ok (st mo ⟨litF, s_nlt (ltb_f.1 h1), rfl, st mo ⟨fun _ => st mo ⟨litT, s_lt (ltb_t.1 h3), rfl, st mo rfl⟩, fun h => absurd h2 h⟩⟩))
      | false => exact fn_pure [.agg #[.string p.1, .string p.2], .agg #[.string q.1, .string q.2]] Tryz.func87 rfl rfl rfl (run_ok (st mo ⟨litF, s_nlt (ltb_f.1 h1), rfl, st mo ⟨fun _ => st mo ⟨litF, s_nlt (ltb_f.1 h3), rfl, st mo rfl⟩, fun h => absurd h2 h⟩⟩))
    · rw [decide_eq_false h2]
      exact fn_pure [.agg #[.string p.1, .string p.2], .agg #[.string q.1, .string q.2]] Tryz.func87 rfl rfl rfl (run_ok (st mo ⟨litF, s_nlt (ltb_f.1 h1), rfl, st mo ⟨fun h => absurd h h2, fun _ => st mo rfl⟩⟩))
theorem ne53 (p q : CK) (x y : Operand) (w : World) : (do eqGuard .neq 53 x y (es53 p) (es53 q); binOp .neq 53 (es53 p) (es53 q) : Sem Value).run Tryz.prog w = .ok (.bool (!decide (p = q))) w := by
  have hg : (eqGuard .neq 53 x y (es53 p) (es53 q)).run Tryz.prog w = .ok () w := by kernel_rfl
  rw [Sem.run_bind, hg, Result.andThen_ok, run_neq_struct, eq53]
  rfl
theorem r_ne {w0 : B0} {X : World} {o : Oper} {fr : FT} {h : HT} {n : Nat} {y z : Operand} {t' : TypeId} (p q : CK) (ho : o.op = .binOp .neq 53 y z t' := by rfl) (hy : den2 (evo fr y) = es53 p := by rfl) (hz : den2 (evo fr z) = es53 q := by rfl) (hpy : pur2 (evo fr y) = true := by rfl) (hpz : pur2 (evo fr z) = true := by rfl) : Oa (Am w0 X) Tryz.prog o fr h n ⟨.bool (!decide (p = q)), h, n, 0, 0⟩ :=
  Oo.to (s_bin0 ho (fun k u hu => by rw [pur2_eq hu hpy, hy]) (fun k u hu => by rw [pur2_eq hu hpz, hz]) rfl (fun w => ne53 p q y z w))
end Go.Proofs.YtfmfeipeeedfpaaGreat
namespace Go.Proofs.YtfmfeipeeedfpaaGreat
open S Go.Sort Go.Lib
def hK1 (L : List CK) : HT := match L with
  | [] => []
  | _ :: _ => [(1 + 4096, none), (1, some ((cv L).map rel1))]
def nK1 (L : List CK) : Nat := match L with
  | [] => 1
  | _ :: _ => 2
abbrev TC (x : Ex) (L : List CK) (X : World) : St := ⟨⟨68, [(1, lvK 1 L), (2, p0 0)]⟩, (0, some (x.c.map rel1)) :: hK1 L, nK1 L, X⟩
def CaC (d : Nat) : Prop := ∀ (X : World) (x : Ex) (L : List CK), LT X d x → L.length + nds d x ≤ 1000000000 → Ctr Tryz.prog X 57 [.agg (x.c.map rel1).toArray, lvK 0 L] (hSc L) (nSc L) 0 (lvK 0 (gtD kxC ltcb d x L)) (hSc (gtD kxC ltcb d x L)) (nSc (gtD kxC ltcb d x L))
set_option maxRecDepth 20000 in
theorem col_t {d : Nat} (ih : ∀ d', d' + 1 = d → CaC d') {w : World} {l : Nat → Nat × Nat} {X : World} {x : Ex} {L : List CK} (hL : LT X d x) (hb : L.length + x.a.foldl (fun n y => n + nds (d - 1) y) 0 ≤ 1000000000) :
    Rn Tryz.prog ⟨w, 0, l⟩ (retC Tryz.prog Tryz.f57 X 0 (lvK 0 (x.a.foldl (fun s y => gtD kxC ltcb (d - 1) y s) L)) (hSc (x.a.foldl (fun s y => gtD kxC ltcb (d - 1) y s) L)) (nSc (x.a.foldl (fun s y => gtD kxC ltcb (d - 1) y s) L))) (cf (TC x L X) [co (sndC (sndC (Tryz.f57.body.getD .skip)))]) := by
  have hlen := hL.len
  have start : ∀ M : List CK, ∃ σ, Fit 0 ⟨⟨68, (8, .int .i64 0) :: [(1, lvK 1 M), (2, p0 0)]⟩, (0, some (x.c.map rel1)) :: hK1 M, nK1 M, X⟩ ⟨⟨68, [(1, lvK 1 M), (2, p0 0), (8, .int .i64 ((0 : Nat) : Int))]⟩, (0, some (x.c.map rel1)) :: hK1 M, nK1 M, X⟩ σ := by
    intro M
    rcases M with _ | ⟨m, M⟩
    · exact ⟨[0], rfl, ⟨fv, fp, fv, trivial⟩, ⟨flr rfl, trivial⟩, xf, rfl, rfl⟩
    · exact ⟨[0, 1], rfl, ⟨fs, fp, fv, trivial⟩, ⟨flr rfl, trivial, flr rfl, trivial⟩, xf, rfl, rfl⟩
  obtain ⟨σ0, F0⟩ := start L
  refine st mo ?_
  refine w_loop (fun i : Nat => ⟨⟨68, [(1, lvK 1 ((x.a.take i).foldl (fun s y => gtD kxC ltcb (d - 1) y s) L)), (2, p0 0), (8, .int .i64 (i : Int))]⟩, (0, some (x.c.map rel1)) :: hK1 ((x.a.take i).foldl (fun s y => gtD kxC ltcb (d - 1) y s) L), nK1 ((x.a.take i).foldl (fun s y => gtD kxC ltcb (d - 1) y s) L), X⟩)
    (fun i => i ≤ x.a.length ∧ ((x.a.take i).foldl (fun s y => gtD kxC ltcb (d - 1) y s) L).length ≤ L.length + (x.a.take i).foldl (fun n y => n + nds (d - 1) y) 0) (fun i => x.a.length - i) 0 ⟨by omega, by simp⟩ σ0 F0 ?_
  intro i ⟨hi, hli⟩
  generalize hal : (x.a.take i).foldl (fun s y => gtD kxC ltcb (d - 1) y s) L = M at hli ⊢
  by_cases hil : i < x.a.length
  · obtain ⟨y, hy⟩ : ∃ y, x.a[i]? = some y := ⟨_, List.getElem?_eq_getElem hil⟩
    cases d with
    | zero => rw [show x.a = [] from hL] at hy; cases hy
    | succ d =>
    obtain ⟨⟨b, o, h4, h5⟩, h8⟩ := hL.at hy
    have hstep : (x.a.take (i + 1)).foldl (fun n y => n + nds d y) 0 = (x.a.take i).foldl (fun n y => n + nds d y) 0 + nds d y := by rw [List.take_add_one, hy, List.foldl_append]; rfl
    have hmono : (x.a.take (i + 1)).foldl (fun n y => n + nds d y) 0 ≤ x.a.foldl (fun n y => n + nds d y) 0 := by
      have := fold_nds (d := d) (x.a.drop (i + 1)) ((x.a.take (i + 1)).foldl (fun n y => n + nds d y) 0)
      rw [← List.foldl_append, List.take_append_drop] at this
      omega
    have hb' : L.length + x.a.foldl (fun n y => n + nds d y) 0 ≤ 1000000000 := hb
    have hli : M.length ≤ L.length + (x.a.take i).foldl (fun n y => n + nds d y) 0 := hli
    have g := ih d rfl X y M h8 (by omega)
    have gl := gtD_len kxC ltcb d y M
    have hal2 : gtD kxC ltcb d y M = (x.a.take (i + 1)).foldl (fun s y => gtD kxC ltcb d y s) L := by rw [List.take_add_one, hy, List.foldl_append, ← hal]; rfl
    have hpre : i + 1 ≤ x.a.length ∧ ((x.a.take (i + 1)).foldl (fun s y => gtD kxC ltcb d y s) L).length ≤ L.length + (x.a.take (i + 1)).foldl (fun n y => n + nds d y) 0 := ⟨hil, by rw [← hal2, hstep]; omega⟩
    generalize gtD kxC ltcb d y M = N at g gl hal2
    rcases M with _ | ⟨m, M⟩
    · rcases N with _ | ⟨q, N⟩
      · refine st mo (st mo ⟨fun hlt => st mo ⟨b, o, i, h4, rfl, hil, st mo ⟨y.c, rfl, h5, st mo ?_⟩⟩, fun hge => absurd hge (by omega)⟩)
        refine ⟨_, fun nn => r_c (tc := .slice none 0 0) [] [] [] rfl rfl g (by exact fitL_cons fv (fitL_cons fv rfl)) trivial uv trivial, st mo ⟨_, wz (i + 1) rfl, st mo ?_⟩⟩
        refine ⟨i + 1, hpre, by dsimp; omega, [0], ?_⟩
        show Fit 0 _ ⟨⟨68, [(1, lvK 1 ((x.a.take (i + 1)).foldl (fun s y => gtD kxC ltcb d y s) L)), (2, p0 0), (8, .int .i64 ((i + 1 : Nat) : Int))]⟩, (0, some (x.c.map rel1)) :: hK1 ((x.a.take (i + 1)).foldl (fun s y => gtD kxC ltcb d y s) L), nK1 ((x.a.take (i + 1)).foldl (fun s y => gtD kxC ltcb d y s) L), X⟩ _
        rw [← hal2]
        exact ⟨rfl, ⟨fv, fp, fv, trivial⟩, ⟨flr rfl, trivial⟩, xf, rfl, rfl⟩
      · refine st mo (st mo ⟨fun hlt => st mo ⟨b, o, i, h4, rfl, hil, st mo ⟨y.c, rfl, h5, st mo ?_⟩⟩, fun hge => absurd hge (by omega)⟩)
        refine ⟨_, fun nn => r_c (tc := .slice (some ⟨1, 0, none⟩) (N.length + 1) 2) [] [some ((cv (q :: N)).map rel1)] [1] rfl rfl g (by exact fitL_cons fv (fitL_cons fv rfl)) trivial us ⟨ulr rfl, trivial⟩, st mo ⟨_, wz (i + 1) rfl, st mo ?_⟩⟩
        refine ⟨i + 1, hpre, by dsimp; omega, [0, 1], ?_⟩
        show Fit 0 _ ⟨⟨68, [(1, lvK 1 ((x.a.take (i + 1)).foldl (fun s y => gtD kxC ltcb d y s) L)), (2, p0 0), (8, .int .i64 ((i + 1 : Nat) : Int))]⟩, (0, some (x.c.map rel1)) :: hK1 ((x.a.take (i + 1)).foldl (fun s y => gtD kxC ltcb d y s) L), nK1 ((x.a.take (i + 1)).foldl (fun s y => gtD kxC ltcb d y s) L), X⟩ _
        rw [← hal2]
        exact ⟨rfl, ⟨fs, fp, fv, trivial⟩, ⟨flr rfl, trivial, flr rfl, trivial⟩, xf, rfl, rfl⟩
    · rcases N with _ | ⟨q, N⟩
      · exact absurd gl.2 (by simp)
      · refine st mo (st mo ⟨fun hlt => st mo ⟨b, o, i, h4, rfl, hil, st mo ⟨y.c, rfl, h5, st mo ?_⟩⟩, fun hge => absurd hge (by omega)⟩)
        refine ⟨_, fun nn => r_c (tc := .slice (some ⟨2, 0, none⟩) (N.length + 1) 2) [1] [some ((cv (q :: N)).map rel1)] [2] rfl rfl g (by exact fitL_cons fv (fitL_cons fs rfl)) ⟨trivial, flr rfl, trivial⟩ us ⟨ulr rfl, trivial⟩, st mo ⟨_, wz (i + 1) rfl, st mo ?_⟩⟩
        refine ⟨i + 1, hpre, by dsimp; omega, [0, 2], ?_⟩
        show Fit 0 _ ⟨⟨68, [(1, lvK 1 ((x.a.take (i + 1)).foldl (fun s y => gtD kxC ltcb d y s) L)), (2, p0 0), (8, .int .i64 ((i + 1 : Nat) : Int))]⟩, (0, some (x.c.map rel1)) :: hK1 ((x.a.take (i + 1)).foldl (fun s y => gtD kxC ltcb d y s) L), nK1 ((x.a.take (i + 1)).foldl (fun s y => gtD kxC ltcb d y s) L), X⟩ _
        rw [← hal2]
        exact ⟨rfl, ⟨fs, fp, fv, trivial⟩, ⟨flr rfl, trivial, flr rfl, trivial⟩, xf, rfl, rfl⟩
  · have : i = x.a.length := by omega
    subst this
    rw [List.take_length] at hal
    rw [hal]
    rcases M with _ | ⟨m, M⟩
    · refine st mo (st mo ⟨fun hlt => absurd hlt (by omega), fun hge => st mo (st mo ?_)⟩)
      exact ⟨rfl, [], fv, trivial, rfl, rfl⟩
    · refine st mo (st mo ⟨fun hlt => absurd hlt (by omega), fun hge => st mo (st mo ?_)⟩)
      exact ⟨rfl, [1], fs, ⟨trivial, flr rfl, trivial⟩, rfl, rfl⟩
theorem one_cv : ∀ L : List CK, allOne ((cv L).map rel1) = true
  | [] => rfl
  | a :: L => by simp only [cv, List.flatMap_cons, List.map_append]; exact one_cv L
theorem cv_row : ∀ {L : List CK} {k : Nat} {a : CK}, L[k]? = some a → (((cv L).map rel1).drop (k * 2)).take 2 = [.string a.1, .string a.2]
  | [], k, a, h => by cases h
  | b :: L, 0, a, h => by simp at h; subst h; rfl
  | b :: L, k + 1, a, h => by
    have := cv_row (L := L) (k := k) (a := a) (by simpa using h)
    rw [show (k + 1) * 2 = 2 + k * 2 by omega, ← List.drop_drop]
    exact this
theorem cv_take (L : List CK) (k : Nat) (h : k ≤ L.length) : (cv (L.take k)).map rel1 = (((cv L).map rel1).drop 0).take (k * 2) ∧ ((cv (L.take k)).map rel1).length = k * 2 := by
  have h2 : ((cv (L.take k)).map rel1).length = k * 2 := by rw [List.length_map, cv_len, List.length_take]; omega
  refine ⟨?_, h2⟩
  have : (cv L).map rel1 = (cv (L.take k)).map rel1 ++ (cv (L.drop k)).map rel1 := by
    rw [← List.map_append]; congr 1
    show cv L = List.flatMap ec (L.take k) ++ List.flatMap ec (L.drop k)
    rw [← List.flatMap_append, List.take_append_drop]
  rw [List.drop_zero, this, List.take_left' h2]
theorem cv_drop (L : List CK) (k : Nat) (h : k ≤ L.length) : (cv (L.drop k)).map rel1 = (((cv L).map rel1).drop (0 + k * 2)).take ((L.length - k) * 2) ∧ ((cv (L.drop k)).map rel1).length = (L.length - k) * 2 := by
  have h2 : ((cv (L.take k)).map rel1).length = k * 2 := by rw [List.length_map, cv_len, List.length_take]; omega
  have h3 : ((cv (L.drop k)).map rel1).length = (L.length - k) * 2 := by rw [List.length_map, cv_len, List.length_drop]
  refine ⟨?_, h3⟩
  have : (cv L).map rel1 = (cv (L.take k)).map rel1 ++ (cv (L.drop k)).map rel1 := by
    rw [← List.map_append]; congr 1
    show cv L = List.flatMap ec (L.take k) ++ List.flatMap ec (L.drop k)
    rw [← List.flatMap_append, List.take_append_drop]
  rw [Nat.zero_add, this, List.drop_left' h2, List.take_of_length_le (by rw [h3]; exact Nat.le_refl _)]
end Go.Proofs.YtfmfeipeeedfpaaGreat
namespace Go.Proofs.YtfmfeipeeedfpaaGreat
open S Go.Sort Go.Lib
set_option maxRecDepth 20000 in
theorem col_s {d : Nat} (ih : ∀ d', d' + 1 = d → CaC d') : CaC d := fun X x L hL hb => by
  rw [gtD_eq kxC ltcb hL L]
  have hb1 := hb
  rw [nds_eq hL] at hb1
  by_cases hk : x.k = 10
  · have e1 : oneD kxC ltcb x L = insL ltcb L (colK x) := by unfold oneD kxC; rw [if_pos hk]
    rw [e1]
    have hil := insL_len ltcb L (colK x)
    rcases L with _ | ⟨q, L⟩
    · have e2 : insL ltcb ([] : List CK) (colK x) = [colK x] := rfl
      rw [e2]
      refine fn_c _ Tryz.func57 rfl rfl rfl rfl (fun w l X' hX => run_ok (st mo ?_))
      have tl := col_t (w := w) (l := l) ih (L := [colK x]) (hL.mono (xcell hX)) (by simp at hb1 ⊢; omega)
      refine ⟨fun _ => st mo ?_, fun h => absurd hk h⟩
      refine ⟨_, fun nn => r_call (t := es53 (colK x)) rfl rfl Tryz.func34 (fun W M E => t_key x W), st mo ?_⟩
      refine w_loop (fun _ : Nat => ⟨⟨68, [(1, .slice none 0 0), (2, p0 0), (5, p0 1), (6, .int .i64 0)]⟩, [(0, some (x.c.map rel1)), (1, some [.string (colK x).1, .string (colK x).2])], 2, X'⟩) (fun _ => True) (fun _ => 0) 0 trivial [0, 1] ⟨rfl, ⟨fv, fp, fp, fv, trivial⟩, ⟨flr rfl, fl rfl rfl, trivial⟩, xf, rfl, rfl⟩ ?_
      intro i _
      refine st mo (st mo ⟨fun h => absurd h (by omega), fun _ => st mo ⟨dk, st mo (st mo (st mo ⟨fun _ => st mo ⟨dk, st mo ?_⟩, fun h => absurd rfl h⟩))⟩⟩)
      refine ⟨_, fun nn => r_slN (Or.inl rfl) (Or.inr ⟨_, _, rfl, rfl⟩), st mo ⟨_, fun nn => r_apN, st mo ⟨1, [.string (colK x).1, .string (colK x).2], _, put_own rfl rfl rfl rfl rfl, by omega, by omega, st mo ⟨dk, st mo ?_⟩⟩⟩⟩
      refine ⟨_, fun nn => r_slN (Or.inr ⟨_, _, rfl, rfl⟩) (Or.inl rfl), st mo ⟨_, fun nn => r_apE, adv_ok mo 1 _ ?_⟩⟩
      exact rn_fit (TC x [colK x] X') [0, 3] ⟨rfl, ⟨fs, fp, trivial⟩, ⟨flr rfl, trivial, flr rfl, trivial⟩, xf, rfl, rfl⟩ tl
    · refine fn_c _ Tryz.func57 rfl rfl rfl rfl (fun w l X' hX => run_ok (st mo ?_))
      have tl := col_t (w := w) (l := l) ih (L := insL ltcb (q :: L) (colK x)) (hL.mono (xcell hX)) (by omega)
      have hcl := cntL_le ltcb (colK x) (q :: L)
      have hml : (q :: L).length = L.length + 1 := rfl
      generalize hN : insL ltcb (q :: L) (colK x) = N at tl hil ⊢
      rcases N with _ | ⟨n0, N⟩
      · exact absurd hil.2.2 (by simp)
      refine ⟨fun _ => st mo ?_, fun h => absurd hk h⟩
      refine ⟨_, fun nn => r_call (t := es53 (colK x)) rfl rfl Tryz.func34 (fun W M E => t_key x W), st mo ?_⟩
      refine w_loop (fun k : Nat => ⟨⟨68, [(1, .slice (some ⟨0, 0, none⟩) (L.length + 1) 2), (2, p0 1), (5, p0 2), (6, .int .i64 (k : Int))]⟩, [(0 + 4096, none), (0, some ((cv (q :: L)).map rel1)), (1, some (x.c.map rel1)), (2, some [.string (colK x).1, .string (colK x).2])], 3, X'⟩) (fun k => k ≤ cntL ltcb (colK x) (q :: L)) (fun k => L.length + 1 - k) 0 (Nat.zero_le _) [0, 1, 2] ⟨rfl, ⟨fs, fp, fp, fv, trivial⟩, ⟨trivial, flr rfl, flr rfl, fl rfl rfl, trivial⟩, xf, rfl, rfl⟩ ?_
      intro k hkc0
      refine st mo (st mo ⟨fun hlt => ?_, fun hge => ?_⟩)
      · have hkl : k < L.length + 1 := by omega
        obtain ⟨a, ha⟩ : ∃ a, (q :: L)[k]? = some a := ⟨_, List.getElem?_eq_getElem hkl⟩
        have hc := cntL_lt ltcb (colK x) (q :: L) k a hkc0 ha
        refine st mo ⟨k, rfl, hkl, st mo ⟨_, cv_row ha, rfl, Or.inl (st mo ?_)⟩⟩
        cases hab : ltcb a (colK x) with
        | true =>
          refine ⟨_, fun nn => r_call (t := litT) rfl rfl Tryz.func87 (fun W M E => by have := t_less a (colK x) W; rw [hab] at this; exact this), st mo ⟨dk, st mo ⟨_, wz (k + 1) rfl, st mo ?_⟩⟩⟩
          exact ⟨k + 1, hc.1 hab, by dsimp; omega, [0, 1, 2], rfl, ⟨fs, fp, fp, fv, trivial⟩, ⟨trivial, flr rfl, flr rfl, fl rfl rfl, trivial⟩, xf, rfl, rfl⟩
        | false =>
          have hkc := hc.2 hab
          refine ⟨_, fun nn => r_call (t := litF) rfl rfl Tryz.func87 (fun W M E => by have := t_less a (colK x) W; rw [hab] at this; exact this), st mo ⟨dk, st mo (st mo (st mo ⟨fun h => absurd h (by omega), fun _ => st mo ⟨k, rfl, hkl, st mo ⟨_, cv_row ha, rfl, Or.inl (st mo ?_)⟩⟩⟩))⟩⟩
          refine ⟨_, r_ne a (colK x), fun hne => ?_, fun he => ?_⟩
          · have hne : a ≠ colK x := fun e => by rw [decide_eq_true e] at hne; cases hne
            have hi : n0 :: N = (q :: L).take k ++ colK x :: (q :: L).drop k := by rw [← hN]; unfold insL; rw [← hkc, ha, if_neg (fun e => hne (Option.some.inj e))]
            have hlen : N.length = L.length + 1 := by
              have := congrArg List.length hi
              simp only [List.length_append, List.length_take, List.length_cons, List.length_drop] at this
              omega
            have hcv : (cv (n0 :: N)).map rel1 = (cv ((q :: L).take k)).map rel1 ++ [.string (colK x).1, .string (colK x).2] ++ (cv ((q :: L).drop k)).map rel1 := by
              rw [hi]
              simp only [cv, List.flatMap_append, List.flatMap_cons, List.map_append, List.append_assoc]
              rfl
            obtain ⟨d1, d2⟩ := cv_drop (q :: L) k (by omega)
            rcases Nat.eq_zero_or_pos k with hk0 | hk0
            · subst hk0
              refine st mo ⟨dk, st mo ⟨_, fun nn => r_slE0 (b := 0) (q := 0) (m := L.length + 1) (es := 2) rfl, st mo ⟨_, fun nn => r_apN, st mo ⟨1, [.string (colK x).1, .string (colK x).2], _, put_own rfl rfl rfl rfl rfl, by omega, by omega, st mo ⟨dk, st mo ?_⟩⟩⟩⟩⟩
              refine ⟨_, fun nn => r_slL (b := 0) (q := 0) (m := L.length + 1) (es := 2) (k := 0) rfl hkl, st mo ⟨rfl, L.length + 1 - 0, (cv ((q :: L).drop 0)).map rel1, _, put_own rfl d1 d2 (one_cv _) rfl, by omega, _, rfl, adv_ok mo 1 _ ?_⟩⟩
              refine rn_fit (TC x (n0 :: N) X') [1, 5] ⟨rfl, ⟨?_, fp, trivial⟩, ⟨flr rfl, trivial, flr ?_, trivial⟩, xf, rfl, rfl⟩ tl
              · show fitV _ (.slice (some ⟨5, 0, none⟩) (1 + (L.length + 1 - 0)) 2) (.slice (some ⟨1, 0, none⟩) (N.length + 1) 2)
                rw [hlen, show 1 + (L.length + 1 - 0) = L.length + 1 + 1 by omega]
                exact fs
              · rw [hcv]; rfl
            · obtain ⟨c1, c2⟩ := cv_take (q :: L) k (by omega)
              refine st mo ⟨dk, st mo ⟨_, fun nn => r_slH (b := 0) (q := 0) (m := L.length + 1) (es := 2) (k := k) rfl (by omega), st mo ⟨k, (cv ((q :: L).take k)).map rel1, _, put_own rfl c1 c2 (one_cv _) rfl, hk0, by omega, st mo ⟨c2, 1, [.string (colK x).1, .string (colK x).2], _, put_own rfl rfl rfl rfl rfl, by omega, _, rfl, st mo ⟨dk, st mo ?_⟩⟩⟩⟩⟩
              refine ⟨_, fun nn => r_slL (b := 0) (q := 0) (m := L.length + 1) (es := 2) (k := k) rfl hkl, st mo ⟨?_, L.length + 1 - k, (cv ((q :: L).drop k)).map rel1, _, put_own rfl d1 d2 (one_cv _) rfl, by omega, _, rfl, adv_ok mo 1 _ ?_⟩⟩
              · rw [List.length_append, c2]
                show k * 2 + 2 = (k + 1) * 2
                omega
              refine rn_fit (TC x (n0 :: N) X') [1, 6] ⟨rfl, ⟨?_, fp, trivial⟩, ⟨flr rfl, trivial, flr ?_, trivial⟩, xf, rfl, rfl⟩ tl
              · show fitV _ (.slice (some ⟨6, 0, none⟩) (k + 1 + (L.length + 1 - k)) 2) (.slice (some ⟨1, 0, none⟩) (N.length + 1) 2)
                rw [hlen, show k + 1 + (L.length + 1 - k) = L.length + 1 + 1 by omega]
                exact fs
              · rw [hcv]
          · have he : a = colK x := Classical.byContradiction fun e => by rw [decide_eq_false e] at he; cases he
            have hi : n0 :: N = q :: L := by rw [← hN]; unfold insL; rw [← hkc, ha, he, if_pos rfl]
            rw [hi] at tl ⊢
            refine st mo ⟨dk, adv_ok mo 2 _ ?_⟩
            exact rn_fit (TC x (q :: L) X') [1, 0] ⟨rfl, ⟨fs, fp, trivial⟩, ⟨flr rfl, trivial, flr rfl, trivial⟩, xf, rfl, rfl⟩ tl
      · have hkl : k = L.length + 1 := by omega
        subst hkl
        have hcn : cntL ltcb (colK x) (q :: L) = L.length + 1 := by omega
        have hi : n0 :: N = (q :: L) ++ [colK x] := by
          rw [← hN]; unfold insL
          rw [hcn, List.getElem?_eq_none (by simp), if_neg (by simp), List.take_of_length_le (by simp), List.drop_of_length_le (by simp)]
        have hlen : N.length = L.length + 1 := by
          have := congrArg List.length hi
          simpa using this
        have hcv : (cv (n0 :: N)).map rel1 = (cv (q :: L)).map rel1 ++ [.string (colK x).1, .string (colK x).2] := by
          rw [hi]
          simp only [cv, List.flatMap_append, List.map_append]
          rfl
        obtain ⟨c1, c2⟩ := cv_take (q :: L) (L.length + 1) (Nat.le_refl _)
        rw [List.take_of_length_le (by simp)] at c1 c2
        refine st mo ⟨dk, st mo (st mo (st mo ⟨fun _ => st mo ⟨dk, st mo ?_⟩, fun h => absurd rfl h⟩))⟩
        refine ⟨_, fun nn => r_slH (b := 0) (q := 0) (m := L.length + 1) (es := 2) (k := L.length + 1) rfl (Nat.le_refl _), st mo ⟨L.length + 1, (cv (q :: L)).map rel1, _, put_own rfl c1 c2 (one_cv _) rfl, by omega, by omega, st mo ⟨c2, 1, [.string (colK x).1, .string (colK x).2], _, put_own rfl rfl rfl rfl rfl, by omega, _, rfl, st mo ⟨dk, st mo ?_⟩⟩⟩⟩
        refine ⟨_, fun nn => r_slE1 (b := 0) (q := 0) (m := L.length + 1) (es := 2) rfl, st mo ⟨_, fun nn => r_apE, adv_ok mo 1 _ ?_⟩⟩
        refine rn_fit (TC x (n0 :: N) X') [1, 5] ⟨rfl, ⟨?_, fp, trivial⟩, ⟨flr rfl, trivial, flr ?_, trivial⟩, xf, rfl, rfl⟩ tl
        · show fitV _ (.slice (some ⟨5, 0, none⟩) (L.length + 1 + 1) 2) (.slice (some ⟨1, 0, none⟩) (N.length + 1) 2)
          rw [hlen]
          exact fs
        · rw [hcv]
  · have e1 : oneD kxC ltcb x L = L := by unfold oneD kxC; rw [if_neg hk]
    rw [e1]
    rcases L with _ | ⟨q, L⟩
    · refine fn_c _ Tryz.func57 rfl rfl rfl rfl (fun w l X' hX => run_ok (st mo ?_))
      have tl := col_t (w := w) (l := l) ih (L := []) (hL.mono (xcell hX)) (by omega)
      refine ⟨fun h => absurd h hk, fun _ => adv_ok mo 2 _ ?_⟩
      exact rn_fit (TC x [] X') [0] ⟨rfl, ⟨fv, fp, trivial⟩, ⟨flr rfl, trivial⟩, xf, rfl, rfl⟩ tl
    · refine fn_c _ Tryz.func57 rfl rfl rfl rfl (fun w l X' hX => run_ok (st mo ?_))
      have tl := col_t (w := w) (l := l) ih (L := q :: L) (hL.mono (xcell hX)) (by omega)
      refine ⟨fun h => absurd h hk, fun _ => adv_ok mo 2 _ ?_⟩
      exact rn_fit (TC x (q :: L) X') [1, 0] ⟨rfl, ⟨fs, fp, trivial⟩, ⟨flr rfl, trivial, flr rfl, trivial⟩, xf, rfl, rfl⟩ tl
theorem col_n (d : Nat) : CaC d := by
  induction d with
  | zero => exact col_s fun d' h => (by omega)
  | succ d ih => exact col_s fun d' h => by cases h; exact ih
set_option maxRecDepth 20000 in
theorem qcols_n (d : Nat) (X : World) (x : Ex) (hL : LT X d x) (hb : nds d x ≤ 1000000000) : Ctr Tryz.prog X 21 [.agg (x.c.map rel1).toArray] [] 0 0 (lvK 0 (gtD kxC ltcb d x [])) (hSc (gtD kxC ltcb d x [])) (nSc (gtD kxC ltcb d x [])) := by
  refine fn_c _ Tryz.func21 rfl rfl rfl rfl (fun w l X' hX => run_ok (st mo ?_))
  have g := col_n d X' x [] (hL.mono (xcell hX)) (by simp; omega)
  generalize gtD kxC ltcb d x [] = N at g ⊢
  rcases N with _ | ⟨m, N⟩
  · refine ⟨_, fun nn => r_c (tc := .slice none 0 0) [] [] [] rfl rfl g (by exact fitL_cons fv (fitL_cons fv rfl)) trivial uv trivial, st mo ?_⟩
    exact ⟨rfl, [], fv, trivial, rfl, rfl⟩
  · refine ⟨_, fun nn => r_c (tc := .slice (some ⟨1, 0, none⟩) (N.length + 1) 2) [] [some ((cv (m :: N)).map rel1)] [1] rfl rfl g (by exact fitL_cons fv (fitL_cons fv rfl)) trivial us ⟨ulr rfl, trivial⟩, st mo ?_⟩
    exact ⟨rfl, [1], fs, ⟨trivial, flr rfl, trivial⟩, rfl, rfl⟩
end Go.Proofs.YtfmfeipeeedfpaaGreat
