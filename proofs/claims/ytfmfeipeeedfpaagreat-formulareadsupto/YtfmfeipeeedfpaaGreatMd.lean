/-
  Columns are gathered: the function that calls itself. All columns that are gathered.
-/
import Derived.Test.YtfmfeipeeedfpaaGreatMc
import Derived.Test.YtfmfeipeeedfpaaGreatLh
namespace Go.Proofs.YtfmfeipeeedfpaaGreat
open S
/-- The column that an aggregate asks for. -/
def colK (x : Ex) : ByteArray × ByteArray := if x.op = 16 then (x.sc, ⟨#[]⟩) else (x.sc, x.nm)
set_option maxRecDepth 20000 in
theorem t_colm (x : Ex) (w : World) : Calls Tryz.prog 52 #[.agg x.c.toArray] w fun e W => e = .returned (es53 (colK x)) ∧ Mb w W := by
  unfold colK
  by_cases h : x.op = 16
  · rw [if_pos h]
    exact fn_pure [.agg (x.c.map rel1).toArray] Tryz.func52 rfl rfl rfl (run_ok (st mo ⟨fun _ => st mo rfl, fun h' => absurd h h'⟩))
  · rw [if_neg h]
    exact fn_pure [.agg (x.c.map rel1).toArray] Tryz.func52 rfl rfl rfl (run_ok (st mo ⟨fun h' => absurd h' h, fun _ => st mo rfl⟩))
set_option maxRecDepth 20000 in
theorem t_pickC (x : Ex) (w : World) : Calls Tryz.prog 51 #[.agg x.c.toArray] w fun e W => e = .returned (.tuple #[es53 (colK x), .bool (decide (x.k = 10))]) ∧ Mb w W := by
  by_cases h : x.k = 10
  · rw [decide_eq_true h]
    exact fn_pure [.agg (x.c.map rel1).toArray] Tryz.func51 rfl rfl rfl (run_ok (st mo ⟨_, fun nn => r_call (t := es53 (colK x)) rfl rfl Tryz.func52 (fun W M E => t_colm x W), st mo ⟨fun _ => st mo ⟨dk, st mo rfl⟩, fun h' => absurd h h'⟩⟩))
  · rw [decide_eq_false h]
    exact fn_pure [.agg (x.c.map rel1).toArray] Tryz.func51 rfl rfl rfl (run_ok (st mo ⟨_, fun nn => r_call (t := es53 (colK x)) rfl rfl Tryz.func52 (fun W M E => t_colm x W), st mo ⟨fun h' => absurd h' h, fun _ => st mo ⟨dk, st mo rfl⟩⟩⟩))
def kxC (x : Ex) : Option (ByteArray × ByteArray) := if x.k = 10 then some (colK x) else none
abbrev CL := List ((ByteArray × ByteArray) × Int)
def lvC (b : Nat) (al : CL) : Value := match al with
  | [] => .slice none 0 0
  | _ :: l => .slice (some ⟨b, 0, none⟩) (l.length + 1) 2
def c5C (al : CL) (jk : List Value) : List Value := (match al with
  | [] => jk
  | _ :: _ => al.flatMap fun (p : (ByteArray × ByteArray) × Int) => [Value.string p.1.1, Value.string p.1.2]).map rel1
abbrev fC : Value := .func (.func 51) #[] [].toArray
abbrev lC : Value := .func (.func 84) #[] [p0 0, p0 1, p0 2, p0 3].toArray
def hC (al : CL) (jk : List Value) : HT := [(0, some [fC]), (1, some [.map (some 4)]), (2, some [lvC 5 al]), (3, some [lC]), (4 + 4096, none), (4, some (mpl (prs es53 al))), (5 + 4096, none), (5, some (c5C al jk))]
theorem fC_fit {σ : List Nat} : fitL σ [fC] [fC] := fitL_cons (ff rfl) rfl
theorem lC_fit {σ : List Nat} (h0 : σ[0]? = some 0 := by rfl) (h1 : σ[1]? = some 1 := by rfl) (h2 : σ[2]? = some 2 := by rfl) (h3 : σ[3]? = some 3 := by rfl) : fitL σ [lC] [lC] := fitL_cons (ff (fitL_cons (fp h0) (fitL_cons (fp h1) (fitL_cons (fp h2) (fitL_cons (fp h3) rfl))))) rfl
theorem lvC_fit {σ : List Nat} {b c : Nat} {al bl : CL} (e : al = bl := by rfl) (h : σ[c]? = some b := by rfl) : fitL σ [lvC b al] [lvC c bl] := by
  subst e
  refine fitL_cons ?_ rfl
  cases al with
  | nil => exact fv
  | cons q al => exact fs h
theorem fC_un {τ : List Nat} : unL τ [fC] [fC] := unL_cons (uf rfl) rfl
theorem lC_un {τ : List Nat} (h0 : τ[0]? = some 0 := by rfl) (h1 : τ[1]? = some 1 := by rfl) (h2 : τ[2]? = some 2 := by rfl) (h3 : τ[3]? = some 3 := by rfl) : unL τ [lC] [lC] := unL_cons (uf (unL_cons (up h0) (unL_cons (up h1) (unL_cons (up h2) (unL_cons (up h3) rfl))))) rfl
theorem lvC_un {τ : List Nat} {b c : Nat} {al : CL} (h : τ[c]? = some b := by rfl) : unL τ [lvC c al] [lvC b al] := by
  refine unL_cons ?_ rfl
  cases al with
  | nil => exact uv
  | cons q al => exact us h
def LcC (d : Nat) : Prop := ∀ (X : World) (x : Ex) (al : CL) (jk : List Value) (c : Nat), LT X d x → Iv al c → c + nds d x ≤ 1000000000 → Ctr Tryz.prog X 84 [.agg (x.c.map rel1).toArray, p0 0, p0 1, p0 2, p0 3] (hC al jk) 6 4 (.tuple #[]) (hC (gth kxC d x al) jk) 6
abbrev T1 (x : Ex) (al : CL) (jk : List Value) (X : World) : St := ⟨⟨42, [(4, p0 3), (5, p0 6)]⟩, (6, some (x.c.map rel1)) :: hC al jk, 7, X⟩
set_option maxRecDepth 20000 in
theorem lcol_t {d : Nat} (ih : ∀ d', d' + 1 = d → LcC d') {w : World} {l : Nat → Nat × Nat} {X : World} {x : Ex} {al : CL} {jk : List Value} {c : Nat} (hL : LT X d x) (hi : Iv al c) (hb : c + x.a.foldl (fun n y => n + nds (d - 1) y) 0 ≤ 1000000000) :
    Rn Tryz.prog ⟨w, 4, l⟩ (retC Tryz.prog Tryz.f84 X 4 (.tuple #[]) (hC (x.a.foldl (fun s y => gth kxC (d - 1) y s) al) jk) 6) (cf (T1 x al jk X) [co (sndC (sndC (Tryz.f84.body.getD .skip)))]) := by
  refine st mo (st mo ?_)
  refine w_loop (fun i : Nat => ⟨⟨42, [(4, p0 3), (5, p0 6), (32, raw (.slice x.p x.a.length x.cl)), (33, .int .i64 (x.a.length : Int)), (34, .int .i64 (i : Int))]⟩, (6, some (x.c.map rel1)) :: hC ((x.a.take i).foldl (fun s y => gth kxC (d - 1) y s) al) jk, 7, X⟩)
    (fun i => i ≤ x.a.length ∧ Iv ((x.a.take i).foldl (fun s y => gth kxC (d - 1) y s) al) (c + (x.a.take i).foldl (fun n y => n + nds (d - 1) y) 0)) (fun i => x.a.length - i) 0 ⟨by omega, by simpa using hi⟩ [0, 1, 2, 3, 4, 5, 6] ⟨rfl, ⟨fp, fp, fv, fv, fv, trivial⟩, ⟨flr rfl, fC_fit, fitL_cons fm rfl, lvC_fit, lC_fit, trivial, fml, trivial, flr rfl, trivial⟩, xf, rfl, rfl⟩ ?_
  intro i ⟨hil0, hiv⟩
  have hlen := hL.len
  generalize hal : (x.a.take i).foldl (fun s y => gth kxC (d - 1) y s) al = ali at hiv ⊢
  refine st mo ⟨fun hlt => st mo ?_, fun hge => st mo (st mo ?_)⟩
  · have hil : i < x.a.length := by omega
    obtain ⟨y, hy⟩ : ∃ y, x.a[i]? = some y := ⟨_, List.getElem?_eq_getElem hil⟩
    cases d with
    | zero => rw [show x.a = [] from hL] at hy; cases hy
    | succ d =>
    obtain ⟨⟨b, o, h4, h5⟩, h8⟩ := hL.at hy
    refine ⟨b, o, i, h4, rfl, hil, st mo ⟨y.c, rfl, h5, st mo ?_⟩⟩
    have hstep : (x.a.take (i + 1)).foldl (fun n y => n + nds d y) 0 = (x.a.take i).foldl (fun n y => n + nds d y) 0 + nds d y := by rw [List.take_add_one, hy, List.foldl_append]; rfl
    have hmono : (x.a.take (i + 1)).foldl (fun n y => n + nds d y) 0 ≤ x.a.foldl (fun n y => n + nds d y) 0 := by
      have := fold_nds (d := d) (x.a.drop (i + 1)) ((x.a.take (i + 1)).foldl (fun n y => n + nds d y) 0)
      rw [← List.foldl_append, List.take_append_drop] at this
      omega
    have hb' : c + x.a.foldl (fun n y => n + nds d y) 0 ≤ 1000000000 := hb
    have hiv : Iv ali (c + (x.a.take i).foldl (fun n y => n + nds d y) 0) := hiv
    refine ⟨_, fun nn => r_c (tc := .tuple #[]) [0, 1, 2, 3, 4, 5] [some [fC], some [.map (some 8)], some [lvC 9 (gth kxC d y ali)], some [lC], some (mpl (prs es53 (gth kxC d y ali))), some (c5C (gth kxC d y ali) jk)] [8, 9] rfl rfl
      (ih d rfl X y ali jk _ h8 hiv (by omega)) (fitL_cons fv (fitL_cons fp (fitL_cons fp (fitL_cons fp (fitL_cons fp rfl))))) ⟨fC_fit, fitL_cons fm rfl, lvC_fit, lC_fit, trivial, fml, trivial, flr rfl, trivial⟩ ut0 ⟨fC_un, unL_cons um rfl, lvC_un, lC_un, uml, ulr rfl, trivial⟩, st mo ⟨_, wz (i + 1) rfl, st mo ?_⟩⟩
    have hal2 : gth kxC d y ali = (x.a.take (i + 1)).foldl (fun s y => gth kxC d y s) al := by rw [List.take_add_one, hy, List.foldl_append, ← hal]; rfl
    refine ⟨i + 1, ⟨hil, ?_⟩, by dsimp; omega, [0, 1, 2, 3, 8, 9, 6], rfl, ⟨fp, fp, fv, fv, fv, trivial⟩, ⟨flr rfl, fC_fit, fitL_cons fm rfl, lvC_fit hal2, lC_fit, trivial, fml (by rw [hal2]; rfl), trivial, flr (by rw [hal2]; rfl), trivial⟩, xf, rfl, rfl⟩
    show Iv ((x.a.take (i + 1)).foldl (fun s y => gth kxC d y s) al) (c + (x.a.take (i + 1)).foldl (fun n y => n + nds d y) 0)
    rw [hstep, ← hal2, ← Nat.add_assoc]
    exact hiv.gth
  · have : i = x.a.length := by omega
    subst this
    rw [List.take_length] at hal
    refine ⟨rfl, [0, 1, 2, 3, 4, 5], ft0, ⟨fC_fit, fitL_cons fm rfl, lvC_fit hal.symm, lC_fit, trivial, fml (by rw [hal]), trivial, flr (by rw [hal]; rfl), trivial⟩, rfl, rfl⟩
theorem stp_seenC {al : CL} {a : ByteArray × ByteArray} (h : nof al a ≠ 0) : (∀ b, lvC b al = lvC b (stp al a)) ∧ ∀ jk, c5C al jk = c5C (stp al a) jk := by
  have hs : (lkq al a).isSome = true := by
    unfold nof at h
    cases e : lkq al a with
    | none => rw [e] at h; exact absurd rfl h
    | some v => rfl
  have hl := putq_len al a (nof al a + 1)
  have hf := putq_fst al a (nof al a + 1)
  rw [if_pos hs] at hl hf
  unfold stp
  cases al with
  | nil => cases hs
  | cons q al =>
    cases hp : putq (q :: al) a (nof (q :: al) a + 1) with
    | nil => rw [hp] at hl; cases hl
    | cons r bl =>
      rw [hp] at hl hf
      simp only [List.length_cons] at hl
      have hm : (q :: al).flatMap (fun p : (ByteArray × ByteArray) × Int => [Value.string p.1.1, Value.string p.1.2]) = (r :: bl).flatMap (fun p : (ByteArray × ByteArray) × Int => [Value.string p.1.1, Value.string p.1.2]) := by
        have := congrArg (List.flatMap fun p : ByteArray × ByteArray => [Value.string p.1, Value.string p.2]) hf
        rw [List.flatMap_map, List.flatMap_map] at this
        exact this.symm
      exact ⟨fun b => by simp only [lvC]; rw [show bl.length + 1 = al.length + 1 from hl], fun jk => by simp only [c5C]; rw [hm]⟩
theorem stp_newC {al : CL} {a : ByteArray × ByteArray} (h : lkq al a = none) : stp al a = al ++ [(a, 1)] := by
  unfold stp nof
  rw [h]
  exact putq_none al a _ h
theorem pof_lt {κ : Type} [DecidableEq κ] : ∀ (al : List (κ × Int)) (a : κ) (x : Int), pof al a < (putq al a x).length
  | [], a, x => by simp [pof, putq]
  | (b, u) :: r, a, x => by
    by_cases e : b = a
    · simp [pof, putq, e]
    · simp only [pof, putq, if_neg e, List.length_cons]; have := pof_lt r a x; omega
theorem c5C_len (q : (ByteArray × ByteArray) × Int) (al : CL) (jk : List Value) : (c5C (q :: al) jk).length = (al.length + 1) * 2 := by
  have key : ∀ l : CL, (l.flatMap fun (p : (ByteArray × ByteArray) × Int) => [Value.string p.1.1, Value.string p.1.2]).length = l.length * 2 := by
    intro l
    induction l with
    | nil => rfl
    | cons p l ih => simp only [List.flatMap_cons, List.length_append, ih, List.length_cons, List.length_nil]; omega
  simp only [c5C, List.length_map]
  exact key (q :: al)
theorem nof_put {κ : Type} [DecidableEq κ] (al : List (κ × Int)) (a : κ) : nof (putq al a (nof al a)) a = nof al a := by
  show (lkq (putq al a (nof al a)) a).getD 0 = _
  rw [lkq_put, if_pos rfl]; rfl
abbrev T2 (x : Ex) (al bl : CL) (jk : List Value) (X : World) : St := ⟨⟨42, [(2, p0 1), (4, p0 3), (5, p0 6), (6, p0 7)]⟩, (6, some (x.c.map rel1)) :: (7, some [.string (colK x).1, .string (colK x).2]) :: [(0, some [fC]), (1, some [.map (some 4)]), (2, some [lvC 5 bl]), (3, some [lC]), (4 + 4096, none), (4, some (mpl (prs es53 al))), (5 + 4096, none), (5, some (c5C bl jk))], 8, X⟩
/-- The code at a place: the first part, the last part. -/
def fstC (c : Code) : Code := match c with
  | .seq a _ => a
  | c => c
def thenC (c : Code) : Code := match c with
  | .cond _ a _ => a
  | c => c
set_option maxRecDepth 20000 in
theorem lcol_5 {w : World} {l : Nat → Nat × Nat} {X : World} {x : Ex} {al : CL} {jk : List Value} {c : Nat} (hi : Iv al c) (hc : c ≤ 1000000000) {C : Exit → St → Prop} {c5 : Code} {stk : List It} (h5 : c5 = sndC (thenC (sndC (sndC (fstC (sndC (Tryz.f84.body.getD .skip)))))))
    (tl : Rn Tryz.prog ⟨w, 4, l⟩ C (cf (T1 x (stp al (colK x)) jk X) stk)) (hs : ∃ c' l', stk = co c' :: l') : Rn Tryz.prog ⟨w, 4, l⟩ C (cf (T2 x al (stp al (colK x)) jk X) (co c5 :: stk)) := by
  subst h5
  obtain ⟨c', l', rfl⟩ := hs
  have hn := hi.nof (colK x)
  have hn2 := nof_put al (colK x)
  refine rn_any mo [[0, 1, 2, 3, 4, 5, 6], [0, 1, 2, 4, 3, 5, 6], [0, 1, 2, 4, 5, 3, 6], [0, 1, 4, 2, 3, 5, 6], [0, 1, 4, 2, 5, 3, 6], [0, 1, 4, 5, 2, 3, 6], [1, 0, 2, 3, 4, 5, 6], [1, 0, 2, 4, 3, 5, 6], [1, 0, 2, 4, 5, 3, 6], [1, 0, 4, 2, 3, 5, 6], [1, 0, 4, 2, 5, 3, 6], [1, 0, 4, 5, 2, 3, 6]] ?_
  intro o ho
  simp only [List.mem_cons, List.not_mem_nil, or_false] at ho
  rcases ho with rfl | rfl | rfl | rfl | rfl | rfl | rfl | rfl | rfl | rfl | rfl | rfl
  · refine st mo ⟨_, fun nn => r_lk (al := al) (a := colK x) kt53 Tryz.underlying123 rfl rfl, st mo ⟨_, wi, st mo ⟨_, fun nn => r_en (al := al) (a := colK x) kt53 Tryz.underlying123 nn rfl rfl, st mo ⟨_, fun nn => r_es (j := pof al (colK x)) nn (pof_lt _ _ _) rfl, ?_⟩⟩⟩⟩
    exact rn_fit (T1 x (stp al (colK x)) jk X) [0, 1, 2, 3, 4, 5, 6] ⟨rfl, ⟨fp, fp, trivial⟩, ⟨flr rfl, fC_fit, fitL_cons fm rfl, lvC_fit, lC_fit, trivial, fml (by rw [put_put]; rfl), trivial, flr rfl, trivial⟩, xf, rfl, rfl⟩ tl
  · refine st mo ⟨_, fun nn => r_lk (al := al) (a := colK x) kt53 Tryz.underlying123 rfl rfl, st mo ⟨_, fun nn => r_en (al := al) (a := colK x) kt53 Tryz.underlying123 nn rfl rfl, st mo ⟨_, wi, st mo ⟨_, fun nn => r_es (j := pof al (colK x)) nn (pof_lt _ _ _) rfl, ?_⟩⟩⟩⟩
    exact rn_fit (T1 x (stp al (colK x)) jk X) [0, 1, 2, 3, 4, 5, 6] ⟨rfl, ⟨fp, fp, trivial⟩, ⟨flr rfl, fC_fit, fitL_cons fm rfl, lvC_fit, lC_fit, trivial, fml (by rw [put_put]; rfl), trivial, flr rfl, trivial⟩, xf, rfl, rfl⟩ tl
  · refine st mo ⟨_, fun nn => r_lk (al := al) (a := colK x) kt53 Tryz.underlying123 rfl rfl, st mo ⟨_, fun nn => r_en (al := al) (a := colK x) kt53 Tryz.underlying123 nn rfl rfl, st mo ⟨_, wi, st mo ⟨_, fun nn => r_es (j := pof al (colK x)) nn (pof_lt _ _ _) rfl, ?_⟩⟩⟩⟩
    exact rn_fit (T1 x (stp al (colK x)) jk X) [0, 1, 2, 3, 4, 5, 6] ⟨rfl, ⟨fp, fp, trivial⟩, ⟨flr rfl, fC_fit, fitL_cons fm rfl, lvC_fit, lC_fit, trivial, fml (by rw [put_put]; rfl), trivial, flr rfl, trivial⟩, xf, rfl, rfl⟩ tl
  · refine st mo ⟨_, fun nn => r_en (al := al) (a := colK x) kt53 Tryz.underlying123 nn rfl rfl, st mo ⟨_, fun nn => r_lk (al := putq al (colK x) (nof al (colK x))) (a := colK x) kt53 Tryz.underlying123 rfl rfl, st mo ⟨_, wi, st mo ⟨_, fun nn => r_es (j := pof al (colK x)) nn (pof_lt _ _ _) rfl, ?_⟩⟩⟩⟩
    exact rn_fit (T1 x (stp al (colK x)) jk X) [0, 1, 2, 3, 4, 5, 6] ⟨rfl, ⟨fp, fp, trivial⟩, ⟨flr rfl, fC_fit, fitL_cons fm rfl, lvC_fit, lC_fit, trivial, fml (by rw [put_put, nof_put]; rfl), trivial, flr rfl, trivial⟩, xf, rfl, rfl⟩ tl
  · refine st mo ⟨_, fun nn => r_en (al := al) (a := colK x) kt53 Tryz.underlying123 nn rfl rfl, st mo ⟨_, fun nn => r_lk (al := putq al (colK x) (nof al (colK x))) (a := colK x) kt53 Tryz.underlying123 rfl rfl, st mo ⟨_, wi, st mo ⟨_, fun nn => r_es (j := pof al (colK x)) nn (pof_lt _ _ _) rfl, ?_⟩⟩⟩⟩
    exact rn_fit (T1 x (stp al (colK x)) jk X) [0, 1, 2, 3, 4, 5, 6] ⟨rfl, ⟨fp, fp, trivial⟩, ⟨flr rfl, fC_fit, fitL_cons fm rfl, lvC_fit, lC_fit, trivial, fml (by rw [put_put, nof_put]; rfl), trivial, flr rfl, trivial⟩, xf, rfl, rfl⟩ tl
  · refine st mo ⟨_, fun nn => r_en (al := al) (a := colK x) kt53 Tryz.underlying123 nn rfl rfl, st mo ⟨_, fun nn => r_lk (al := putq al (colK x) (nof al (colK x))) (a := colK x) kt53 Tryz.underlying123 rfl rfl, st mo ⟨_, wi, st mo ⟨_, fun nn => r_es (j := pof al (colK x)) nn (pof_lt _ _ _) rfl, ?_⟩⟩⟩⟩
    exact rn_fit (T1 x (stp al (colK x)) jk X) [0, 1, 2, 3, 4, 5, 6] ⟨rfl, ⟨fp, fp, trivial⟩, ⟨flr rfl, fC_fit, fitL_cons fm rfl, lvC_fit, lC_fit, trivial, fml (by rw [put_put, nof_put]; rfl), trivial, flr rfl, trivial⟩, xf, rfl, rfl⟩ tl
  · refine st mo ⟨_, fun nn => r_lk (al := al) (a := colK x) kt53 Tryz.underlying123 rfl rfl, st mo ⟨_, wi, st mo ⟨_, fun nn => r_en (al := al) (a := colK x) kt53 Tryz.underlying123 nn rfl rfl, st mo ⟨_, fun nn => r_es (j := pof al (colK x)) nn (pof_lt _ _ _) rfl, ?_⟩⟩⟩⟩
    exact rn_fit (T1 x (stp al (colK x)) jk X) [0, 1, 2, 3, 4, 5, 6] ⟨rfl, ⟨fp, fp, trivial⟩, ⟨flr rfl, fC_fit, fitL_cons fm rfl, lvC_fit, lC_fit, trivial, fml (by rw [put_put]; rfl), trivial, flr rfl, trivial⟩, xf, rfl, rfl⟩ tl
  · refine st mo ⟨_, fun nn => r_lk (al := al) (a := colK x) kt53 Tryz.underlying123 rfl rfl, st mo ⟨_, fun nn => r_en (al := al) (a := colK x) kt53 Tryz.underlying123 nn rfl rfl, st mo ⟨_, wi, st mo ⟨_, fun nn => r_es (j := pof al (colK x)) nn (pof_lt _ _ _) rfl, ?_⟩⟩⟩⟩
    exact rn_fit (T1 x (stp al (colK x)) jk X) [0, 1, 2, 3, 4, 5, 6] ⟨rfl, ⟨fp, fp, trivial⟩, ⟨flr rfl, fC_fit, fitL_cons fm rfl, lvC_fit, lC_fit, trivial, fml (by rw [put_put]; rfl), trivial, flr rfl, trivial⟩, xf, rfl, rfl⟩ tl
  · refine st mo ⟨_, fun nn => r_lk (al := al) (a := colK x) kt53 Tryz.underlying123 rfl rfl, st mo ⟨_, fun nn => r_en (al := al) (a := colK x) kt53 Tryz.underlying123 nn rfl rfl, st mo ⟨_, wi, st mo ⟨_, fun nn => r_es (j := pof al (colK x)) nn (pof_lt _ _ _) rfl, ?_⟩⟩⟩⟩
    exact rn_fit (T1 x (stp al (colK x)) jk X) [0, 1, 2, 3, 4, 5, 6] ⟨rfl, ⟨fp, fp, trivial⟩, ⟨flr rfl, fC_fit, fitL_cons fm rfl, lvC_fit, lC_fit, trivial, fml (by rw [put_put]; rfl), trivial, flr rfl, trivial⟩, xf, rfl, rfl⟩ tl
  · refine st mo ⟨_, fun nn => r_en (al := al) (a := colK x) kt53 Tryz.underlying123 nn rfl rfl, st mo ⟨_, fun nn => r_lk (al := putq al (colK x) (nof al (colK x))) (a := colK x) kt53 Tryz.underlying123 rfl rfl, st mo ⟨_, wi, st mo ⟨_, fun nn => r_es (j := pof al (colK x)) nn (pof_lt _ _ _) rfl, ?_⟩⟩⟩⟩
    exact rn_fit (T1 x (stp al (colK x)) jk X) [0, 1, 2, 3, 4, 5, 6] ⟨rfl, ⟨fp, fp, trivial⟩, ⟨flr rfl, fC_fit, fitL_cons fm rfl, lvC_fit, lC_fit, trivial, fml (by rw [put_put, nof_put]; rfl), trivial, flr rfl, trivial⟩, xf, rfl, rfl⟩ tl
  · refine st mo ⟨_, fun nn => r_en (al := al) (a := colK x) kt53 Tryz.underlying123 nn rfl rfl, st mo ⟨_, fun nn => r_lk (al := putq al (colK x) (nof al (colK x))) (a := colK x) kt53 Tryz.underlying123 rfl rfl, st mo ⟨_, wi, st mo ⟨_, fun nn => r_es (j := pof al (colK x)) nn (pof_lt _ _ _) rfl, ?_⟩⟩⟩⟩
    exact rn_fit (T1 x (stp al (colK x)) jk X) [0, 1, 2, 3, 4, 5, 6] ⟨rfl, ⟨fp, fp, trivial⟩, ⟨flr rfl, fC_fit, fitL_cons fm rfl, lvC_fit, lC_fit, trivial, fml (by rw [put_put, nof_put]; rfl), trivial, flr rfl, trivial⟩, xf, rfl, rfl⟩ tl
  · refine st mo ⟨_, fun nn => r_en (al := al) (a := colK x) kt53 Tryz.underlying123 nn rfl rfl, st mo ⟨_, fun nn => r_lk (al := putq al (colK x) (nof al (colK x))) (a := colK x) kt53 Tryz.underlying123 rfl rfl, st mo ⟨_, wi, st mo ⟨_, fun nn => r_es (j := pof al (colK x)) nn (pof_lt _ _ _) rfl, ?_⟩⟩⟩⟩
    exact rn_fit (T1 x (stp al (colK x)) jk X) [0, 1, 2, 3, 4, 5, 6] ⟨rfl, ⟨fp, fp, trivial⟩, ⟨flr rfl, fC_fit, fitL_cons fm rfl, lvC_fit, lC_fit, trivial, fml (by rw [put_put, nof_put]; rfl), trivial, flr rfl, trivial⟩, xf, rfl, rfl⟩ tl
set_option maxRecDepth 20000 in
theorem lcol_s {d : Nat} (ih : ∀ d', d' + 1 = d → LcC d') : LcC d := fun X x al jk c hL hi hb => by
  have hg : gth kxC d x al = x.a.foldl (fun s y => gth kxC (d - 1) y s) (one kxC x al) := by
    cases d with
    | zero => rw [show x.a = [] from hL]; rfl
    | succ d => rfl
  have hb1 : c + 1 + x.a.foldl (fun n y => n + nds (d - 1) y) 0 ≤ 1000000000 := by
    cases d with
    | zero => rw [show x.a = [] from hL]; exact hb
    | succ d =>
      have h9 : c + x.a.foldl (fun n y => n + nds d y) 1 ≤ 1000000000 := hb
      rw [fold_nds x.a 1] at h9
      show c + 1 + x.a.foldl (fun n y => n + nds d y) 0 ≤ _
      omega
  rw [hg]
  have hn := hi.nof (colK x)
  have hil := hi.l
  refine fn_c _ Tryz.func84 rfl rfl rfl rfl (fun w l X' hX => run_ok (st mo ?_))
  have tail := fun (al : CL) (hi : Iv al (c + 1)) => lcol_t (jk := jk) ih (w := w) (l := l) (hL.mono (xcell hX)) hi hb1
  refine ⟨_, fun nn => r_callF (t := .tuple #[es53 (colK x), .bool (decide (x.k = 10))]) rfl rfl Tryz.func51 (fun W M E => t_pickC x W), st mo ?_⟩
  refine ⟨fun h2 => ?_, fun h2 => ?_⟩
  · have e1 : one kxC x al = stp al (colK x) := by unfold one kxC; rw [if_pos (of_decide_eq_true h2)]
    rw [e1]
    have tl := tail _ (hi.stp (colK x))
    refine st mo ⟨_, fun nn => r_lk (al := al) (a := (colK x)) kt53 Tryz.underlying123 rfl rfl, st mo ?_⟩
    have five := lcol_5 (x := x) (jk := jk) (l := l) (w := w) (X := X') hi (by omega) rfl tl ⟨_, _, rfl⟩
    refine ⟨fun h0 => ?_, fun h1 => ?_⟩
    · have hno := hn.2.2 h0
      rcases al with _ | ⟨q, al⟩
      · refine st mo ⟨1, [.string (colK x).1, .string (colK x).2], _, put_own rfl rfl rfl rfl rfl, by omega, by omega, adv_ok mo 1 _ ?_⟩
        exact rn_fit (T2 x [] (stp [] (colK x)) jk X') [0, 1, 2, 3, 4, 9, 6, 7] ⟨rfl, ⟨fp, fp, fp, fp, trivial⟩, ⟨flr rfl, fl rfl rfl, fC_fit, fitL_cons fm rfl, fitL_cons fs rfl, lC_fit, trivial, fml, trivial, flr rfl, trivial⟩, xf, rfl, rfl⟩ five
      · refine st mo ⟨?_, 1, [.string (colK x).1, .string (colK x).2], _, put_own rfl rfl rfl rfl rfl, ?_, _, rfl, adv_ok mo 1 _ ?_⟩
        · show (c5C (q :: al) jk).length = (al.length + 1) * 2
          exact c5C_len q al jk
        · simp only [List.length_cons] at hil; omega
        rw [stp_newC hno] at five ⊢
        refine rn_fit (T2 x (q :: al) ((q :: al) ++ [((colK x), 1)]) jk X') [0, 1, 2, 3, 4, 9, 6, 7] ⟨rfl, ⟨fp, fp, fp, fp, trivial⟩, ⟨flr rfl, fl rfl rfl, fC_fit, fitL_cons fm rfl, ?_, lC_fit, trivial, fml, trivial, flr ?_, trivial⟩, xf, rfl, rfl⟩ five
        · refine fitL_cons ?_ rfl
          show fitV _ _ (.slice (some ⟨5, 0, none⟩) ((al ++ [((colK x), 1)]).length + 1) 2)
          rw [show (al ++ [((colK x), (1 : Int))]).length + 1 = (al.length + 1) + 1 by simp]
          exact fs
        · simp [c5C, rel1]
    · obtain ⟨q1, q2⟩ := stp_seenC h1
      refine adv_ok mo 2 _ ?_
      exact rn_fit (T2 x al (stp al (colK x)) jk X') [0, 1, 2, 3, 4, 5, 6, 7] ⟨rfl, ⟨fp, fp, fp, fp, trivial⟩, ⟨flr rfl, fl rfl rfl, fC_fit, fitL_cons fm rfl, by rw [← q1 5]; exact lvC_fit, lC_fit, trivial, fml, trivial, flr (q2 jk), trivial⟩, xf, rfl, rfl⟩ five
  · have e1 : one kxC x al = al := by unfold one kxC; rw [if_neg (of_decide_eq_false h2)]
    rw [e1]
    have tl := tail _ (hi.up (by omega))
    refine adv_ok mo 1 _ ?_
    exact rn_fit (T1 x al jk X') [0, 1, 2, 3, 4, 5, 6] ⟨rfl, ⟨fp, fp, trivial⟩, ⟨flr rfl, fC_fit, fitL_cons fm rfl, lvC_fit, lC_fit, trivial, fml, trivial, flr rfl, trivial⟩, xf, rfl, rfl⟩ tl
theorem lcol_n (d : Nat) : LcC d := by
  induction d with
  | zero => exact lcol_s fun d' h => (by omega)
  | succ d ih => exact lcol_s fun d' h => by cases h; exact ih
end Go.Proofs.YtfmfeipeeedfpaaGreat
namespace Go.Proofs.YtfmfeipeeedfpaaGreat
open S
/-- A list of names as a slice of its own: nothing, or a block. -/
def hRC (al : CL) : HT := match al with
  | [] => []
  | _ :: _ => [(0 + 4096, none), (0, some ((al.flatMap fun p => [Value.string p.1.1, Value.string p.1.2]).map rel1))]
def nRC (al : CL) : Nat := match al with
  | [] => 0
  | _ :: _ => 1
set_option maxRecDepth 20000 in
theorem gatc_n (d : Nat) (X : World) (x : Ex) (hL : LT X d x) (hb : nds d x ≤ 1000000000) : Ctr Tryz.prog X 50 [.agg (x.c.map rel1).toArray, fC] [] 0 0 (lvC 0 (gth kxC d x [])) (hRC (gth kxC d x [])) (nRC (gth kxC d x [])) := by
  refine fn_c _ Tryz.func50 rfl rfl rfl rfl (fun w l X' hX => run_ok (st mo ?_))
  refine ⟨_, fun nn => r_mk, st mo ?_⟩
  refine ⟨_, fun nn => r_c (tc := .tuple #[]) [1, 4, 2, 5, 3, 0] [some [fC], some [.map (some 6)], some [lvC 7 (gth kxC d x [])], some [.func (.func 84) #[] [p0 1, p0 4, p0 2, p0 5].toArray], some (mpl (prs es53 (gth kxC d x []))), some (c5C (gth kxC d x []) x.c)] [6, 7] rfl rfl
      (lcol_n d X' x [] x.c 0 (hL.mono (xcell hX)) ⟨fun _ h => (by cases h), Nat.le_refl _⟩ (by omega)) (fitL_cons fv (fitL_cons fp (fitL_cons fp (fitL_cons fp (fitL_cons fp rfl))))) ⟨fC_fit, fitL_cons fm rfl, fitL_cons fv rfl, fitL_cons (ff (fitL_cons fp (fitL_cons fp (fitL_cons fp (fitL_cons fp rfl))))) rfl, trivial, fml, trivial, flr rfl, trivial⟩ ut0 ⟨fC_un, unL_cons um rfl, lvC_un, unL_cons (uf (unL_cons up (unL_cons up (unL_cons up (unL_cons up rfl))))) rfl, uml, ulr rfl, trivial⟩, st mo ?_⟩
  generalize gth kxC d x [] = al
  rcases al with _ | ⟨q, al⟩
  · exact ⟨rfl, [], fv, trivial, rfl, rfl⟩
  · exact ⟨rfl, [7], fs, ⟨trivial, flr rfl, trivial⟩, rfl, rfl⟩
end Go.Proofs.YtfmfeipeeedfpaaGreat
