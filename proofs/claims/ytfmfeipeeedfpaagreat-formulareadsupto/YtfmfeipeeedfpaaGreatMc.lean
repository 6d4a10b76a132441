/-
  Names are gathered: the function that calls itself. All names that are gathered.
-/
import Derived.Test.YtfmfeipeeedfpaaGreatMb
namespace Go.Proofs.YtfmfeipeeedfpaaGreat
open S
set_option maxRecDepth 20000 in
theorem t_pick (x : Ex) (w : World) : Calls Tryz.prog 47 #[.agg x.c.toArray] w fun e W => e = .returned (.tuple #[.string x.nm, .bool (decide (x.k = 2))]) ∧ Mb w W := by
  by_cases h : x.k = 2
  · rw [decide_eq_true h]
    exact fn_pure [.agg (x.c.map rel1).toArray] Tryz.func47 rfl rfl rfl (run_ok (st mo ⟨fun _ => st mo ⟨dk, st mo rfl⟩, fun h' => absurd h h'⟩))
  · rw [decide_eq_false h]
    exact fn_pure [.agg (x.c.map rel1).toArray] Tryz.func47 rfl rfl rfl (run_ok (st mo ⟨fun h' => absurd h' h, fun _ => st mo ⟨dk, st mo rfl⟩⟩))
def kxN (x : Ex) : Option ByteArray := if x.k = 2 then some x.nm else none
abbrev p0 (i : Nat) : Value := .pointer (some ⟨i, 0, none⟩)
abbrev AL := List (ByteArray × Int)
def lvN (b : Nat) (al : AL) : Value := match al with
  | [] => .slice none 0 0
  | _ :: l => .slice (some ⟨b, 0, none⟩) (l.length + 1) 1
def c5N (al : AL) (jk : List Value) : List Value := (match al with
  | [] => jk
  | _ :: _ => al.map fun (p : ByteArray × Int) => Value.string p.1).map rel1
abbrev fN : Value := .func (.func 47) #[] [].toArray
abbrev lN : Value := .func (.func 80) #[] [p0 0, p0 1, p0 2, p0 3].toArray
def hN (al : AL) (jk : List Value) : HT := [(0, some [fN]), (1, some [.map (some 4)]), (2, some [lvN 5 al]), (3, some [lN]), (4 + 4096, none), (4, some (mpl (prs es9 al))), (5 + 4096, none), (5, some (c5N al jk))]
theorem fN_fit {σ : List Nat} : fitL σ [fN] [fN] := fitL_cons (ff rfl) rfl
theorem lN_fit {σ : List Nat} (h0 : σ[0]? = some 0 := by rfl) (h1 : σ[1]? = some 1 := by rfl) (h2 : σ[2]? = some 2 := by rfl) (h3 : σ[3]? = some 3 := by rfl) : fitL σ [lN] [lN] := fitL_cons (ff (fitL_cons (fp h0) (fitL_cons (fp h1) (fitL_cons (fp h2) (fitL_cons (fp h3) rfl))))) rfl
theorem lv_fit {σ : List Nat} {b c : Nat} {al bl : AL} (e : al = bl := by rfl) (h : σ[c]? = some b := by rfl) : fitL σ [lvN b al] [lvN c bl] := by
  subst e
  refine fitL_cons ?_ rfl
  cases al with
  | nil => exact fv
  | cons q al => exact fs h
theorem fN_un {τ : List Nat} : unL τ [fN] [fN] := unL_cons (uf rfl) rfl
theorem lN_un {τ : List Nat} (h0 : τ[0]? = some 0 := by rfl) (h1 : τ[1]? = some 1 := by rfl) (h2 : τ[2]? = some 2 := by rfl) (h3 : τ[3]? = some 3 := by rfl) : unL τ [lN] [lN] := unL_cons (uf (unL_cons (up h0) (unL_cons (up h1) (unL_cons (up h2) (unL_cons (up h3) rfl))))) rfl
theorem lv_un {τ : List Nat} {b c : Nat} {al : AL} (h : τ[c]? = some b := by rfl) : unL τ [lvN c al] [lvN b al] := by
  refine unL_cons ?_ rfl
  cases al with
  | nil => exact uv
  | cons q al => exact us h
def LkC (d : Nat) : Prop := ∀ (X : World) (x : Ex) (al : AL) (jk : List Value) (c : Nat), LT X d x → Iv al c → c + nds d x ≤ 1000000000 → Ctr Tryz.prog X 80 [.agg (x.c.map rel1).toArray, p0 0, p0 1, p0 2, p0 3] (hN al jk) 6 4 (.tuple #[]) (hN (gth kxN d x al) jk) 6
theorem xcell {X' X : World} (h : Xf X' X) (a : Addr) (u : Value) (hc : X.cell? a = some u) : X'.cell? a = some u := by
  unfold World.cell? at hc ⊢
  split at hc
  · rename_i c ty fz hx
    have : (Obj.cells c ty fz) ≠ hole X := fun e => by
      unfold hole at e
      cases e
      split at hc <;> simp at hc
    rw [(h.2 _ _ hx this).1]; exact hc
  · cases hc
abbrev T0 (x : Ex) (al : AL) (jk : List Value) (X : World) : St := ⟨⟨40, [(4, p0 3), (5, p0 6)]⟩, (6, some (x.c.map rel1)) :: hN al jk, 7, X⟩
set_option maxRecDepth 20000 in
theorem look_t {d : Nat} (ih : ∀ d', d' + 1 = d → LkC d') {w : World} {l : Nat → Nat × Nat} {X : World} {x : Ex} {al : AL} {jk : List Value} {c : Nat} (hL : LT X d x) (hi : Iv al c) (hb : c + x.a.foldl (fun n y => n + nds (d - 1) y) 0 ≤ 1000000000) :
    Rn Tryz.prog ⟨w, 4, l⟩ (retC Tryz.prog Tryz.f80 X 4 (.tuple #[]) (hN (x.a.foldl (fun s y => gth kxN (d - 1) y s) al) jk) 6) (cf (T0 x al jk X) [co (sndC (sndC (Tryz.f80.body.getD .skip)))]) := by
  refine st mo (st mo ?_)
  refine w_loop (fun i : Nat => ⟨⟨40, [(4, p0 3), (5, p0 6), (30, raw (.slice x.p x.a.length x.cl)), (31, .int .i64 (x.a.length : Int)), (32, .int .i64 (i : Int))]⟩, (6, some (x.c.map rel1)) :: hN ((x.a.take i).foldl (fun s y => gth kxN (d - 1) y s) al) jk, 7, X⟩)
    (fun i => i ≤ x.a.length ∧ Iv ((x.a.take i).foldl (fun s y => gth kxN (d - 1) y s) al) (c + (x.a.take i).foldl (fun n y => n + nds (d - 1) y) 0)) (fun i => x.a.length - i) 0 ⟨by omega, by simpa using hi⟩ [0, 1, 2, 3, 4, 5, 6] ⟨rfl, ⟨fp, fp, fv, fv, fv, trivial⟩, ⟨flr rfl, fN_fit, fitL_cons fm rfl, lv_fit, lN_fit, trivial, fml, trivial, flr rfl, trivial⟩, xf, rfl, rfl⟩ ?_
  intro i ⟨hil0, hiv⟩
  have hlen := hL.len
  generalize hal : (x.a.take i).foldl (fun s y => gth kxN (d - 1) y s) al = ali at hiv ⊢
  refine st mo ⟨fun hlt => st mo ?_, fun hge => st mo (st mo ?_)⟩
  · have hil : i < x.a.length := by omega
    obtain ⟨y, hy⟩ : ∃ y, x.a[i]? = some y := ⟨_, List.getElem?_eq_getElem hil⟩
    cases d with
    | zero => rw [show x.a = [] from hL] at hy; cases hy
    | succ d =>
    obtain ⟨⟨b, o, h4, h5⟩, h8⟩ := hL.at hy
    refine ⟨b, o, i, h4, rfl, hil, st mo ⟨y.c, rfl, h5, st mo ?_⟩⟩
    have hstep : (x.a.take (i + 1)).foldl (fun n y => n + nds d y) 0 = (x.a.take i).foldl (fun n y => n + nds d y) 0 + nds d y := by rw [List.take_add_one, hy, List.foldl_append]; rfl
    have hmono : (x.a.take (i + 1)).foldl (fun n y => n + nds d y) 0 ≤ x.a.foldl (fun n y => n + nds d y) 0 := by
      have := fold_nds (d := d) (x.a.drop (i + 1)) ((x.a.take (i + 1)).foldl (fun n y => n + nds d y) 0)
      rw [← List.foldl_append, List.take_append_drop] at this
      omega
    have hb' : c + x.a.foldl (fun n y => n + nds d y) 0 ≤ 1000000000 := hb
    have hiv : Iv ali (c + (x.a.take i).foldl (fun n y => n + nds d y) 0) := hiv
    refine ⟨_, fun nn => r_c (tc := .tuple #[]) [0, 1, 2, 3, 4, 5] [some [fN], some [.map (some 8)], some [lvN 9 (gth kxN d y ali)], some [lN], some (mpl (prs es9 (gth kxN d y ali))), some (c5N (gth kxN d y ali) jk)] [8, 9] rfl rfl
      (ih d rfl X y ali jk _ h8 hiv (by omega)) (fitL_cons fv (fitL_cons fp (fitL_cons fp (fitL_cons fp (fitL_cons fp rfl))))) ⟨fN_fit, fitL_cons fm rfl, lv_fit, lN_fit, trivial, fml, trivial, flr rfl, trivial⟩ ut0 ⟨fN_un, unL_cons um rfl, lv_un, lN_un, uml, ulr rfl, trivial⟩, st mo ⟨_, wz (i + 1) rfl, st mo ?_⟩⟩
    have hal2 : gth kxN d y ali = (x.a.take (i + 1)).foldl (fun s y => gth kxN d y s) al := by rw [List.take_add_one, hy, List.foldl_append, ← hal]; rfl
    refine ⟨i + 1, ⟨hil, ?_⟩, by dsimp; omega, [0, 1, 2, 3, 8, 9, 6], rfl, ⟨fp, fp, fv, fv, fv, trivial⟩, ⟨flr rfl, fN_fit, fitL_cons fm rfl, lv_fit hal2, lN_fit, trivial, fml (by rw [hal2]; rfl), trivial, flr (by rw [hal2]; rfl), trivial⟩, xf, rfl, rfl⟩
    show Iv ((x.a.take (i + 1)).foldl (fun s y => gth kxN d y s) al) (c + (x.a.take (i + 1)).foldl (fun n y => n + nds d y) 0)
    rw [hstep, ← hal2, ← Nat.add_assoc]
    exact hiv.gth
  · have : i = x.a.length := by omega
    subst this
    rw [List.take_length] at hal
    refine ⟨rfl, [0, 1, 2, 3, 4, 5], ft0, ⟨fN_fit, fitL_cons fm rfl, lv_fit hal.symm, lN_fit, trivial, fml (by rw [hal]), trivial, flr (by rw [hal]; rfl), trivial⟩, rfl, rfl⟩
theorem stp_seen {al : AL} {a : ByteArray} (h : nof al a ≠ 0) : (∀ b, lvN b al = lvN b (stp al a)) ∧ ∀ jk, c5N al jk = c5N (stp al a) jk := by
  have hs : (lkq al a).isSome = true := by
    unfold nof at h
    cases e : lkq al a with
    | none => rw [e] at h; exact absurd rfl h
    | some v => rfl
  have hl := putq_len al a (nof al a + 1)
  have hf := putq_fst al a (nof al a + 1)
  rw [if_pos hs] at hl hf
  unfold stp
  cases al with
  | nil => cases hs
  | cons q al =>
    cases hp : putq (q :: al) a (nof (q :: al) a + 1) with
    | nil => rw [hp] at hl; cases hl
    | cons r bl =>
      rw [hp] at hl hf
      simp only [List.length_cons] at hl
      have hm : (q :: al).map (fun p : ByteArray × Int => Value.string p.1) = (r :: bl).map (fun p : ByteArray × Int => Value.string p.1) := by
        have := congrArg (List.map Value.string) hf
        rw [List.map_map, List.map_map] at this
        exact this.symm
      exact ⟨fun b => by simp only [lvN]; rw [show bl.length + 1 = al.length + 1 from hl], fun jk => by simp only [c5N]; rw [hm]⟩
theorem stp_new {al : AL} {a : ByteArray} (h : lkq al a = none) : stp al a = al ++ [(a, 1)] := by
  unfold stp nof
  rw [h]
  exact putq_none al a _ h
set_option maxRecDepth 20000 in
theorem look_s {d : Nat} (ih : ∀ d', d' + 1 = d → LkC d') : LkC d := fun X x al jk c hL hi hb => by
  have hg : gth kxN d x al = x.a.foldl (fun s y => gth kxN (d - 1) y s) (one kxN x al) := by
    cases d with
    | zero => rw [show x.a = [] from hL]; rfl
    | succ d => rfl
  have hb1 : c + 1 + x.a.foldl (fun n y => n + nds (d - 1) y) 0 ≤ 1000000000 := by
    cases d with
    | zero => rw [show x.a = [] from hL]; exact hb
    | succ d =>
      have h9 : c + x.a.foldl (fun n y => n + nds d y) 1 ≤ 1000000000 := hb
      rw [fold_nds x.a 1] at h9
      show c + 1 + x.a.foldl (fun n y => n + nds d y) 0 ≤ _
      omega
  rw [hg]
  have hn := hi.nof x.nm
  have hil := hi.l
  refine fn_c _ Tryz.func80 rfl rfl rfl rfl (fun w l X' hX => run_ok (st mo ?_))
  have tail := fun (al : AL) (hi : Iv al (c + 1)) => look_t (jk := jk) ih (w := w) (l := l) (hL.mono (xcell hX)) hi hb1
  refine ⟨_, fun nn => r_callF (t := .tuple #[.string x.nm, .bool (decide (x.k = 2))]) rfl rfl Tryz.func47 (fun W M E => t_pick x W), st mo ?_⟩
  refine ⟨fun h2 => ?_, fun h2 => ?_⟩
  · have e1 : one kxN x al = stp al x.nm := by unfold one kxN; rw [if_pos (of_decide_eq_true h2)]
    rw [e1]
    have tl := tail _ (hi.stp x.nm)
    refine st mo ⟨_, fun nn => r_lk (al := al) (a := x.nm) kt9 Tryz.underlying72 rfl rfl, st mo ?_⟩
    refine ⟨fun h0 => ?_, fun h1 => ?_⟩
    · have hno := hn.2.2 h0
      rcases al with _ | ⟨q, al⟩
      · refine st mo ⟨1, [.string x.nm], _, put_own rfl rfl rfl rfl rfl, by omega, by omega, st mo ?_⟩
        refine ⟨_, fun nn => r_lk (al := ([] : AL)) (a := x.nm) kt9 Tryz.underlying72 rfl rfl, st mo ⟨_, wi, st mo ⟨_, fun nn => r_mp (al := ([] : AL)) (a := x.nm) kt9 Tryz.underlying72 nn rfl rfl, ?_⟩⟩⟩
        exact rn_fit (T0 x (stp [] x.nm) jk X') [0, 1, 2, 3, 4, 8, 6] ⟨rfl, ⟨fp, fp, trivial⟩, ⟨flr rfl, fN_fit, fitL_cons fm rfl, fitL_cons fs rfl, lN_fit, trivial, fml, trivial, flr rfl, trivial⟩, xf, rfl, rfl⟩ tl
      · refine st mo ⟨?_, 1, [.string x.nm], _, put_own rfl rfl rfl rfl rfl, ?_, _, rfl, st mo ?_⟩
        · show (c5N (q :: al) jk).length = (al.length + 1) * 1
          simp [c5N]
        · simp only [List.length_cons] at hil; omega
        refine ⟨_, fun nn => r_lk (al := q :: al) (a := x.nm) kt9 Tryz.underlying72 rfl rfl, st mo ⟨_, wi, st mo ⟨_, fun nn => r_mp (al := q :: al) (a := x.nm) kt9 Tryz.underlying72 nn rfl rfl, ?_⟩⟩⟩
        rw [stp_new hno] at tl ⊢
        refine rn_fit (T0 x ((q :: al) ++ [(x.nm, 1)]) jk X') [0, 1, 2, 3, 4, 8, 6] ⟨rfl, ⟨fp, fp, trivial⟩, ⟨flr rfl, fN_fit, fitL_cons fm rfl, ?_, lN_fit, trivial, fml ?_, trivial, flr ?_, trivial⟩, xf, rfl, rfl⟩ tl
        · refine fitL_cons ?_ rfl
          show fitV _ _ (.slice (some ⟨5, 0, none⟩) ((al ++ [(x.nm, 1)]).length + 1) 1)
          rw [show (al ++ [(x.nm, (1 : Int))]).length + 1 = (al.length + 1) + 1 by simp]
          exact fs
        · rw [h0, putq_none _ _ _ hno]; rfl
        · simp [c5N, rel1]
    · refine st mo ⟨_, fun nn => r_lk (al := al) (a := x.nm) kt9 Tryz.underlying72 rfl rfl, st mo ⟨_, wi, st mo ⟨_, fun nn => r_mp (al := al) (a := x.nm) kt9 Tryz.underlying72 nn rfl rfl, ?_⟩⟩⟩
      obtain ⟨q1, q2⟩ := stp_seen h1
      exact rn_fit (T0 x (stp al x.nm) jk X') [0, 1, 2, 3, 4, 5, 6] ⟨rfl, ⟨fp, fp, trivial⟩, ⟨flr rfl, fN_fit, fitL_cons fm rfl, by rw [← q1 5]; exact lv_fit, lN_fit, trivial, fml, trivial, flr (q2 jk), trivial⟩, xf, rfl, rfl⟩ tl
  · have e1 : one kxN x al = al := by unfold one kxN; rw [if_neg (of_decide_eq_false h2)]
    rw [e1]
    have tl := tail _ (hi.up (by omega))
    refine adv_ok mo 1 _ ?_
    exact rn_fit (T0 x al jk X') [0, 1, 2, 3, 4, 5, 6] ⟨rfl, ⟨fp, fp, trivial⟩, ⟨flr rfl, fN_fit, fitL_cons fm rfl, lv_fit, lN_fit, trivial, fml, trivial, flr rfl, trivial⟩, xf, rfl, rfl⟩ tl
theorem look_n (d : Nat) : LkC d := by
  induction d with
  | zero => exact look_s fun d' h => (by omega)
  | succ d ih => exact look_s fun d' h => by cases h; exact ih
end Go.Proofs.YtfmfeipeeedfpaaGreat
namespace Go.Proofs.YtfmfeipeeedfpaaGreat
open S
/-- A list of names as a slice of its own: nothing, or a block. -/
def hR (al : AL) : HT := match al with
  | [] => []
  | _ :: _ => [(0 + 4096, none), (0, some ((al.map fun p => Value.string p.1).map rel1))]
def nR (al : AL) : Nat := match al with
  | [] => 0
  | _ :: _ => 1
set_option maxRecDepth 20000 in
theorem gat_n (d : Nat) (X : World) (x : Ex) (hL : LT X d x) (hb : nds d x ≤ 1000000000) : Ctr Tryz.prog X 46 [.agg (x.c.map rel1).toArray, fN] [] 0 0 (lvN 0 (gth kxN d x [])) (hR (gth kxN d x [])) (nR (gth kxN d x [])) := by
  refine fn_c _ Tryz.func46 rfl rfl rfl rfl (fun w l X' hX => run_ok (st mo ?_))
  refine ⟨_, fun nn => r_mk, st mo ?_⟩
  refine ⟨_, fun nn => r_c (tc := .tuple #[]) [1, 4, 2, 5, 3, 0] [some [fN], some [.map (some 6)], some [lvN 7 (gth kxN d x [])], some [.func (.func 80) #[] [p0 1, p0 4, p0 2, p0 5].toArray], some (mpl (prs es9 (gth kxN d x []))), some (c5N (gth kxN d x []) x.c)] [6, 7] rfl rfl
      (look_n d X' x [] x.c 0 (hL.mono (xcell hX)) ⟨fun _ h => (by cases h), Nat.le_refl _⟩ (by omega)) (fitL_cons fv (fitL_cons fp (fitL_cons fp (fitL_cons fp (fitL_cons fp rfl))))) ⟨fN_fit, fitL_cons fm rfl, fitL_cons fv rfl, fitL_cons (ff (fitL_cons fp (fitL_cons fp (fitL_cons fp (fitL_cons fp rfl))))) rfl, trivial, fml, trivial, flr rfl, trivial⟩ ut0 ⟨fN_un, unL_cons um rfl, lv_un, unL_cons (uf (unL_cons up (unL_cons up (unL_cons up (unL_cons up rfl))))) rfl, uml, ulr rfl, trivial⟩, st mo ?_⟩
  generalize gth kxN d x [] = al
  rcases al with _ | ⟨q, al⟩
  · exact ⟨rfl, [], fv, trivial, rfl, rfl⟩
  · exact ⟨rfl, [7], fs, ⟨trivial, flr rfl, trivial⟩, rfl, rfl⟩
end Go.Proofs.YtfmfeipeeedfpaaGreat
