/-
  Expressions that lie there; a function that calls itself. Maps of one's own by keys of any kind, to whole numbers.
-/
import Derived.Test.YtfmfeipeeedfpaaGreatLh
namespace Go.Proofs.YtfmfeipeeedfpaaGreat
open S
theorem mo : Tryz.prog.follows .mixedOrders = true := rfl
theorem wz {x : Int} (n : Nat) (h : x = (n : Int) := by omega) (hb : n < 9223372036854775808 := by omega) : IntKind.i64.wrap x = (n : Int) := by rw [h, IntKind.wrap_i64]; omega
theorem wi {x : Int} (h : -9223372036854775808 ≤ x ∧ x < 9223372036854775808 := by omega) : IntKind.i64.wrap x = x := by rw [IntKind.wrap_i64]; omega
/-- An expression. -/
structure Ex where
  k : Int
  op : Int
  nm : ByteArray
  sc : ByteArray
  vk : Int
  ng : Bool
  l0 : Int
  l1 : Int
  l2 : Int
  l3 : Int
  vs : Int
  fl : Bool
  tx : ByteArray
  er : Int
  s : Int
  pl : Int
  p : Option Addr
  cl : Nat
  a : List Ex
def Ex.c (x : Ex) : List Value := [.int .i64 x.k, .int .i64 x.op, .string x.nm, .string x.sc, .int .i64 x.vk, .bool x.ng, .int .u64 x.l0, .int .u64 x.l1, .int .u64 x.l2, .int .u64 x.l3, .int .i64 x.vs, .bool x.fl, .string x.tx, .int .i64 x.er, .int .i64 x.s, .int .i64 x.pl, .slice x.p x.a.length x.cl]
/-- It lies there, down to a depth. -/
def LX (w : World) : Nat → Ex → Prop
  | 0, _ => True
  | d + 1, x => x.a.length < 140737488355328 ∧ ∀ i y, x.a[i]? = some y → (∃ b o, x.p = some ⟨b, o, none⟩ ∧ Lies w b (o + i * 17) y.c) ∧ LX w d y
theorem LX.mono {w W : World} (E : ∀ a u, w.cell? a = some u → W.cell? a = some u) : ∀ {d : Nat} {x : Ex}, LX w d x → LX W d x
  | 0, _, _ => trivial
  | d + 1, _, h3 => ⟨h3.1, fun i y hy => by
    obtain ⟨⟨b, o, h4, h5⟩, h8⟩ := h3.2 i y hy
    exact ⟨⟨b, o, h4, fun j u hj => E _ _ (h5 j u hj)⟩, LX.mono E h8⟩⟩
/-- Its size, as it is counted. -/
def szX : Nat → Ex → Int
  | 0, _ => 10000
  | d + 1, x => x.a.foldl (fun n y => IntKind.i64.wrap (n + szX d y)) 1
def SzC (d : Nat) : Prop := ∀ (x : Ex) (w : World), (d : Int) < 9223372036854775808 → LX w d x → Calls Tryz.prog 28 #[.agg x.c.toArray, .int .i64 (d : Int)] w fun e W => e = .returned (.int .i64 (szX d x)) ∧ Mb w W
set_option maxRecDepth 20000 in
theorem t_size0 : SzC 0 := fun x _ _ _ => fn_pure [.agg (x.c.map rel1).toArray, .int .i64 ((0 : Nat) : Int)] Tryz.func28 rfl rfl rfl (run_ok (st mo ⟨fun _ => st mo rfl, fun h => absurd rfl h⟩))
set_option maxRecDepth 20000 in
theorem t_size1 {d : Nat} (ih : SzC d) : SzC (d + 1) := fun x w hd hL => by
  refine fn_pure [.agg (x.c.map rel1).toArray, .int .i64 ((d + 1 : Nat) : Int)] Tryz.func28 rfl rfl rfl (run_ok (st mo ?_))
  refine ⟨fun h => absurd h (by omega), fun _ => st mo (st mo ?_)⟩
  refine w_loop (fun i : Nat => ⟨⟨25, [(1, .int .i64 ((d + 1 : Nat) : Int)), (5, .int .i64 ((x.a.take i).foldl (fun n y => IntKind.i64.wrap (n + szX d y)) 1)), (11, raw (.slice x.p x.a.length x.cl)), (12, .int .i64 (x.a.length : Int)), (13, .int .i64 (i : Int))]⟩, [], 0, w⟩)
    (fun i => i ≤ x.a.length) (fun i => x.a.length - i) 0 (by omega) [] ⟨rfl, ⟨fv, fv, fv, fv, fv, trivial⟩, trivial, xf, rfl, rfl⟩ ?_
  intro i hi
  refine st mo ⟨fun hlt => st mo ?_, fun hge => st mo (st mo ?_)⟩
  · have hil : i < x.a.length := by omega
    obtain ⟨y, hy⟩ : ∃ y, x.a[i]? = some y := ⟨_, List.getElem?_eq_getElem hil⟩
    obtain ⟨⟨b, o, h4, h5⟩, h8⟩ := hL.2 i y hy
    have hb := hL.1
    refine ⟨b, o, i, h4, rfl, hil, st mo ⟨y.c, rfl, h5, st mo ⟨_, wz d, st mo ?_⟩⟩⟩
    refine ⟨_, fun nn => r_call (t := .int .i64 (szX d y)) rfl rfl Tryz.func28 (fun W M E => ih y W (by omega) (h8.mono E)), st mo ⟨_, rfl, st mo ⟨_, wz (i + 1) rfl, st mo ?_⟩⟩⟩
    refine ⟨i + 1, hil, by dsimp; omega, [], rfl, ⟨fv, fv (by rw [List.take_add_one, hy, List.foldl_append]; rfl), fv, fv, fv, trivial⟩, trivial, xf, rfl, rfl⟩
  · show _ = _
    have : i = x.a.length := by omega
    subst this
    rw [List.take_length]; rfl
theorem t_size (d : Nat) : SzC d := by
  induction d with
  | zero => exact t_size0
  | succ d ih => exact t_size1 ih
/-- The whole of it lies there. -/
def LT (w : World) : Nat → Ex → Prop
  | 0, x => x.a = []
  | d + 1, x => x.a.length < 140737488355328 ∧ ∀ i y, x.a[i]? = some y → (∃ b o, x.p = some ⟨b, o, none⟩ ∧ Lies w b (o + i * 17) y.c) ∧ LT w d y
theorem LT.mono {w W : World} (E : ∀ a u, w.cell? a = some u → W.cell? a = some u) : ∀ {d : Nat} {x : Ex}, LT w d x → LT W d x
  | 0, _, h => h
  | d + 1, _, h3 => ⟨h3.1, fun i y hy => by
    obtain ⟨⟨b, o, h4, h5⟩, h8⟩ := h3.2 i y hy
    exact ⟨⟨b, o, h4, fun j u hj => E _ _ (h5 j u hj)⟩, LT.mono E h8⟩⟩
theorem LT.len {w : World} {d : Nat} {x : Ex} (h : LT w d x) : x.a.length < 140737488355328 := by
  cases d with
  | zero => rw [show x.a = [] from h]; decide
  | succ d => exact h.1
theorem LT.at {w : World} {d : Nat} {x y : Ex} {i : Nat} (h : LT w (d + 1) x) (hy : x.a[i]? = some y) : (∃ b o, x.p = some ⟨b, o, none⟩ ∧ Lies w b (o + i * 17) y.c) ∧ LT w d y := h.2 i y hy
theorem LT.lx {w : World} : ∀ {d : Nat} {x : Ex}, LT w d x → ∀ e, LX w e x
  | _, _, _, 0 => trivial
  | 0, x, h, e + 1 => ⟨by rw [show x.a = [] from h]; decide, fun i y hy => by rw [show x.a = [] from h] at hy; cases hy⟩
  | d + 1, _, h, e + 1 => ⟨h.1, fun i y hy => ⟨(h.2 i y hy).1, (h.2 i y hy).2.lx e⟩⟩
theorem LT.up {w : World} : ∀ {d : Nat} {x : Ex}, LT w d x → LT w (d + 1) x
  | 0, x, h => ⟨by rw [show x.a = [] from h]; decide, fun i y hy => by rw [show x.a = [] from h] at hy; cases hy⟩
  | d + 1, _, h => ⟨h.1, fun i y hy => ⟨(h.2 i y hy).1, (h.2 i y hy).2.up⟩⟩
set_option maxRecDepth 20000 in
theorem t_fits {d : Nat} {x : Ex} {w : World} (hL : LT w d x) : ∃ r : Bool, Calls Tryz.prog 10 #[.agg x.c.toArray] w fun e W => e = .returned (.bool r) ∧ Mb w W := by
  by_cases h : szX 60 x ≤ 2000
  · exact ⟨true, fn_pure [.agg (x.c.map rel1).toArray] Tryz.func10 rfl rfl rfl (run_ok (st mo ⟨_, fun nn => r_call (t := .int .i64 (szX 60 x)) rfl rfl Tryz.func28 (fun W M E => t_size 60 x W (by decide) ((hL.mono E).lx 60)), st mo ⟨fun _ => st mo rfl, fun h' => absurd h (by omega)⟩⟩))⟩
  · exact ⟨false, fn_pure [.agg (x.c.map rel1).toArray] Tryz.func10 rfl rfl rfl (run_ok (st mo ⟨_, fun nn => r_call (t := .int .i64 (szX 60 x)) rfl rfl Tryz.func28 (fun W M E => t_size 60 x W (by decide) ((hL.mono E).lx 60)), st mo ⟨fun h' => absurd h' h, fun _ => st mo rfl⟩⟩))⟩
/-- How many nodes, as they are counted. -/
def nX : Nat → Ex → Int
  | 0, _ => 1
  | d + 1, x => x.a.foldl (fun n y => IntKind.i64.wrap (n + nX d y)) 1
def NdC (f d : Nat) : Prop := ∀ (x : Ex) (w : World), LT w d x → Calls Tryz.prog f #[.agg x.c.toArray] w fun e W => e = .returned (.int .i64 (nX d x)) ∧ Mb w W
set_option maxRecDepth 20000 in
theorem t_nod {d : Nat} (ih : ∀ d', d' + 1 = d → NdC 22 d') : NdC 22 d := fun x w hL => by
  refine fn_pure [.agg (x.c.map rel1).toArray] Tryz.func22 rfl rfl rfl (run_ok (st mo (st mo ?_)))
  refine w_loop (fun i : Nat => ⟨⟨19, [(3, .int .i64 ((x.a.take i).foldl (fun n y => IntKind.i64.wrap (n + nX (d - 1) y)) 1)), (7, raw (.slice x.p x.a.length x.cl)), (8, .int .i64 (x.a.length : Int)), (9, .int .i64 (i : Int))]⟩, [], 0, w⟩)
    (fun i => i ≤ x.a.length) (fun i => x.a.length - i) 0 (by omega) [] ⟨rfl, ⟨fv, fv, fv, fv, trivial⟩, trivial, xf, rfl, rfl⟩ ?_
  intro i hi
  have hb := hL.len
  refine st mo ⟨fun hlt => st mo ?_, fun hge => st mo (st mo ?_)⟩
  · have hil : i < x.a.length := by omega
    obtain ⟨y, hy⟩ : ∃ y, x.a[i]? = some y := ⟨_, List.getElem?_eq_getElem hil⟩
    cases d with
    | zero => rw [show x.a = [] from hL] at hy; cases hy
    | succ d =>
    obtain ⟨⟨b, o, h4, h5⟩, h8⟩ := hL.at hy
    refine ⟨b, o, i, h4, rfl, hil, st mo ⟨y.c, rfl, h5, st mo ?_⟩⟩
    refine ⟨_, fun nn => r_call (t := .int .i64 (nX d y)) rfl rfl Tryz.func22 (fun W M E => ih d rfl y W (h8.mono E)), st mo ⟨_, rfl, st mo ⟨_, wz (i + 1) rfl, st mo ?_⟩⟩⟩
    refine ⟨i + 1, hil, by dsimp; omega, [], rfl, ⟨fv (by rw [List.take_add_one, hy, List.foldl_append]; rfl), fv, fv, fv, trivial⟩, trivial, xf, rfl, rfl⟩
  · show _ = _
    have : i = x.a.length := by omega
    subst this
    rw [List.take_length]
    cases d with
    | zero => rw [show x.a = [] from hL]; rfl
    | succ d => rfl
theorem t_nodes (d : Nat) : NdC 22 d := by
  induction d with
  | zero => exact t_nod fun d' h => (by omega)
  | succ d ih => exact t_nod fun d' h => by cases h; exact ih
set_option maxRecDepth 20000 in
theorem q_nod {d : Nat} (ih : ∀ d', d' + 1 = d → NdC 23 d') : NdC 23 d := fun x w hL => by
  refine fn_pure [.agg (x.c.map rel1).toArray] Tryz.func23 rfl rfl rfl (run_ok (st mo ?_))
  refine w_loop (fun i : Nat => ⟨⟨21, [(1, .pointer (some ⟨0, 0, none⟩)), (3, .int .i64 ((x.a.take i).foldl (fun n y => IntKind.i64.wrap (n + nX (d - 1) y)) 1)), (4, .int .i64 (i : Int))]⟩, [(0, some (x.c.map rel1))], 1, w⟩)
    (fun i => i ≤ x.a.length) (fun i => x.a.length - i) 0 (by omega) [0] ⟨rfl, ⟨fp, fv, fv, trivial⟩, ⟨flr rfl, trivial⟩, xf, rfl, rfl⟩ ?_
  intro i hi
  have hb := hL.len
  refine st mo (st mo ⟨fun hlt => st mo ?_, fun hge => st mo (st mo ?_)⟩)
  · have hil : i < x.a.length := by omega
    obtain ⟨y, hy⟩ : ∃ y, x.a[i]? = some y := ⟨_, List.getElem?_eq_getElem hil⟩
    cases d with
    | zero => rw [show x.a = [] from hL] at hy; cases hy
    | succ d =>
    obtain ⟨⟨b, o, h4, h5⟩, h8⟩ := hL.at hy
    refine ⟨b, o, i, h4, rfl, hil, st mo ⟨y.c, rfl, h5, st mo ?_⟩⟩
    refine ⟨_, fun nn => r_call (t := .int .i64 (nX d y)) rfl rfl Tryz.func23 (fun W M E => ih d rfl y W (h8.mono E)), st mo ⟨_, rfl, st mo ⟨_, wz (i + 1) rfl, st mo ?_⟩⟩⟩
    refine ⟨i + 1, hil, by dsimp; omega, [0], rfl, ⟨fp, fv (by rw [List.take_add_one, hy, List.foldl_append]; rfl), fv, trivial⟩, ⟨flr rfl, trivial⟩, xf, rfl, rfl⟩
  · show _ = _
    have : i = x.a.length := by omega
    subst this
    rw [List.take_length]
    cases d with
    | zero => rw [show x.a = [] from hL]; rfl
    | succ d => rfl
theorem q_nodes (d : Nat) : NdC 23 d := by
  induction d with
  | zero => exact q_nod fun d' h => (by omega)
  | succ d ih => exact q_nod fun d' h => by cases h; exact ih
end Go.Proofs.YtfmfeipeeedfpaaGreat
namespace Go.Proofs.YtfmfeipeeedfpaaGreat
open S
theorem map_mod {α β : Type} {f : α → α} {g : α → β} {h : β → β} (hh : ∀ x, g (f x) = h (g x)) : ∀ (l : List α) (i : Nat), (l.modify i f).map g = (l.map g).modify i h
  | [], i => by simp
  | x :: l, 0 => by simp [hh]
  | x :: l, i + 1 => by simp [map_mod hh l i]
/-- Its pairs as they lie there. -/
abbrev prs {κ : Type} (enc : κ → Value) (al : List (κ × Int)) : List (Value × Value) := al.map fun p => (enc p.1, .int .i64 p.2)
theorem key_at {κ : Type} {enc : κ → Value} {al : List (κ × Int)} {es : Array MapEntry} (he : es.toList.map (fun e => (e.key, e.val)) = prs enc al) {a : κ} {j : Nat} (h4 : (al[j]?).map (·.1) = some a) : (es[j]?).map (·.key) = some (enc a) := by
  have h6 := congrArg (fun L => (L[j]?).map (·.1)) he
  simp only [prs, List.getElem?_map, Option.map_map] at h6
  rw [← Array.getElem?_toList]
  have h7 : Option.map (fun e : MapEntry => e.key) es.toList[j]? = (al[j]?).map (fun p => enc p.1) := h6
  rw [h7]
  cases hj : al[j]? with
  | none => rw [hj] at h4; cases h4
  | some p => rw [hj] at h4; simp at h4; simp [h4]
theorem est_m {κ : Type} {enc : κ → Value} {mt : TypeId} {al : List (κ × Int)} {W : World} {b : Nat} {es : Array MapEntry} (hb : MapAt W b es) (he : es.toList.map (fun e => (e.key, e.val)) = prs enc al) {j : Nat} (hj : j < al.length) (x : Int) : ∃ es' : Array MapEntry, (Instr.entryStore mt (.map (some b)) (.int .i64 (j : Int)) (.int .i64 x)).run Tryz.prog W = .ok () { W with heap := W.heap.setIfInBounds b (.map es' es'.size) } ∧ (∀ (j : Nat) (e : MapEntry), es'[j]? = some e → e.born = j) ∧ es'.toList.map (fun e => (e.key, e.val)) = prs enc (al.modify j fun p => (p.1, x)) := by
  have hlen : es.size = al.length := by have := congrArg List.length he; simpa [prs] using this
  have hf : es.findIdx? (fun e => (e.born : Int) == (j : Int)) = some j := by
    rw [Array.findIdx?_eq_some_iff_getElem]
    refine ⟨by omega, ?_, fun i hi => ?_⟩
    · have := hb.2 j es[j] (Array.getElem?_eq_getElem (by omega)); simp [this]
    · have := hb.2 i (es[i]'(by omega)) (Array.getElem?_eq_getElem (by omega)); simp [this]; omega
  refine ⟨es.modify j fun e => { e with val := .int .i64 x }, ?_, born_mod hb.2 (fun _ => rfl), ?_⟩
  · unfold Instr.entryStore
    simp [MapKept.run_getObj_map hb.1, asInt, asIntOf, hf, MapKept.run_setObj_map _ hb.1, Result.andThen]
  · rw [Array.toList_modify]
    exact (map_mod (f := fun e : MapEntry => { e with val := .int .i64 x }) (g := fun e => (e.key, e.val)) (h := fun p => (p.1, .int .i64 x)) (fun _ => rfl) es.toList j).trans (by rw [he]; exact (map_mod (f := fun p : κ × Int => (p.1, x)) (g := fun p : κ × Int => (enc p.1, Value.int .i64 p.2)) (h := fun p => (p.1, .int .i64 x)) (fun _ => rfl) al j).symm)
section maps
variable {κ : Type} [DecidableEq κ]
/-- What a list of pairs says of a key. -/
def lkq : List (κ × Int) → κ → Option Int
  | [], _ => none
  | (b, u) :: r, a => if b = a then some u else lkq r a
/-- The first of a key is changed, or it comes at the end. -/
def putq : List (κ × Int) → κ → Int → List (κ × Int)
  | [], a, v => [(a, v)]
  | (b, u) :: r, a, v => if b = a then (a, v) :: r else (b, u) :: putq r a v
theorem lkq_put : ∀ (al : List (κ × Int)) (a : κ) (v : Int) (c : κ), lkq (putq al a v) c = if a = c then some v else lkq al c
  | [], a, v, c => by simp [putq, lkq]
  | (b, u) :: r, a, v, c => by
    by_cases h : b = a
    · subst h; by_cases h2 : b = c <;> simp [putq, lkq, h2]
    · simp only [putq, if_neg h, lkq, lkq_put r a v c]
      by_cases h2 : b = c
      · subst h2; have h3 : ¬ a = b := fun e => h (Eq.symm e); simp [h3]
      · simp [h2]
theorem putq_len : ∀ (al : List (κ × Int)) (a : κ) (v : Int), (putq al a v).length = if (lkq al a).isSome then al.length else al.length + 1
  | [], a, v => by simp [putq, lkq]
  | (b, u) :: r, a, v => by
    by_cases h : b = a
    · simp [putq, lkq, h]
    · simp only [putq, if_neg h, lkq, List.length_cons, putq_len r a v]; split <;> rfl
def fdq : List (κ × Int) → κ → Nat → Option (Nat × Value)
  | [], _, _ => none
  | (b, u) :: r, a, i => if b = a then some (i, .int .i64 u) else fdq r a (i + 1)
theorem fdq_none : ∀ (al : List (κ × Int)) (a : κ) (i : Nat), fdq al a i = none → lkq al a = none
  | [], _, _, _ => rfl
  | (b, u) :: r, a, i, h => by
    by_cases e : b = a
    · simp [fdq, e] at h
    · simp only [fdq, if_neg e] at h; simp only [lkq, if_neg e]; exact fdq_none r a (i + 1) h
theorem fdq_some : ∀ (al : List (κ × Int)) (a : κ) (i j : Nat) (v : Value), fdq al a i = some (j, v) → ∃ u, v = .int .i64 u ∧ lkq al a = some u ∧ i ≤ j ∧ (al[j - i]?).map (·.1) = some a ∧ ∀ x, putq al a x = al.modify (j - i) (fun _ => (a, x))
  | [], _, _, _, _, h => by cases h
  | (b, u) :: r, a, i, j, v, h => by
    by_cases e : b = a
    · simp only [fdq, if_pos e] at h; cases h; subst e
      exact ⟨u, rfl, by simp [lkq], Nat.le_refl _, by simp, fun x => by simp [putq]⟩
    · simp only [fdq, if_neg e] at h
      obtain ⟨u', h1, h2, h3, h4, h5⟩ := fdq_some r a (i + 1) j v h
      refine ⟨u', h1, by simp only [lkq, if_neg e]; exact h2, by omega, ?_, fun x => ?_⟩
      · rw [show j - i = (j - (i + 1)) + 1 by omega, List.getElem?_cons_succ]; exact h4
      · rw [show j - i = (j - (i + 1)) + 1 by omega]; simp only [putq, if_neg e, h5 x, List.modify_succ_cons]
theorem putq_none : ∀ (al : List (κ × Int)) (a : κ) (v : Int), lkq al a = none → putq al a v = al ++ [(a, v)]
  | [], _, _, _ => rfl
  | (b, u) :: r, a, v, h => by
    by_cases e : b = a
    · simp [lkq, e] at h
    · simp only [lkq, if_neg e] at h; simp only [putq, if_neg e, putq_none r a v h, List.cons_append]
/-- What keys are: how they are found. -/
structure KT (kt : TypeId) (enc : κ → Value) : Prop where
  fd : ∀ (a : κ) (es : List MapEntry) (al : List (κ × Int)) (w : World), es.map (fun e => (e.key, e.val)) = al.map (fun p => (enc p.1, .int .i64 p.2)) → (Instr.findKey kt (enc a) es).run Tryz.prog w = .ok (fdq al a 0) w
  ck : ∀ (e : Bool) (a : κ) (w : World), (Instr.checkKey e 10000 kt (enc a)).run Tryz.prog w = .ok () w
  sb : ∀ a, Instr.sameBits 10000 (enc a) (enc a) = true
def nof (al : List (κ × Int)) (a : κ) : Int := (lkq al a).getD 0
/-- Where a key stands, or would be put. -/
def pof : List (κ × Int) → κ → Nat
  | [], _ => 0
  | (b, _) :: r, a => if b = a then 0 else pof r a + 1
theorem pof_some : ∀ (al : List (κ × Int)) (a : κ) (i j : Nat) (v : Value), fdq al a i = some (j, v) → j = i + pof al a
  | [], _, _, _, _, h => by cases h
  | (b, u) :: r, a, i, j, v, h => by
    by_cases e : b = a
    · simp only [fdq, if_pos e] at h; cases h; simp [pof, e]
    · simp only [fdq, if_neg e] at h
      have := pof_some r a (i + 1) j v h
      simp only [pof, if_neg e]; omega
theorem pof_none : ∀ (al : List (κ × Int)) (a : κ), lkq al a = none → pof al a = al.length
  | [], _, _ => rfl
  | (b, u) :: r, a, h => by
    by_cases e : b = a
    · simp [lkq, e] at h
    · simp only [lkq, if_neg e] at h; simp only [pof, if_neg e, pof_none r a h, List.length_cons]
theorem put_put : ∀ (al : List (κ × Int)) (a : κ) (x y : Int), (putq al a x).modify (pof al a) (fun p => (p.1, y)) = putq al a y
  | [], a, x, y => by simp [putq, pof]
  | (b, u) :: r, a, x, y => by
    by_cases e : b = a
    · simp [putq, pof, e]
    · simp [putq, pof, e, put_put r a x y]
theorem putq_fst : ∀ (al : List (κ × Int)) (a : κ) (x : Int), (putq al a x).map Prod.fst = if (lkq al a).isSome then al.map Prod.fst else al.map Prod.fst ++ [a]
  | [], a, x => by simp [putq, lkq]
  | (b, u) :: r, a, x => by
    by_cases e : b = a
    · simp [putq, lkq, e]
    · simp only [putq, if_neg e, lkq, List.map_cons, putq_fst r a x]; split <;> simp
variable {enc : κ → Value}
theorem look_m {mt kt : TypeId} (K : KT kt enc) (hu : Tryz.prog.underlying mt = some (.map kt 3)) {al : List (κ × Int)} {W : World} {b : Nat} {es : Array MapEntry} (hb : MapAt W b es) (he : es.toList.map (fun e => (e.key, e.val)) = prs enc al) (a : κ) : (Instr.lookup mt (.map (some b)) (enc a) false).run Tryz.prog W = .ok (.int .i64 (nof al a)) W := by
  have z3 : (zeroValue 3).run Tryz.prog W = .ok (.int .i64 0) W := by kernel_rfl
  have hf := K.fd a es.toList al W he
  unfold Instr.lookup nof
  cases e : fdq al a 0 with
  | none =>
    rw [e] at hf
    rw [fdq_none al a 0 e]
    simp [run_underlying hu, MapKept.run_getObj_map hb.1, K.ck, hf, z3, Result.andThen]
  | some q =>
    obtain ⟨j, v⟩ := q
    rw [e] at hf
    obtain ⟨u, rfl, h2, _⟩ := fdq_some al a 0 j v e
    rw [h2]
    simp [run_underlying hu, MapKept.run_getObj_map hb.1, K.ck, hf, Result.andThen]
theorem put_m {mt kt : TypeId} (K : KT kt enc) (hu : Tryz.prog.underlying mt = some (.map kt 3)) {al : List (κ × Int)} {W : World} {b : Nat} {es : Array MapEntry} (hb : MapAt W b es) (he : es.toList.map (fun e => (e.key, e.val)) = prs enc al) (a : κ) (x : Int) : ∃ es' : Array MapEntry, (Instr.mapUpdate mt (.map (some b)) (enc a) (.int .i64 x)).run Tryz.prog W = .ok () { W with heap := W.heap.setIfInBounds b (.map es' es'.size) } ∧ (∀ (j : Nat) (e : MapEntry), es'[j]? = some e → e.born = j) ∧ es'.toList.map (fun e => (e.key, e.val)) = prs enc (putq al a x) := by
  have hf := K.fd a es.toList al W he
  cases e : fdq al a 0 with
  | none =>
    rw [e] at hf
    refine ⟨es.push { key := enc a, val := .int .i64 x, born := es.size }, ?_, born_push hb.2, ?_⟩
    · unfold Instr.mapUpdate
      simp [run_underlying hu, MapKept.run_getObj_map hb.1, K.ck, hf, MapKept.run_setObj_map _ hb.1, Result.andThen]
    · rw [putq_none al a x (fdq_none al a 0 e)]
      simp [he, prs]
  | some q =>
    obtain ⟨j, v⟩ := q
    rw [e] at hf
    obtain ⟨u, rfl, h2, _, h4, h5⟩ := fdq_some al a 0 j v e
    rw [Nat.sub_zero] at h4 h5
    have hkey := key_at he h4
    refine ⟨es.modify j fun e => { e with key := enc a, val := .int .i64 x }, ?_, born_mod hb.2 (fun _ => rfl), ?_⟩
    · unfold Instr.mapUpdate
      simp only [Sem.run_bind, run_underlying hu, MapKept.run_getObj_map hb.1, K.ck, hf, Result.andThen_ok, hkey, Option.getD_some, Instr.keyThatStays, K.sb a, if_true, Sem.run_pure, MapKept.run_setObj_map _ hb.1, Array.size_modify]
    · rw [h5 x, Array.toList_modify]
      exact (map_mod (f := fun e : MapEntry => { e with key := enc a, val := .int .i64 x }) (g := fun e => (e.key, e.val)) (h := fun _ => (enc a, .int .i64 x)) (fun _ => rfl) es.toList j).trans (by rw [he]; exact (map_mod (f := fun _ => (a, x)) (g := fun p : κ × Int => (enc p.1, Value.int .i64 p.2)) (h := fun _ => (enc a, .int .i64 x)) (fun _ => rfl) al j).symm)
theorem fdq_val : ∀ (al : List (κ × Int)) (a : κ) (i j : Nat) (u : Int), fdq al a i = some (j, .int .i64 u) → al[j - i]? = some (a, u)
  | [], _, _, _, _, h => by cases h
  | (b, v) :: r, a, i, j, u, h => by
    by_cases e : b = a
    · simp only [fdq, if_pos e] at h; cases h; simp [e]
    · simp only [fdq, if_neg e] at h
      have h1 := (fdq_some r a (i + 1) j _ h)
      obtain ⟨_, _, _, h3, _⟩ := h1
      have := fdq_val r a (i + 1) j u h
      rw [show j - i = (j - (i + 1)) + 1 by omega, List.getElem?_cons_succ]; exact this
theorem ent_m {mt kt : TypeId} (K : KT kt enc) (hu : Tryz.prog.underlying mt = some (.map kt 3)) {al : List (κ × Int)} {W : World} {b : Nat} {es : Array MapEntry} (hb : MapAt W b es) (he : es.toList.map (fun e => (e.key, e.val)) = prs enc al) (a : κ) : ∃ es' : Array MapEntry, (Instr.mapEntry mt (.map (some b)) (enc a)).run Tryz.prog W = .ok (.tuple #[.int .i64 (nof al a), .int .i64 (pof al a : Int)]) { W with heap := W.heap.setIfInBounds b (.map es' es'.size) } ∧ (∀ (j : Nat) (e : MapEntry), es'[j]? = some e → e.born = j) ∧ es'.toList.map (fun e => (e.key, e.val)) = prs enc (putq al a (nof al a)) := by
  have hf := K.fd a es.toList al W he
  have z3 : (zeroValue 3).run Tryz.prog W = .ok (.int .i64 0) W := by kernel_rfl
  cases e : fdq al a 0 with
  | none =>
    rw [e] at hf
    have hn := fdq_none al a 0 e
    have hlen : es.size = al.length := by have := congrArg List.length he; simpa [prs] using this
    have h0 : nof al a = 0 := by unfold nof; rw [hn]; rfl
    refine ⟨es.push { key := enc a, val := .int .i64 0, born := es.size }, ?_, born_push hb.2, ?_⟩
    · unfold Instr.mapEntry
      rw [h0, pof_none al a hn, ← hlen]
      simp [run_underlying hu, MapKept.run_getObj_map hb.1, K.ck, hf, z3, MapKept.run_setObj_map _ hb.1, Result.andThen, goInt]
    · rw [h0, putq_none al a 0 hn]
      simp [he, prs]
  | some q =>
    obtain ⟨j, v⟩ := q
    rw [e] at hf
    have hj := pof_some al a 0 j v e
    obtain ⟨u, rfl, h2, _, h4, h5⟩ := fdq_some al a 0 j v e
    rw [Nat.sub_zero] at h4 h5
    have hkey := key_at he h4
    have h0 : nof al a = u := by unfold nof; rw [h2]; rfl
    have hbn : (es[j]?).map (fun x => (x.born : Int)) = some (j : Int) := by
      cases hc : es[j]? with
      | none => rw [hc] at hkey; cases hkey
      | some e0 => simp [hb.2 j e0 hc]
    refine ⟨es.modify j fun e => { e with key := enc a }, ?_, born_mod hb.2 (fun _ => rfl), ?_⟩
    · unfold Instr.mapEntry
      simp only [Sem.run_bind, run_underlying hu, MapKept.run_getObj_map hb.1, K.ck, hf, Result.andThen_ok, hkey, Option.getD_some, Instr.keyThatStays, K.sb a, if_true, Sem.run_pure, MapKept.run_setObj_map _ hb.1, Array.size_modify, h0, goInt]
      rw [show pof al a = j by omega]
      have hb2 : ((es[j]?).map (fun x => (x.born : Int))).getD 0 = (j : Int) := by rw [hbn]; rfl
      simp [hb2]
    · rw [h0, h5 u, Array.toList_modify]
      have hm1 : (es.toList.modify j fun e => { e with key := enc a }).map (fun e => (e.key, e.val)) = (es.toList.map (fun e => (e.key, e.val))).modify j (fun p => (enc a, p.2)) := map_mod (f := fun e : MapEntry => { e with key := enc a }) (g := fun e => (e.key, e.val)) (h := fun p => (enc a, p.2)) (fun _ => rfl) es.toList j
      rw [hm1, he]
      refine List.ext_getElem? fun i => ?_
      simp only [prs, List.getElem?_modify, List.getElem?_map]
      by_cases hij : j = i
      · subst hij
        have hlk : al[j]? = some (a, u) := by
          cases hc : al[j]? with
          | none => rw [hc] at h4; cases h4
          | some p =>
            rw [hc] at h4; simp at h4
            have h6 := congrArg (fun (M : List (κ × Int)) => M[j]?) (h5 u)
            have h7 : lkq al a = some u := h2
            obtain ⟨p1, p2⟩ := p
            simp at h4
            subst h4
            have := fdq_val al p1 0 j u e
            rw [Nat.sub_zero, hc] at this
            exact this
        simp [hlk]
      · simp [hij]
end maps
end Go.Proofs.YtfmfeipeeedfpaaGreat
