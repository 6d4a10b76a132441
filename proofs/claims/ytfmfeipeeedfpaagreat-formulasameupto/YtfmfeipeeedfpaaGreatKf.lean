/-
  What is handed in to evaluate in, and items, opened. Expressions that came in: how many nodes their reading has. Calls that come to something in new memory: what is told of grows with them. Folding: the pure side; trees in new memory. Folding: the program's small calls. Folding: the program. Folding: Fold of the program, whole. Folding: what comes of it, by itself: constants that were folded; folded twice; evaluated. Sums as the document says them: bit by bit. Sums as the document says them: of five limbs. Folding as the document says it. The same tree is the same. A region that draws its order and in which nothing is written: each operation once, by what is known of its operands. The law FormulaFolds. The law FormulaSame: what folding keeps. The law FormulaSame: sizes. The law FormulaSame.
-/
import Derived.Test.YtfmfeipeeedfpaaGreatKe
import Derived.Test.YtfmfeipeeedfpaaGreatKd
import Derived.JoinedCond
import Derived.Test.YtfmfeipeeedfpaaGreatKb
import Derived.Test.YtfmfeipeeedfpaaGreatKc
namespace Go.Proofs.YtfmfeipeeedfpaaGreat
open Go.ChangeShapes Go.WideShapes Go.ChangeAt Go.RowKit
open S (Lies)
namespace D
set_option maxRecDepth 100000 in
theorem fm_agg {t : TypeId} {fs : Array Field} (hu : Tryz.prog.underlying t = some (.struct fs)) {v : Value} (h : v.formed Tryz.prog t = true) : ∃ cs, v = .agg cs := by
  cases v with
  | agg cs => exact ⟨cs, rfl⟩
  | _ => unfold Value.formed at h; rw [hu] at h; first | cases h | (simp at h)
set_option maxRecDepth 100000 in
theorem key9 (v : Value) (l : Lit) (h : keyOf Tryz.prog 9 v = some l) : ∃ s, v = es9 s := by
  unfold keyOf at h
  rw [Tryz.underlying9] at h
  dsimp only at h
  unfold mapKey at h
  rw [Tryz.underlying9] at h
  cases v with
  | string s => exact ⟨s, rfl⟩
  | _ => simp at h
set_option maxRecDepth 100000 in
theorem kl9 {d : Nat} {c : Value} {l : List Lit} (h : Tryz.prog.keyLits d 9 [c] = some l) : ∃ s, c = .string s := by
  cases d with
  | zero => simp [Program.keyLits] at h
  | succ d =>
    unfold Program.keyLits at h
    rw [Tryz.underlying9] at h
    cases c with
    | string s => exact ⟨s, rfl⟩
    | _ => simp at h
set_option maxRecDepth 100000 in
theorem key53 (v : Value) (l : Lit) (h : keyOf Tryz.prog 53 v = some l) : ∃ p, v = es53 p := by
  unfold keyOf at h
  rw [ht53] at h
  dsimp only at h
  split at h
  next hq =>
    have hf : v.formed Tryz.prog 53 = true := by simp only [Bool.and_eq_true] at hq; exact hq.2
    obtain ⟨cs, rfl⟩ := fm_agg ht53 hf
    have hs : cs.size = 2 := by
      unfold Value.formed at hf
      rw [ht53] at hf
      have : cs.size = Tryz.prog.cellsOf 53 := by simpa using hf
      rw [this, cl_ck]
    obtain ⟨c0, c1, rfl⟩ : ∃ c0 c1, cs = #[c0, c1] := by
      match cs, hs with
      | ⟨[a, b]⟩, _ => exact ⟨a, b, rfl⟩
    cases e : Tryz.prog.keyLits (Tryz.prog.types.size + 1) 53 (Value.agg #[c0, c1]).cells.toList with
    | none => rw [e] at h; cases h
    | some ls =>
      clear h
      unfold Program.keyLits at e
      rw [ht53] at e
      dsimp only at e
      have hfo := fo53
      have hcl : Tryz.prog.cellsOf 53 = 2 := cl_ck
      split at e
      · generalize (Tryz.prog.fieldsOf 53).toList = L at hfo e
        have hl : L.length = 2 := by have := congrArg List.length hfo; simpa using this
        match L, hl with
        | [f0, f1], _ =>
          simp at hfo
          obtain ⟨⟨a0, a1, a2⟩, ⟨b0, b1, b2⟩⟩ := hfo
          have hc9 : Tryz.prog.cellsOf 9 = 1 := cl_string
          have hce : (Value.agg #[c0, c1]).cells.toList = [c0, c1] := rfl
          rw [hce] at e
          simp only [List.mapM_cons, List.mapM_nil, a1, a2, b1, b2, hc9, List.drop_zero, List.take_succ_cons, List.take_zero, List.drop_succ_cons, Option.map_eq_some_iff, Option.bind_eq_bind, Option.bind_eq_some_iff] at e
          obtain ⟨_, ⟨l0, h0, _, ⟨l1, h1, _⟩, _⟩, _⟩ := e
          obtain ⟨s, rfl⟩ := kl9 h0
          obtain ⟨t, rfl⟩ := kl9 h1
          exact ⟨(s, t), rfl⟩
      · cases e
  next => cases h
section
variable {H : Type} {enc : TypeId × Value → H} {W : World} {sp : Nat → Bool}
theorem mv28 {n : Nat} {v : Value} {y : DataW H × List MemPlace} (hf : v.formed Tryz.prog 28 = true) (h : DataW.trod enc Tryz.prog W 0 sp true n 28 v.cells.toList = some y) : ∃ b : VL, b.ok ∧ v = b.v := by
  obtain ⟨cs, rfl⟩ := fm_agg Tryz.underlying28 hf
  obtain ⟨b, hb, e⟩ := cut_vl h
  exact ⟨b, hb, by rw [VL.v, ← e]; rfl⟩
theorem mv66 {n : Nat} {v : Value} {y : DataW H × List MemPlace} (hf : v.formed Tryz.prog 66 = true) (h : DataW.trod enc Tryz.prog W 0 sp true n 66 v.cells.toList = some y) : ∃ b : CL, b.m.ok ∧ v = b.v := by
  obtain ⟨cs, rfl⟩ := fm_agg Tryz.underlying66 hf
  obtain ⟨b, hb, e⟩ := cut_cl h
  exact ⟨b, hb, by rw [CL.v, ← e]; rfl⟩
set_option maxRecDepth 100000 in
theorem cut_ev {fuel : Nat} {cs : List Value} {x : DataW H × List MemPlace} (h : DataW.trod enc Tryz.prog W 0 sp true fuel 36 cs = some x) : ∃ e : Ev, EvL W e ∧ cs = e.cells := by
  obtain ⟨xs, m, rfl, _, hl, hlen, hi⟩ := DataW.trod_struct Tryz.underlying36 h
  rw [cl_ev] at hl
  obtain ⟨c0, c1, c2, rfl⟩ : ∃ c0 c1 c2, cs = [c0, c1, c2] := by
    match cs, hl with
    | [a0, a1, a2], _ => exact ⟨a0, a1, a2, rfl⟩
  obtain ⟨y0, y1, y2, rfl⟩ : ∃ y0 y1 y2, xs = [y0, y1, y2] := by
    match xs, hlen with
    | [a0, a1, a2], _ => exact ⟨a0, a1, a2, rfl⟩
  have i0 := hi 0 _ rfl
  have i1 := hi 1 _ rfl
  have i2 := hi 2 _ rfl
  simp [cl_mn, cl_mc, cl_stb] at i0 i1 i2
  obtain ⟨r0, N, rfl, hN, hN2⟩ := cut_map (ok := VL.ok) u32 key9 mv28 i0
  obtain ⟨r1, C, rfl, hC, hC2⟩ := cut_map (ok := fun c : CL => c.m.ok) u33 key53 mv66 i1
  obtain ⟨L, pa, cap, rfl, hL, hS, _⟩ := cut_sl Tryz.underlying34 (n := 2) (by decide) cl_tb Tb.cells ⟨⟨#[]⟩, none, 0, []⟩ (TbL W) (fun _ => rfl) (fun _ h => cut_tb h) i2
  exact ⟨⟨r0, r1, pa, cap, N, C, L⟩, ⟨hN, hC, hN2, hC2, fun i y hy => by
    obtain ⟨b, o, h1, _, h2⟩ := hS.2 i y hy
    exact ⟨b, o, h1, h2⟩, hL, hS.1⟩, rfl⟩
end
end D
open D
section
variable {H : Type} {enc : TypeId × Value → H} {W : World} {base : Nat} {v : Value} {d : DataW H} {p : List MemPlace}
set_option maxRecDepth 100000 in
theorem open_ev (hv : Value.okWide Tryz.prog W .any base 36 v) (h : DataW.Trod enc Tryz.prog W 0 (fun _ => true) true 36 v d p) : ∃ e : Ev, EvL W e ∧ v = e.v := by
  obtain ⟨a, rfl, _⟩ := okWide_struct Tryz.underlying36 hv
  obtain ⟨fuel, hf⟩ := h
  obtain ⟨e, he, h1⟩ := cut_ev hf
  exact ⟨e, he, by rw [Ev.v, ← h1]; simp [Value.cells]⟩
end
theorem laidOut : laidOutB Tryz.prog = true := by kernel_rfl
/-- What came in reads as it did, where its places are the same. -/
theorem trodAll_stays {H : Type} {enc : TypeId × Value → H} {W W' : World} {sp' : Nat → Bool} : ∀ {ts : List TypeId} {vs : List Value} {ds : List (DataW H)} {ps : List MemPlace}, (∀ t ∈ ts, Tryz.prog.readableRec t = true ∧ t < Tryz.prog.types.size) → DataW.TrodAll enc Tryz.prog W 0 (fun _ => true) true ts vs ds ps → (∀ p ∈ ps, W.sameAt W' p) → (∀ p ∈ ps, sp' p.block = true) → DataW.TrodAll enc Tryz.prog W' 0 sp' true ts vs ds ps
  | [], [], [], _, _, h, _, _ => h
  | _ :: _, _ :: _, _ :: _, _, hT, ⟨p, q, h1, h2, e⟩, hm, hs => ⟨p, q, WideElems.Trod_stays laidOut (hT _ (List.mem_cons.2 (Or.inl rfl))).1 (hT _ (List.mem_cons.2 (Or.inl rfl))).2 h1 (fun x hx => hm x (by rw [e]; exact List.mem_append_left _ hx)) (fun x hx => hs x (by rw [e]; exact List.mem_append_left _ hx)),
      trodAll_stays (fun t ht => hT t (List.mem_cons.2 (Or.inr ht))) h2 (fun x hx => hm x (by rw [e]; exact List.mem_append_right _ hx)) (fun x hx => hs x (by rw [e]; exact List.mem_append_right _ hx)), e⟩
/-- The end of a row: what was there has not turned. -/
theorem post_mw {H : Type} {enc : TypeId × Value → H} {P : Program} {f : Func} {s : ChangeSpec} {apart fresh handsOn : Bool} {W W' : World} {args : Array Value} {v : Value} {ds gs : List (DataW H)} {p : List MemPlace}
    (hW : DataW.Whole enc P f.params.toList s.vars apart W args.toList ds gs p)
    (hres : ∀ (b : Nat) (sp : Nat → Bool) (hd : Bool), DataW.TrodAll enc P W' b sp hd f.resultTypes.toList (v.resultList f.resultTypes.size) (s.fn H (ds ++ gs)).results [])
    (hargs : ∀ sp : Nat → Bool, (∀ x ∈ p, sp x.block = true) → DataW.TrodAll enc P W' 0 sp true f.params.toList args.toList (s.fn H (ds ++ gs)).args p)
    (hvars : ∀ sp : Nat → Bool, DataW.TrodVars enc P W' sp s.vars (s.fn H (ds ++ gs)).vars []) (hk : Below W.heap.size W W') :
    s.post enc P f apart fresh handsOn false W args v W' :=
  ⟨ds, gs, p, [], p, [], hW, hres _ _ _, hargs _ (fun x hx => by simpa using hW.lt x hx), hvars _, World.keptBut_mono (fun x hx => ⟨hx, Or.inr (Or.inl hx)⟩) (Below.frame hk (· ∈ p)), fun h => by cases h⟩
end Go.Proofs.YtfmfeipeeedfpaaGreat
namespace Go.Proofs.YtfmfeipeeedfpaaGreat
open Go.ChangeShapes Go.WideShapes Go.ChangeAt Go.RowKit
open S (Lies)
open D
section
variable {H : Type} {enc : TypeId × Value → H} {W : World} {sp : Nat → Bool}
theorem bulk_mem {d : DataW H} : ∀ {l : List (DataW H)}, d ∈ l → Rows.uptoBulk d ≤ Rows.uptoBulkAll l
  | x :: l, h => by
    simp only [Rows.uptoBulkAll]
    rcases List.mem_cons.1 h with rfl | h
    · omega
    · have := bulk_mem h; omega
theorem bulk_sum {d : Nat} : ∀ (L : List Ex) (E : List (DataW H)) (b : Nat), E.length = L.length → (∀ (i : Nat) (a : Ex) (z : DataW H), L[i]? = some a → E[i]? = some z → nds d a ≤ Rows.uptoBulk z) → L.foldl (fun n a => n + nds d a) b ≤ b + Rows.uptoBulkAll E
  | [], _, b, _, _ => by simp
  | a :: L, [], b, h, _ => by simp at h
  | a :: L, z :: E, b, h, hb => by
    have h1 := hb 0 a z rfl rfl
    have h2 := bulk_sum L E (b + nds d a) (by simpa using h) (fun i x y hx hy => hb (i + 1) x y (by simpa using hx) (by simpa using hy))
    simp only [List.foldl_cons, Rows.uptoBulkAll]
    omega
/-- A slice that was read: its elements were, and its bulk is theirs. -/
theorem bk_sl {fuel : Nat} {x : DataW H × List MemPlace} {t e : TypeId} (hu : Tryz.prog.underlying t = some (.slice e)) {n : Nat} (hcl : Tryz.prog.cellsOf e = n) {α : Type} {cells : α → List Value} (hlen : ∀ y, (cells y).length = n)
    {pa : Option Addr} {L : List α} {cap : Nat} (hS : ∀ i o, L[i]? = some o → ∃ b off, pa = some ⟨b, off, none⟩ ∧ Lies W b (off + i * n) (cells o)) (h : DataW.trod enc Tryz.prog W 0 sp true fuel t [.slice pa L.length cap] = some x) :
    ∃ E : List (DataW H), E.length = L.length ∧ Rows.uptoBulkAll E ≤ Rows.uptoBulk x.1 ∧ ∀ (i : Nat) (o : α) (d : DataW H), L[i]? = some o → E[i]? = some d → ∃ m y, m < fuel ∧ DataW.trod enc Tryz.prog W 0 sp true m e (cells o) = some y ∧ y.1 = d := by
  rcases DataW.trod_slice hu h with ⟨hcs, _⟩ | ⟨a, len, cap', elems, rest, k, rfl, hcs, hx, _, _, _, hlen2, hel, _, _⟩
  · simp only [List.cons.injEq, Value.slice.injEq, and_true] at hcs
    have h0 : L = [] := List.length_eq_zero_iff.1 hcs.2.1
    subst h0
    exact ⟨[], rfl, by simp [Rows.uptoBulkAll], fun i o d hi => by simp at hi⟩
  · simp only [List.cons.injEq, Value.slice.injEq, and_true] at hcs
    obtain ⟨rfl, rfl, rfl⟩ := hcs
    refine ⟨elems.map (·.1), by simp; omega, ?_, fun i o d hi hd => ?_⟩
    · rw [hx]; simp only [Rows.uptoBulk]; omega
    · have hil : i < L.length := lt_of_get hi
      have h1 := hel i hil
      obtain ⟨y, hy⟩ := get_of_lt (show i < elems.length by omega)
      rw [List.getElem?_map, hy] at hd
      rw [hy, hcl] at h1
      cases h2 : W.cells? 0 (a.add (i * n)) n with
      | none => rw [h2] at h1; cases h1
      | some cs =>
        rw [h2] at h1
        obtain ⟨_, hcn, hcc⟩ := World.cells?_some h2
        obtain ⟨b, off, e1, hr⟩ := hS i o hi
        cases e1
        have e2 : cs = cells o := by
          refine List.ext_getElem? (fun j => ?_)
          rcases Nat.lt_or_ge j n with q | q
          · rw [← hcc j q]
            obtain ⟨v, hv⟩ := get_of_lt (show j < (cells o).length by rw [hlen]; exact q)
            rw [hv, Addr.add_mid, Addr.add_mid]
            exact hr j v hv
          · rw [List.getElem?_eq_none (by omega), List.getElem?_eq_none (by rw [hlen]; omega)]
        subst e2
        exact ⟨k, y, Nat.lt_succ_self _, h1, by simpa using hd⟩
/-- A field of a struct that was read. -/
theorem bk_fd {fuel : Nat} {cs : List Value} {x : DataW H × List MemPlace} {t : TypeId} {fs : Array Field} (hu : Tryz.prog.underlying t = some (.struct fs)) (h : DataW.trod enc Tryz.prog W 0 sp true fuel t cs = some x) (j T O : Nat) {N : Nat} (hT : (fs[j]?).map (fun f => (f.type, f.offset)) = some (T, O)) (hN : Tryz.prog.cellsOf T = N) :
    ∃ m y, m < fuel ∧ DataW.trod enc Tryz.prog W 0 sp true m T ((cs.drop O).take N) = some y ∧ Rows.uptoBulk y.1 + 1 ≤ Rows.uptoBulk x.1 := by
  obtain ⟨f, hf, e⟩ := Option.map_eq_some_iff.1 hT
  cases e
  subst hN
  obtain ⟨xs, m, rfl, hx, _, hlen, hi⟩ := DataW.trod_struct hu h
  have h1 := hi j f hf
  have hj : j < fs.size := (Array.getElem?_eq_some_iff.1 hf).1
  obtain ⟨y, hy⟩ := get_of_lt (show j < xs.length by omega)
  rw [hy] at h1
  refine ⟨m, y, Nat.lt_succ_self _, h1, ?_⟩
  have h2 : y.1 ∈ xs.map (·.1) := List.mem_map_of_mem (List.mem_of_getElem? hy)
  have h3 := bulk_mem h2
  rw [hx]
  simp only [Rows.uptoBulk]
  omega
theorem nds_bulk : ∀ (fuel d : Nat) {e : Ex} {x : DataW H × List MemPlace}, LT W d e → DataW.trod enc Tryz.prog W 0 sp true fuel 31 e.c = some x → nds d e ≤ Rows.uptoBulk x.1 := by
  intro fuel
  induction fuel using Nat.strongRecOn with
  | ind fuel ih =>
    intro d e x hL h
    obtain ⟨m, y, hm, hy, hyz⟩ := bk_fd Tryz.underlying31 h 7 29 16 rfl cl_sx
    cases d with
    | zero => show 1 ≤ _; omega
    | succ d =>
    obtain ⟨E, h1, h2, h3⟩ := bk_sl Tryz.underlying29 cl_ex (fun _ => rfl) (fun i o ho => (hL.2 i o ho).1) (cap := e.cl) hy
    have h4 := bulk_sum (d := d) e.a E 1 h1 (fun i a z ha hd => by
      obtain ⟨m2, y2, hm2, hy2, rfl⟩ := h3 i a z ha hd
      exact ih m2 (by omega) d (hL.2 i a ha).2 hy2)
    show e.a.foldl (fun n y => n + nds d y) 1 ≤ _
    omega
variable {base : Nat} {v : Value} {d : DataW H} {p : List MemPlace}
set_option maxRecDepth 100000 in
theorem open_exB (hv : Value.okWide Tryz.prog W .any base 31 v) (h : DataW.Trod enc Tryz.prog W 0 (fun _ => true) true 31 v d p) : ∃ (n : Nat) (x : Ex), (LT W n x ∧ XU n x) ∧ nds n x ≤ Rows.uptoBulk d ∧ v = .agg x.c.toArray := by
  obtain ⟨a, rfl, _⟩ := okWide_struct Tryz.underlying31 hv
  obtain ⟨fuel, hf⟩ := h
  obtain ⟨x, hx, e⟩ := cut_ex fuel hf
  refine ⟨fuel, x, hx, ?_, by rw [← e]; simp [Value.cells]⟩
  rw [e] at hf
  exact nds_bulk fuel fuel hx.1 hf
end
end Go.Proofs.YtfmfeipeeedfpaaGreat
namespace Go.Proofs.YtfmfeipeeedfpaaGreat
namespace S
open Go.RowKit (Below)
theorem Xf.tr {A B C : World} (h : Xf A B) (g : Xf B C) : Xf A C := ⟨Nat.le_trans g.1 h.1, fun b o h1 h2 => by
  obtain ⟨h3, h4⟩ := g.2 b o h1 h2
  exact h.2 b o h3 h4⟩
/-- This block is not told of. -/
def Ho (X : World) (b : Nat) : Prop := ∀ o : Obj, X.heap[b]? = some o → o = hole X
theorem Ho.xf {X X' : World} (h : Xf X' X) {b : Nat} (g : Ho X' b) : Ho X b := fun o ho => Classical.byContradiction fun hne => (h.2 b o ho hne).2 (g o (h.2 b o ho hne).1)
/-- A fact about certain blocks: it hangs on what is told of these alone. -/
structure Lcl {Y : Type} (F : Y → (Nat → Prop) → World → Prop) : Prop where
  le : ∀ y (S T : Nat → Prop) X, (∀ b, S b → T b) → F y S X → F y T X
  lo : ∀ y (S : Nat → Prop) X X', (∀ (b : Nat) (o : Obj), S b → X.heap[b]? = some o → o ≠ hole X → X'.heap[b]? = some o ∧ o ≠ hole X') → F y S X → F y S X'
theorem Lcl.xf {Y : Type} {F : Y → (Nat → Prop) → World → Prop} (h : Lcl F) {y : Y} {S : Nat → Prop} {X X' : World} (hX : Xf X' X) (hF : F y S X) : F y S X' := h.lo y S X X' (fun b o _ h1 h2 => hX.2 b o h1 h2) hF
/-- What a call comes to, in several ways. -/
def Fp (k : K) (n : Nat) (W : World) (b : Nat) : Prop := W.heap.size ≤ b ∨ ∃ j z, j < n ∧ k j = some (b, z)
def CtrX {Y : Type} (P : Program) (X : World) (f : FuncId) (vs : List Value) (h : HT) (n m : Nat) (t : Y → Value) (h' : Y → HT) (n' : Nat) (F : Y → (Nat → Prop) → World → Prop) : Prop :=
  ∀ (W : World) (k : K) (us : List Value), Ky k h n W → Sees X k W → LR (VX k) vs us → Calls P f us.toArray W fun e W' => ∃ y u k', e = .returned u ∧ VX k' (t y) u ∧ Af k n m W k' (h' y) n' W' ∧
    ∀ X2 : World, (∀ (b : Nat) (o : Obj), Fp k n W b → W'.heap[b]? = some o → (∀ i z, k' i ≠ some (b, z)) → X2.heap[b]? = some o ∧ o ≠ hole X2) → F y (Fp k n W) X2
def retX {Y : Type} (P : Program) (fn : Func) (X : World) (m : Nat) (t : Y → Value) (h' : Y → HT) (n' : Nat) (F : Y → (Nat → Prop) → World → Prop) (e : Exit) (s : St) : Prop := Xf s.X X ∧ match e with
  | .normal => resK P s.f s.h fn.results.toList fun vs => ∃ y σ, F y (Ho X) s.X ∧ fitV σ (single vs) (t y) ∧ fitH σ s.h (h' y) ∧ σ.length = n' ∧ (apartL σ && pfx m σ) = true
  | .ret => resK P s.f s.h fn.results.toList fun vs => ∃ y σ, F y (Ho X) s.X ∧ fitV σ (single vs) (t y) ∧ fitH σ s.h (h' y) ∧ σ.length = n' ∧ (apartL σ && pfx m σ) = true
  | _ => False
/-- A world of which just these blocks are not told. -/
theorem ex_mask (W : World) (O : Nat → Prop) : ∃ X : World, X.heap.size = W.heap.size ∧ (∀ b, ¬ O b → X.heap[b]? = W.heap[b]?) ∧ (∀ b o, O b → X.heap[b]? = some o → o = hole X) ∧ ∀ (b : Nat) (o : Obj), W.heap[b]? = some o → o ≠ hole X := by
  obtain ⟨N, hN⟩ := ex_hole W.heap.toList
  have dec : ∀ b, Decidable (O b) := fun b => Classical.propDecidable _
  refine ⟨{ W with heap := W.heap.mapIdx (fun b o => @ite Obj (O b) (dec b) (.cells #[] N (0, 0)) o), drawn := N }, by simp, fun b hb => ?_, fun b o hb ho => ?_, fun b o ho => hN o (by
    obtain ⟨hlt, rfl⟩ := Array.getElem?_eq_some_iff.1 ho
    simp)⟩
  · show (W.heap.mapIdx _)[b]? = _
    rw [Array.getElem?_mapIdx]
    cases W.heap[b]? with
    | none => rfl
    | some o => simp only [Option.map_some, if_neg hb]
  · have ho : (W.heap.mapIdx (fun b o => @ite Obj (O b) (dec b) (.cells #[] N (0, 0)) o))[b]? = some o := ho
    rw [Array.getElem?_mapIdx] at ho
    cases hw : W.heap[b]? with
    | none => rw [hw] at ho; cases ho
    | some o' => rw [hw] at ho; simp only [Option.map_some, if_pos hb] at ho; cases ho; rfl
theorem tb_max (σ : List Nat) (j i : Nat) (hj : σ[j]? = some i) : tb (2 ^ (σ.foldl max 0 + 1) - 1) i := by
  unfold tb
  rw [Nat.testBit_two_pow_sub_one]
  have : ∀ (l : List Nat) (a x : Nat), (x ∈ l ∨ x ≤ a) → x ≤ l.foldl max a := by
    intro l
    induction l with
    | nil => intro a x hx; rcases hx with hx | hx; cases hx; exact hx
    | cons y l ih =>
      intro a x hx
      refine ih _ _ ?_
      rcases hx with hx | hx
      · rcases List.mem_cons.1 hx with rfl | hx
        · exact Or.inr (Nat.le_max_right _ _)
        · exact Or.inl hx
      · exact Or.inr (Nat.le_trans hx (Nat.le_max_left _ _))
  have := this σ 0 i (Or.inl (List.mem_of_getElem? hj))
  simp; omega
section
variable {P : Program} {Y : Type} {F : Y → (Nat → Prop) → World → Prop}
theorem fn_x (hF : Lcl F) {X : World} {f : FuncId} {fn : Func} {c : Code} {h : HT} {h' : Y → HT} {n m n' : Nat} {t : Y → Value} (vs : List Value) (hf : P.funcs[f]? = some fn) (hb : fn.body = some c) (hm : Nat.ble vs.length fn.ntmps = true) (hfull : full h n = true) (hmn : Nat.ble m n = true)
    (H : ∀ w l X', Xf X' X → WC P ⟨w, m, l⟩ c ⟨⟨fn.ntmps, argl 0 vs⟩, h, n, X'⟩ (retX P fn X' m t h' n' F)) : CtrX P X f vs h n m t h' n' F := by
  intro W k us ky hX hv
  refine calls_of_wp hf hb ?_
  have hmn' : m ≤ n := Nat.le_of_ble_eq_true hmn
  have hks : ∀ i, i < n → ∃ b z, k i = some (b, z) ∧ b < W.heap.size := fun i hi => by
    obtain ⟨cs, hcs⟩ := full_at hfull i hi
    exact (ky.hr.rep i (tb_ones.2 hi)).lt ⟨cs, hcs⟩
  obtain ⟨X', hXs, hXo, hXi, hN'⟩ := ex_mask W (fun b => ∃ j z, j < n ∧ k j = some (b, z))
  have hXf : Xf X' X := by
    refine ⟨by rw [hXs]; exact hX.sz, fun b o h1 h2 => ?_⟩
    have h3 := hX.see b o h1 h2
    have h4 : ¬ (∃ j z, j < n ∧ k j = some (b, z)) := fun ⟨j, z, _, hk⟩ => h2 (hX.out j b z hk o h1)
    exact ⟨by rw [hXo b h4]; exact h3, hN' b o h3⟩
  have R0 : Rl ⟨{ W with heap := #[] }, m, fun i => (k i).getD (0, 0)⟩ ⟨⟨fn.ntmps, argl 0 vs⟩, h, n, X'⟩ k W { tmps := us.toArray ++ Array.replicate (fn.ntmps - us.toArray.size) undef, defers := [] } := by
    refine ⟨args_fr hv (Nat.le_of_ble_eq_true hm), ky.hr, ky.nn, ky.nk, ⟨⟨rfl, rfl, rfl, Nat.zero_le _, fun b hb => absurd hb (Nat.not_lt_zero b)⟩, fun i b z _ => Nat.zero_le _, fun b o h1 h2 => ?_, fun i b z hk o ho => ?_, by rw [hXs]; exact Nat.le_refl _, fun i hi => ?_, Nat.le_refl _⟩⟩
    · have h4 : ¬ (∃ j z, j < n ∧ k j = some (b, z)) := fun hb => h2 (hXi b o hb h1)
      rw [hXo b h4] at h1; exact h1
    · refine hXi b o ⟨i, z, ?_, hk⟩ ho
      rcases Nat.lt_or_ge i n with h' | h'
      · exact h'
      · rw [ky.nk i h'] at hk; cases hk
    · obtain ⟨b, z, hk, _⟩ := hks i (Nat.lt_of_lt_of_le hi hmn')
      show k i = some ((k i).getD (0, 0))
      rw [hk]; rfl
  refine H _ _ X' hXf _ _ _ _ R0 fun e s k1 W' a Rs hC => ?_
  obtain ⟨hX1, hC⟩ := hC
  have told : ∀ (b : Nat) (o : Obj), ¬ (∃ j z, j < n ∧ k j = some (b, z)) → W.heap[b]? = some o → s.X.heap[b]? = some o ∧ o ≠ hole s.X := fun b o hno h8 => hX1.2 b o (by rw [hXo b hno]; exact h8) (hN' b o h8)
  have key : resK P s.f s.h fn.results.toList (fun vs => ∃ y σ, F y (Ho X') s.X ∧ fitV σ (single vs) (t y) ∧ fitH σ s.h (h' y) ∧ σ.length = n' ∧ (apartL σ && pfx m σ) = true) → ∃ u, (results fn a.tmps).run P W' = .ok u W' ∧ (∃ y u' k', Ending.returned u = .returned u' ∧ VX k' (t y) u' ∧ Af k n m W k' (h' y) n' W' ∧
      ∀ X2 : World, (∀ (b : Nat) (o : Obj), Fp k n W b → W'.heap[b]? = some o → (∀ i z, k' i ≠ some (b, z)) → X2.heap[b]? = some o ∧ o ≠ hole X2) → F y (Fp k n W) X2) := fun hC => by
    obtain ⟨vs', u, ⟨y, σ, g0, g1, g2, g3, g4⟩, h2, h3⟩ := results_run Rs.fr (fun m => Rs.hr.all Rs.nn m) hC
    rw [Bool.and_eq_true] at g4
    obtain ⟨g4, g5⟩ := g4
    have kyf : Ky (ren σ k1) (h' y) n' W' := by
      rw [← g3]
      exact ky_ren (Rs.hr.all Rs.nn _) (tb_max σ) g2 g4
    refine ⟨u, h3, y, u, ren σ k1, rfl, g1 k1 u h2, ⟨kyf, fun i hi => ?_, fun i b z hk => ?_, fun b hb hj => ?_, ?_, Rs.am.old.os, ⟨Rs.am.old.tape, Rs.am.dr⟩, Rs.am.old.output⟩, fun X2 h2 => ?_⟩
    · obtain ⟨b, z, hk, _⟩ := hks i (Nat.lt_of_lt_of_le hi hmn')
      rw [ren_at (pfx_at g5 i hi), Rs.am.kp i hi]
      show some ((k i).getD (0, 0)) = k i
      rw [hk]; rfl
    · obtain ⟨i0, _, hk0⟩ := ren_some hk
      rcases Nat.lt_or_ge b W.heap.size with h7 | h7
      · refine Or.inr (Classical.byContradiction fun hne => ?_)
        obtain ⟨h9, h10⟩ := told b _ hne (Array.getElem?_eq_getElem h7)
        exact h10 (Rs.am.out i0 b _ hk0 _ h9)
      · exact Or.inl h7
    · have h8 : W.heap[b]? = some W.heap[b] := Array.getElem?_eq_getElem hb
      obtain ⟨h9, h10⟩ := told b _ (fun ⟨j, z', h8, h9⟩ => hj j z' h8 h9) h8
      rw [h8]
      exact Rs.am.see b _ h9 h10
    · exact Nat.le_trans (by rw [← hXs]; exact hX1.1) Rs.am.sz
    · refine hF.lo y _ s.X X2 (fun b o hb h4 h5 => h2 b o hb (Rs.am.see b o h4 h5) fun i z hk => ?_) (hF.le y _ _ _ (fun b hb => ?_) g0)
      · obtain ⟨i0, _, hk0⟩ := ren_some hk
        exact h5 (Rs.am.out i0 b z hk0 o h4)
      · refine Classical.byContradiction fun hne => ?_
        have h7 : b < W.heap.size := Nat.lt_of_not_le fun h => hne (Or.inl h)
        have h8 : W.heap[b]? = some W.heap[b] := Array.getElem?_eq_getElem h7
        exact hN' b _ h8 (hb _ (by rw [hXo b (fun h => hne (Or.inr h))]; exact h8))
  cases e with
  | normal => obtain ⟨u, h1, h2⟩ := key hC; exact ⟨Rs.fr.df, u, h1, h2⟩
  | ret => obtain ⟨u, h1, h2⟩ := key hC; exact ⟨Rs.fr.df, u, h1, h2⟩
  | _ => exact hC.elim
end
/-- An operation that comes to something in several ways; dr: numbers that are let go. -/
structure Ox (w0 : B0) (X : World) (P : Program) (o : Oper) (fr : FT) (h : HT) (n : Nat) {Y : Type} (x : Y → R5) (F : Y → (Nat → Prop) → World → Prop) (dr : List Nat) : Prop where
  ss : ∀ y, Ss h n (x y).h (x y).n (x y).r (x y).w
  ok : ∀ (k : K) (W : World) (a : Act) (K' : Act → World → Prop) (Q : Exit → Act → World → Prop), Am w0 X k W → (∀ y ∈ o.op.operands.toList, VX k (evo fr y) (a.eval y)) → HR k h W (ones n) → (∀ i, n ≤ i → hget h i = none) → (∀ i, n ≤ i → k i = none) →
    (∀ y u W' k' X', Sd h n (x y).h (x y).n (x y).r (x y).w k W k' W' → VX k' (x y).v u → Xf X' X → F y (Ho X) X' → (∀ i b z, k' i = some (b, z) → i ∉ dr → ∀ o : Obj, X'.heap[b]? = some o → o = hole X') → (∀ (b : Nat) (o : Obj), X'.heap[b]? = some o → o ≠ hole X' → W'.heap[b]? = some o) → X'.heap.size ≤ W'.heap.size → K' (a.put o.dst u) W') → o.wp P a W K' Q
section
variable {P : Program} {w0 : B0} {X : World} {o : Oper} {fr : FT} {hc : HT} {nc : Nat}
theorem r_cx {Y : Type} {F : Y → (Nat → Prop) → World → Prop} (hF : Lcl F) {f : FuncId} {fn : Func} {y : Operand} {xs : Array Operand} {ts : Array TypeId} {ca : Array Value} {vs : List Value} {h : HT} {h' : Y → HT} {n m n' : Nat} {t tc : Y → Value} (σ : List Nat) (cl : Y → List (Option (List Value))) (ms : List Nat)
    (ho : o.op = .call { callee := .value y, args := xs, argTypes := ts }) (hy : evo fr y = .func (.func f) #[] ca) (hctr : CtrX P X f vs h n m t h' n' F) (ha : fitL σ (evl fr xs.toList ++ ca.toList) vs) (hh : fitH σ hc h) (ht : ∀ y, unV (σ.take m ++ upto nc (n' - m)) (t y) (tc y)) (hu : ∀ y, unH (σ.take m ++ upto nc (n' - m)) (h' y) 0 (cl y)) (hcn : ∀ y, (cl y).length = n')
    (hf : P.funcs[f]? = some fn := by rfl) (hb : callB fn = true := by rfl)
    (hck : (apartL σ && full h n && Nat.beq σ.length n && Nat.ble m n && Nat.ble m n' && Nat.ble (nc + (n' - m)) 4096 && σ.all (Nat.blt · nc) && full hc nc) = true := by rfl) :
    Ox w0 X P o fr hc nc (fun yy => ⟨tc yy, mskL (setsH hc ((σ.take m ++ upto nc (n' - m)).zip (cl yy) ++ (σ.drop m).map (fun i => (i, none)))) ms, nc + (n' - m), bitsL σ, bitsL (σ ++ upto nc (n' - m))⟩) F (σ.drop m) := by
  simp only [Bool.and_eq_true, Nat.beq_eq, Nat.ble_eq, List.all_eq_true, Nat.blt_eq] at hck
  obtain ⟨⟨⟨⟨⟨⟨⟨hap, hfull⟩, hσ⟩, hmn⟩, hmn'⟩, h4⟩, hlt⟩, hfc⟩ := hck
  generalize hτ : σ.take m ++ upto nc (n' - m) = τ at *
  have τat : ∀ (j i : Nat), τ[j]? = some i ↔ (j < m ∧ σ[j]? = some i) ∨ (m ≤ j ∧ j < n' ∧ i = nc + (j - m)) := fun j i => by
    rw [← hτ]
    have hl : (σ.take m).length = m := by rw [List.length_take]; omega
    by_cases hj : j < m
    · rw [List.getElem?_append_left (by omega), List.getElem?_take, if_pos hj]
      exact ⟨fun h => Or.inl ⟨hj, h⟩, fun h => by rcases h with h | h; exact h.2; omega⟩
    · rw [List.getElem?_append_right (by omega), hl, upto_at]
      constructor
      · rintro ⟨h1, h2⟩; exact Or.inr ⟨by omega, by omega, h1⟩
      · rintro (h | ⟨h1, h2, h3⟩)
        · omega
        · exact ⟨h3, by omega⟩
  have τlen : τ.length = n' := by rw [← hτ]; simp [upto_len]; omega
  have σlt : ∀ (j i : Nat), σ[j]? = some i → i < nc := fun j i h => hlt i (List.mem_of_getElem? h)
  obtain ⟨ups, hups⟩ : ∃ ups : Y → List (Nat × Option (List Value)), ∀ yy, τ.zip (cl yy) ++ (σ.drop m).map (fun i => (i, none)) = ups yy := ⟨_, fun _ => rfl⟩
  simp only [hups]
  have upl : ∀ yy, ∀ p ∈ ups yy, p.1 < 4096 := fun yy p hp => by
    rw [← hups] at hp
    rcases List.mem_append.1 hp with hp | hp
    · have h1 := (List.of_mem_zip hp).1
      obtain ⟨j, hj⟩ := List.mem_iff_getElem?.1 h1
      rcases (τat j _).1 hj with ⟨_, h2⟩ | ⟨h2, h3, h5⟩
      · have := σlt j _ h2; omega
      · omega
    · obtain ⟨i, h1, rfl⟩ := List.mem_map.1 hp
      have := hlt i (List.mem_of_mem_drop h1)
      show i < 4096
      omega
  have upk : ∀ yy i, (i ∈ σ ∨ i ∈ upto nc (n' - m)) → ∃ c, (i, c) ∈ ups yy := fun yy i hi => by
    have inτ : i ∈ τ → ∃ c, (i, c) ∈ ups yy := fun h => by
      have hcl := hcn yy
      obtain ⟨j, hj⟩ := List.mem_iff_getElem?.1 h
      have hjl := (List.getElem?_eq_some_iff.1 hj).1
      have hc : (cl yy)[j]? = some ((cl yy)[j]'(by omega)) := List.getElem?_eq_getElem (by omega)
      refine ⟨(cl yy)[j]'(by omega), ?_⟩
      rw [← hups]
      refine List.mem_append.2 (Or.inl (List.mem_iff_getElem?.2 ⟨j, ?_⟩))
      rw [List.getElem?_zip_eq_some]; exact ⟨hj, hc⟩
    rcases hi with hi | hi
    · rw [← List.take_append_drop m σ] at hi
      rcases List.mem_append.1 hi with hi | hi
      · exact inτ (by rw [← hτ]; exact List.mem_append.2 (Or.inl hi))
      · exact ⟨none, by rw [← hups]; exact List.mem_append.2 (Or.inr (List.mem_map.2 ⟨i, hi, rfl⟩))⟩
    · exact inτ (by rw [← hτ]; exact List.mem_append.2 (Or.inr hi))
  have upi : ∀ yy i c, (i, c) ∈ ups yy → i ∈ σ ∨ i ∈ upto nc (n' - m) := fun yy i c h => by
    rw [← hups] at h
    rcases List.mem_append.1 h with h | h
    · have h1 := (List.of_mem_zip h).1
      rw [← hτ] at h1
      rcases List.mem_append.1 h1 with h1 | h1
      · exact Or.inl (List.mem_of_mem_take h1)
      · exact Or.inr h1
    · obtain ⟨i', h1, h2⟩ := List.mem_map.1 h
      cases h2
      exact Or.inl (List.mem_of_mem_drop h1)
  have A : ∀ yy i, ¬ (i ∈ σ ∨ i ∈ upto nc (n' - m)) → hget (mskL (setsH hc (ups yy)) ms) i = hget hc i := fun yy i hi => by
    rw [hget_mskL]
    rcases sets_get (h := hc) (i := i) (upl yy) with ⟨c, h1, _⟩ | ⟨_, h2⟩
    · exact absurd (upi yy i c h1) hi
    · exact h2
  have B : ∀ yy i cc, hget (mskL (setsH hc (ups yy)) ms) i = some cc → (i ∈ σ ∨ i ∈ upto nc (n' - m)) → ∃ (j : Nat) (cs : List Value), τ[j]? = some i ∧ hget (h' yy) j = some cs ∧ unL τ cs cc := fun yy i cc he hi => by
    rw [hget_mskL] at he
    rcases sets_get (h := hc) (i := i) (upl yy) with ⟨c, h1, h2⟩ | ⟨h1, _⟩
    · rw [h2] at he
      subst he
      rw [← hups] at h1
      rcases List.mem_append.1 h1 with h1 | h1
      · obtain ⟨j, hj⟩ := List.mem_iff_getElem?.1 h1
        rw [List.getElem?_zip_eq_some] at hj
        obtain ⟨cs, h3, h5⟩ := unH_get (hu yy) hj.2
        rw [Nat.zero_add] at h3
        exact ⟨j, cs, hj.1, h3, h5⟩
      · obtain ⟨i', _, h3⟩ := List.mem_map.1 h1
        cases h3
    · obtain ⟨c, h3⟩ := upk yy i hi
      exact absurd h3 (h1 c)
  have live0 : ∀ (j i : Nat), σ[j]? = some i → live hc i := fun j i hj => by
    obtain ⟨cs, hcs⟩ := full_at hfull j (by have := (List.getElem?_eq_some_iff.1 hj).1; omega)
    obtain ⟨i', us, h1, h2, _⟩ := fitH_get hh hcs
    rw [hj] at h1; cases h1
    exact ⟨us, h2⟩
  have wm : ∀ i, tb (bitsL (σ ++ upto nc (n' - m))) i ↔ (i ∈ σ ∨ i ∈ upto nc (n' - m)) := fun i => by rw [tb_bitsL, List.mem_append]
  refine ⟨fun yy => ⟨Nat.le_add_right _ _, fun nn i hi => ?_, fun i hi => A yy i (fun h => hi ((wm i).2 h)), fun i hi hn => ?_, fun i hi => ?_, fun i hi ⟨cs, hl⟩ => ?_⟩, fun k W a K' Q hA hop H0 nn nk hk => ?_⟩
  · have hi : nc + (n' - m) ≤ i := hi
    show hget (mskL (setsH hc (ups yy)) ms) i = none
    rw [A yy i (fun h => by rcases h with h | h; have := hlt i h; omega; have := upto_mem.1 h; omega)]; exact nn i (by omega)
  · rcases (wm i).1 hi with h | h
    · exact tb_bitsL.2 h
    · have := upto_mem.1 h; omega
  · show i < nc + (n' - m)
    rcases (wm i).1 hi with h | h
    · have := hlt i h; omega
    · have := upto_mem.1 h; omega
  · by_cases h : i ∈ σ ∨ i ∈ upto nc (n' - m)
    · rcases h with h | h
      · obtain ⟨j, hj⟩ := List.mem_iff_getElem?.1 h; exact live0 j i hj
      · have := upto_mem.1 h; omega
    · have hl : hget (mskL (setsH hc (ups yy)) ms) i = some cs := hl
      rw [A yy i h] at hl; exact ⟨cs, hl⟩
  · have H : HR k hc W (bitsL σ) := H0.all nn _
    have hks : ∀ i, i < nc → ∃ b z, k i = some (b, z) ∧ b < W.heap.size := fun i hi => by
      obtain ⟨cs, hcs⟩ := full_at hfc i hi
      exact (H0.rep i (tb_ones.2 hi)).lt ⟨cs, hcs⟩
    have ky : Ky (ren σ k) h n W := by
      have := ky_ren H (fun j i hj => tb_bitsL.2 (List.mem_of_getElem? hj)) hh hap
      rw [hσ] at this; exact this
    have sees : Sees X (ren σ k) W := ⟨hA.see, fun i b z hk => by obtain ⟨i0, _, h1⟩ := ren_some hk; exact hA.out i0 b z h1, hA.sz⟩
    have h4' := hop y (by rw [ho]; simp [Op.operands, Call.operands])
    rw [hy] at h4'
    obtain ⟨fi, c2, h5, h6, h7⟩ := h4'.func_inv
    have h6' : fi = [] := h6
    subst h6'
    have h8 := evl_rel (fr := fr) (k := k) (a := a) xs.toList (fun y hy => hop y (by rw [ho]; simp [Op.operands, Call.operands]; right; simpa using hy))
    have h9 := fitL_rel ha (h8.app h7)
    have hrun : (execOp a.eval o).run P W = .ok (.enter f (xs.toList.map a.eval ++ c2).toArray) W := by
      simp only [execOp, ho, resolve, h5, Deferred.ofValue, invoke, Sem.run_bind, Sem.run_pure, Result.andThen_ok, enter_ok hf hb]
      congr 2
      apply Array.ext'
      simp
    unfold Oper.wp
    rw [hrun, Oper.upon_enter]
    refine (hctr W _ _ ky sees h9).mono ?_
    rintro e W' ⟨yy, u, k1, rfl, hvx, af, hfact⟩
    let k2 : K := fun i => if nc ≤ i ∧ i < nc + (n' - m) then k1 (i - nc + m) else k i
    have kout : ∀ i, ¬ (nc ≤ i ∧ i < nc + (n' - m)) → k2 i = k i := fun i h => if_neg h
    have kin : ∀ i, nc ≤ i → i < nc + (n' - m) → k2 i = k1 (i - nc + m) := fun i h1 h2 => if_pos ⟨h1, h2⟩
    have hτk : ∀ (j i : Nat), τ[j]? = some i → k2 i = k1 j := fun j i hj => by
      rcases (τat j i).1 hj with ⟨h1, h2⟩ | ⟨h1, h2, h3⟩
      · rw [kout i (by have := σlt j i h2; omega), af.keep j h1, ren_at h2]
      · rw [kin i (by omega) (by omega)]; congr 1; omega
    have hren : ren τ k2 = k1 := by
      funext j
      cases hj : τ[j]? with
      | none =>
        have : n' ≤ j := by rw [← τlen]; exact List.getElem?_eq_none_iff.1 hj
        rw [af.ky.nk j this]; unfold ren; rw [hj]; rfl
      | some i => rw [ren_at hj, hτk j i hj]
    have jlt : ∀ (j : Nat) (cs : List Value), hget (h' yy) j = some cs → j < n' := fun j cs h => by
      rcases Nat.lt_or_ge j n' with h' | h'
      · exact h'
      · rw [af.ky.nn j h'] at h; cases h
    have kcase : ∀ i b z, i ∉ σ.drop m → k2 i = some (b, z) → (∃ j, k1 j = some (b, z)) ∨ (i < nc ∧ i ∉ σ ∧ k i = some (b, z)) := fun i b z hdr hk2 => by
      by_cases hr : nc ≤ i ∧ i < nc + (n' - m)
      · rw [kin i hr.1 hr.2] at hk2; exact Or.inl ⟨_, hk2⟩
      · rw [kout i hr] at hk2
        have hi : i < nc := by
          rcases Nat.lt_or_ge i nc with h | h
          · exact h
          · rw [nk i h] at hk2; cases hk2
        by_cases hs : i ∈ σ
        · obtain ⟨j, hj⟩ := List.mem_iff_getElem?.1 hs
          rcases Nat.lt_or_ge j m with h | h
          · exact Or.inl ⟨j, by rw [← hτk j i ((τat j i).2 (Or.inl ⟨h, hj⟩)), kout i hr]; exact hk2⟩
          · exact absurd (List.mem_iff_getElem?.2 ⟨j - m, by rw [List.getElem?_drop, show m + (j - m) = j by omega]; exact hj⟩) hdr
        · exact Or.inr ⟨hi, hs, hk2⟩
    obtain ⟨X2, hXs, hXo, hXi, hXn⟩ := ex_mask W' (fun b => ∃ i z, i ∉ σ.drop m ∧ k2 i = some (b, z))
    have hXf : Xf X2 X := ⟨by rw [hXs]; exact Nat.le_trans hA.sz af.size, fun b o h1 h2 => by
      have h3 := hA.see b o h1 h2
      have hlt' := (Array.getElem?_eq_some_iff.1 h3).1
      have hno : ∀ i z, k i ≠ some (b, z) := fun i z hk => h2 (hA.out i b z hk o h1)
      have h4 : W'.heap[b]? = some o := by rw [af.frm b hlt' (fun j z _ hkj => by obtain ⟨i0, _, g⟩ := ren_some hkj; exact hno i0 z g)]; exact h3
      have hnm : ¬ ∃ i z, i ∉ σ.drop m ∧ k2 i = some (b, z) := ?_
      · exact ⟨by rw [hXo b hnm]; exact h4, hXn b o h4⟩
      rintro ⟨i, z, hdr, hk2⟩
      rcases kcase i b z hdr hk2 with ⟨j, h5⟩ | ⟨_, _, h5⟩
      · rcases af.fresh j b z h5 with h | ⟨j', z', _, hkj⟩
        · omega
        · obtain ⟨i0, _, g⟩ := ren_some hkj; exact hno i0 z' g
      · exact hno i z h5⟩
    have hfa : F yy (Ho X) X2 := by
      refine hF.le yy (Fp (ren σ k) n W) _ X2 (fun b hb o ho => ?_) (hfact X2 fun b o hb h1 h2 => ⟨?_, hXn b o h1⟩)
      · rcases hb with hb | ⟨j, z, _, hkj⟩
        · have := (Array.getElem?_eq_some_iff.1 ho).1; have := hA.sz; omega
        · obtain ⟨i0, _, g⟩ := ren_some hkj; exact hA.out i0 b z g o ho
      · rw [hXo b ?_]
        · exact h1
        rintro ⟨i, z, hdr, hk2⟩
        rcases kcase i b z hdr hk2 with ⟨j, h5⟩ | ⟨h5, h6, h7⟩
        · exact h2 j z h5
        · obtain ⟨b', z', g1, g2⟩ := hks i h5
          rw [h7] at g1; cases g1
          rcases hb with hb | ⟨j, z, _, hkj⟩
          · omega
          · obtain ⟨i0, g3, g4⟩ := ren_some hkj
            have := σlt j i0 g3
            exact H0.inj i i0 (tb_ones.2 h5) (tb_ones.2 this) (full_at hfc i h5) (full_at hfc i0 this) (fun e => h6 (e ▸ List.mem_of_getElem? g3)) b _ b _ h7 g4 rfl
    refine hk yy u W' k2 X2 ⟨fun i p hp => ?_, fun i hi => kout i (by have hi : i < nc ∨ nc + (n' - m) ≤ i := hi; omega), ⟨fun i hi cs hcs => ?_, fun i i' hi hi' li li' hne b z b' z' kb kb' => ?_⟩, fun b hb hj => ?_, fun i b z h1 h2 hl hk2 => ?_, fun D hD hdj i b z hk2 hDb => ?_, af.size, af.os, af.tape, af.output⟩ (ht yy k2 u (by rw [hren]; exact hvx)) hXf hfa (fun i b z hk2 hdr o ho => hXi b o ⟨i, z, hdr, hk2⟩ ho) (fun b o h1 h2 => by
      rw [hXo b (fun hb => h2 (hXi b o hb h1))] at h1; exact h1) (by rw [hXs]; exact Nat.le_refl _)
    · rw [kout i (fun h => by rw [nk i h.1] at hp; cases hp)]; exact hp
    · have hi' : i ∈ σ ∨ i ∈ upto nc (n' - m) := by
        rcases tb_or.1 hi with h | h
        · exact Or.inl (tb_bitsL.1 h)
        · exact (wm i).1 h
      obtain ⟨j, cs', g1, g2, g3⟩ := B yy i cs hcs hi'
      refine (af.ky.hr.rep j (tb_ones.2 (jlt j cs' g2)) cs' g2).mono (fun p hp => by rw [hτk j i g1]; exact hp) (fun _ _ _ _ => rfl) (fun us hus => unL_rel g3 (by rw [hren]; exact hus))
    · have mem : ∀ i, tb (Nat.lor (bitsL σ) (bitsL (σ ++ upto nc (n' - m)))) i → i ∈ σ ∨ i ∈ upto nc (n' - m) := fun i hi => by
        rcases tb_or.1 hi with h | h
        · exact Or.inl (tb_bitsL.1 h)
        · exact (wm i).1 h
      obtain ⟨c1, e1⟩ := li
      obtain ⟨c1', e1'⟩ := li'
      obtain ⟨j, cs, g1, g2, _⟩ := B yy i c1 e1 (mem i hi)
      obtain ⟨j', cs', g1', g2', _⟩ := B yy i' c1' e1' (mem i' hi')
      rw [hτk j i g1] at kb
      rw [hτk j' i' g1'] at kb'
      exact af.ky.hr.inj j j' (tb_ones.2 (jlt j cs g2)) (tb_ones.2 (jlt j' cs' g2')) ⟨cs, g2⟩ ⟨cs', g2'⟩ (fun e => hne (by rw [e, g1'] at g1; cases g1; rfl)) b z b' z' kb kb'
    · refine af.frm b hb fun j z hjn hkj => ?_
      obtain ⟨i, g1, g2⟩ := ren_some hkj
      exact hj i z ((wm i).2 (Or.inl (List.mem_of_getElem? g1))) (live0 j i g1) g2
    · rw [kin i h1 h2] at hk2
      rcases af.fresh _ b z hk2 with h | ⟨j, z', hjn, hkj⟩
      · exact Or.inl h
      · obtain ⟨i0, g1, g2⟩ := ren_some hkj
        refine Or.inr ⟨i0, z', (wm i0).2 (Or.inl (List.mem_of_getElem? g1)), σlt j i0 g1, live0 j i0 g1, fun ⟨cc, hcc⟩ => ?_, g2⟩
        obtain ⟨q, cs, q1, q2, _⟩ := B yy i0 cc hcc (Or.inl (List.mem_of_getElem? g1))
        obtain ⟨cc', hcc'⟩ := hl
        obtain ⟨q', cs', q1', q2', _⟩ := B yy i cc' hcc' (Or.inr (upto_mem.2 ⟨h1, h2⟩))
        have e0 : k1 q = some (b, z') := by rw [← hτk q i0 q1, kout i0 (by have := σlt j i0 g1; omega)]; exact g2
        have e1 : k1 q' = some (b, z) := by rw [← hτk q' i q1', kin i h1 h2]; exact hk2
        have := σlt j i0 g1
        exact af.ky.hr.inj q q' (tb_ones.2 (jlt q cs q2)) (tb_ones.2 (jlt q' cs' q2')) ⟨cs, q2⟩ ⟨cs', q2'⟩ (fun e => by rw [e, q1'] at q1; cases q1; omega) b z' b z e0 e1 rfl
    · by_cases hr : nc ≤ i ∧ i < nc + (n' - m)
      · rw [kin i hr.1 hr.2] at hk2
        rcases af.fresh _ b z hk2 with h | ⟨j, z', hjn, hkj⟩
        · have := hD _ hDb; omega
        · obtain ⟨i0, _, g2⟩ := ren_some hkj; exact hdj i0 b z' g2 hDb
      · rw [kout i hr] at hk2; exact hdj i b z hk2 hDb
end
theorem list_app {A : K → World → Prop} (hSt : Stable A) {P : Program} {ops : Array Oper} (l2 : List Oper) : ∀ (l : List Oper) (s s' : RL), (∀ i, s.n ≤ i → hget s.h i = none) → EvL A P ops l s s' →
    ∃ r w, Ss s.h s.n s'.h s'.n r w ∧
      ∀ (k : K) (W : World) (a : Act) (Q : Exit → Act → World → Prop), A k W → FR k s.f a → HR k s.h W r → (∀ i, s.n ≤ i → i < s'.n → k i = none) → (∀ k' W' a', Sd s.h s.n s'.h s'.n r w k W k' W' → FR k' s'.f a' → wpList P ops Q l2 a' W') → wpList P ops Q (l ++ l2) a W
  | [], s, s', nn, e => by
    cases e
    exact ⟨0, 0, Ss.refl _ _, fun k W a Q _ hf _ _ hk => hk k W a (Sd.refl _ _ _ _) hf⟩
  | o :: l, s, s', nn, e => by
    obtain ⟨s1, h1, e⟩ := e
    obtain ⟨r1, w1, v, _, hf1, hr1, hw1, ss1, ok1⟩ := step_ok h1
    obtain ⟨r2, w2, ss2, ok2⟩ := list_app hSt l2 l s1 s' (ss1.nn nn) e
    refine ⟨Nat.lor r1 r2, Nat.lor w1 w2, ss1.trans ss2, fun k W a Q hA hf H hnew hk => ?_⟩
    rw [List.cons_append]
    refine wpList_step fun K hK => ?_
    refine ok1 k W a K Q hA (fun y _ => hf.ev y) (fun j w t _ _ => hf.get t) (H.sub fun i hi => tb_or.2 (Or.inl hi)) (fun i h1 h2 => hnew i h1 (Nat.lt_of_lt_of_le h2 ss2.le)) (fun u W' k' hd hv => hK _ _ ?_)
    have H2 := Sd.next ss1 hd nn H
    refine ok2 k' W' _ Q (hSt _ _ _ _ _ _ _ _ _ _ hA hd) (by rw [hf1]; exact (hf.mono hd.ext).put o.dst hv) (H2.sub fun i hi => tb_or.2 (Or.inr hi)) (fun i h1 h2 => by rw [hd.dom i (Or.inr h1)]; exact hnew i (Nat.le_trans ss1.le h1) h2) (fun k2 W2 a2 hd2 hf2 => hk k2 W2 a2 (Sd.trans ss1 hd ss2 hd2 nn H) hf2)
section
variable {P : Program} {w0 : B0} {C : Exit → St → Prop}
/-- What is told may grow, and blocks be let go. -/
theorem Rl.grow {s t : St} {σ : List Nat} {k : K} {W : World} {a : Act} {X' : World} (R : Rl w0 s k W a) (F : Fit w0.m s t σ) (see : ∀ (b : Nat) (o : Obj), X'.heap[b]? = some o → o ≠ hole X' → W.heap[b]? = some o) (out : ∀ (j i b z : Nat), σ[j]? = some i → k i = some (b, z) → ∀ o : Obj, X'.heap[b]? = some o → o = hole X') (sz : X'.heap.size ≤ W.heap.size) : Rl w0 ⟨t.f, t.h, t.n, X'⟩ (ren σ k) W a := by
  have R2 := F.rl R
  exact ⟨R2.fr, R2.hr, R2.nn, R2.nk, ⟨R2.am.old, R2.am.own, see, fun i b z hk o ho => by obtain ⟨i0, h1, h2⟩ := ren_some hk; exact out i i0 b z h1 h2 o ho, sz, R2.am.kp, R2.am.dr⟩⟩
theorem Fit.nt {m0 : Nat} {s t : St} {σ : List Nat} (F : Fit m0 s t σ) (i : Nat) (hi : t.n ≤ i) : hget t.h i = none := by
  cases e : hget t.h i with
  | none => rfl
  | some cs =>
    obtain ⟨i', _, h0, _⟩ := fitH_get F.h e
    have := (List.getElem?_eq_some_iff.1 h0).1
    have := F.n
    omega
def noneOf (σ dr : List Nat) : Bool := σ.all fun i => dr.all fun j => !Nat.beq i j
theorem noneOf_at {σ dr : List Nat} (h : noneOf σ dr = true) {i : Nat} (hi : i ∈ σ) : i ∉ dr := fun hd => by
  have h1 := List.all_eq_true.1 (List.all_eq_true.1 h i hi) i hd
  rw [Nat.beq_refl] at h1; cases h1
/-- What is asked where such a call stands. -/
def mid (P : Program) (w0 : B0) (C : Exit → St → Prop) (ops : Array Oper) (o : Oper) (rest : List Oper) (stk : List It) (_ : Exit) (s : St) : Prop := match s with
  | ⟨f, h, n, X⟩ => ∃ (Y : Type) (x : Y → R5) (F : Y → (Nat → Prop) → World → Prop) (dr : List Nat), Ox w0 X P o f h n x F dr ∧ ∀ y X', Xf X' X → F y (Ho X) X' → ∃ (t : FT × HT × Nat) (σ : List Nat), Fit w0.m ⟨put f o.dst (x y).v, (x y).h, (x y).n, X⟩ ⟨t.1, t.2.1, t.2.2, X⟩ σ ∧ noneOf σ dr = true ∧ Rn P w0 C ⟨ops, rest, false, ⟨t.1, t.2.1, t.2.2, 0, 0, []⟩, X', stk⟩
/-- A region in the midst of which such a call stands. -/
theorem rx {ops op0 : Array Oper} {id r0 w1 : Nat} {l0 : List (Nat × Nat)} {f : FT} {h : HT} {n : Nat} {X : World} {stk : List It} (l1 : List Oper) (o : Oper) (l2 : List Oper) (ho : ops.toList = l1 ++ o :: l2) (hg : o.guard = none)
    (hh : Rn P w0 (mid P w0 C ops o l2 stk) ⟨ops, l1, false, ⟨f, h, n, 0, 0, []⟩, X, []⟩) : Rn P w0 C ⟨op0, [], false, ⟨f, h, n, r0, w1, l0⟩, X, co (.region id ops false) :: stk⟩ := by
  intro nn
  refine ⟨_, rfl, fun h => (by cases h), ?_⟩
  show WC P w0 (.region id ops false) ⟨f, h, n, X⟩ (RnE P w0 C stk)
  intro Q k W a R hK
  obtain ⟨s1, h1, _, hC⟩ := hh nn
  obtain ⟨Y, x, F, dr, hx, hy⟩ := hC
  obtain ⟨r, w, ss, ok⟩ := list_app (Am.stable w0 X) (o :: l2) l1 ⟨f, h, n, 0, 0, []⟩ s1 nn h1
  refine wp_region_list ?_
  rw [ho]
  refine ok k W a Q R.am R.fr (R.hr.all R.nn _) (fun i h1 _ => R.nk i h1) fun k1 W1 a1 hd hf => ?_
  have R1 : Rl w0 ⟨s1.f, s1.h, s1.n, X⟩ k1 W1 a1 := R.step ss hd hf
  refine wpList_plain hg fun K hKK => hx.ok k1 W1 a1 K Q R1.am (fun y _ => R1.fr.ev y) R1.hr R1.nn R1.nk (fun y u W2 k2 X2 sd hv hX hF out see sz => hKK _ _ ?_)
  have R2 : Rl w0 ⟨put s1.f o.dst (x y).v, (x y).h, (x y).n, X⟩ k2 W2 (a1.put o.dst u) := R1.step (hx.ss y) sd ((R1.fr.mono sd.ext).put o.dst hv)
  obtain ⟨t, σ, fit, hno, hr⟩ := hy y X2 hX hF
  have R3 : Rl w0 ⟨t.1, t.2.1, t.2.2, X2⟩ (ren σ k2) W2 (a1.put o.dst u) := R2.grow fit see (fun j i b z h1 h2 => out i b z h2 (noneOf_at hno (List.mem_of_getElem? h1))) sz
  obtain ⟨s3, e1, _, e3⟩ := hr R3.nn
  obtain ⟨r2, w2, _, _, ss2, ok2⟩ := list_ok (Am.stable w0 X2) l2 ⟨t.1, t.2.1, t.2.2, 0, 0, []⟩ s3 R3.nn e1
  exact ok2 _ W2 _ Q R3.am R3.fr (R3.hr.all R3.nn _) (fun i h1 _ => R3.nk i h1) fun k3 W3 a3 hd3 hf3 => hK .normal _ k3 W3 a3 (R3.step ss2 hd3 hf3) e3
/-- Is this what is run next? -/
def atR (id : Nat) (c : Cf) : Bool := match c.rest with
  | [] => match c.stk with
    | ⟨.region j _ _, none⟩ :: _ => Nat.beq j id
    | _ => false
  | _ => false
def advU (P : Program) (w0 : B0) (C : Exit → St → Prop) (R : Cf → Prop) (id : Nat) : Nat → Cf → Prop
  | 0, c => R c
  | m + 1, c => bif atR id c then R c else oneK P w0 C (advU P w0 C R id m) R c
theorem advU_ok (hmo : P.follows .mixedOrders = true) (id : Nat) : ∀ (m : Nat) (c : Cf), advU P w0 C (Rn P w0 C) id m c → Rn P w0 C c
  | 0, _, e => e
  | m + 1, c, e => by
    unfold advU at e
    cases h : atR id c with
    | true => rw [h] at e; exact e
    | false => rw [h] at e; exact oneK_ok hmo (advU_ok hmo id m) (fun _ h => h) c e
/-- Go on up to a region. -/
theorem su (id : Nat) (hmo : P.follows .mixedOrders = true) {c : Cf} (h : advU P w0 C (Rn P w0 C) id 400 c) : Rn P w0 C c := advU_ok hmo id 400 c h
/-- One's own block told of: what names it, the value as it is. -/
theorem Rl.told {s t : St} {σ : List Nat} {k : K} {W : World} {a : Act} {i b z : Nat} {cs : List Value} (R : Rl w0 s k W a) (F : Fit w0.m s t σ) (hk : k i = some (b, z + 1)) (hcs : hget s.h i = some cs) (hp : cs.all pur1 = true) (hσ : ∀ j ∈ σ, j ≠ i ∧ live s.h j) : ∃ X' : World, Xf X' s.X ∧ Ho s.X b ∧ Lies X' b 0 (cs.map den1) ∧ Rl w0 ⟨t.f, t.h, t.n, X'⟩ (ren σ k) W a := by
  obtain ⟨X', hXs, hXo, hXi, hXn⟩ := ex_mask W (fun b => ∃ (j i z : Nat), σ[j]? = some i ∧ k i = some (b, z))
  have hall : ∀ i, live s.h i → i < s.n := fun i hl => by
    rcases Nat.lt_or_ge i s.n with h | h
    · exact h
    · exact absurd hl (not_live (R.nn i h))
  have hb : ¬ ∃ (j i z : Nat), σ[j]? = some i ∧ k i = some (b, z) := fun ⟨j, i', z', h1, h2⟩ => by
    obtain ⟨h3, h4⟩ := hσ i' (List.mem_of_getElem? h1)
    exact R.hr.inj i' i (tb_ones.2 (hall i' h4)) (tb_ones.2 (hall i ⟨cs, hcs⟩)) h4 ⟨cs, hcs⟩ h3 b _ b _ h2 hk rfl
  obtain ⟨b2, us, sp, ty, e1, e2, e3⟩ := ((R.hr.all R.nn (bit i)).rep i (tb_bit.2 rfl) cs hcs).cel hk
  rw [hk] at e1; cases e1
  have h6 := LR.map (p := pur1) (d := den1) (fun _ _ h => pur1_eq h) e3 hp
  refine ⟨X', ⟨by rw [hXs]; exact R.am.sz, fun b' o h1 h2 => ?_⟩, R.am.out i b _ hk, fun j u hj => ?_, R.grow F (fun b' o h1 h2 => by rw [hXo b' (fun h => h2 (hXi b' o h h1))] at h1; exact h1) (fun j i b' z' h1 h2 o ho => hXi b' o ⟨j, i, z', h1, h2⟩ ho) (by rw [hXs]; exact Nat.le_refl _)⟩
  · have h3 := R.am.see b' o h1 h2
    exact ⟨by rw [hXo b' (fun ⟨j, i', z', _, h5⟩ => h2 (R.am.out i' b' z' h5 o h1))]; exact h3, hXn b' o h3⟩
  · have e2' : X'.heap[b]? = some (.cells (us ++ sp).toArray ty (0, 0)) := by rw [hXo b hb]; exact e2
    rw [← h6] at hj
    rw [cell_of e2', Nat.zero_add, List.getElem?_append_left (List.getElem?_eq_some_iff.1 hj).1]; exact hj
def lives (h : HT) (i : Nat) (σ : List Nat) : Bool := σ.all fun j => !Nat.beq j i && (hget h j).isSome
theorem lives_at {h : HT} {i : Nat} {σ : List Nat} (hl : lives h i σ = true) (j : Nat) (hj : j ∈ σ) : j ≠ i ∧ live h j := by
  have h1 := List.all_eq_true.1 hl j hj
  rw [Bool.and_eq_true] at h1
  exact ⟨fun e => by rw [e, Nat.beq_refl] at h1; exact absurd h1.1 (by decide), Option.isSome_iff_exists.1 h1.2⟩
/-- A slice of one's own in a slot, told of. -/
theorem told_f {op0 : Array Oper} {r0 w1 : Nat} {l0 : List (Nat × Nat)} {f : FT} {h : HT} {n : Nat} {X : World} {c : Code} {l : List It} (tm i len es : Nat) (cs : List Value) (σ : List Nat) (t : Nat → Nat → FT × HT × Nat) (hv : fget f tm = .slice (some ⟨i, 0, none⟩) len es) (ht : Nat.blt tm f.m = true) (hcs : hget h i = some cs) (hp : cs.all pur1 = true) (hσ : lives h i σ = true)
    (F : ∀ b cap, Fit w0.m ⟨fput f tm (raw (.slice (some ⟨b, 0, none⟩) len cap)), h, n, X⟩ ⟨(t b cap).1, (t b cap).2.1, (t b cap).2.2, X⟩ σ)
    (H : ∀ b cap X', len ≤ cap → Xf X' X → Ho X b → Lies X' b 0 (cs.map den1) → Rn P w0 C (cf ⟨(t b cap).1, (t b cap).2.1, (t b cap).2.2, X'⟩ (co c :: l))) : Rn P w0 C ⟨op0, [], false, ⟨f, h, n, r0, w1, l0⟩, X, co c :: l⟩ := by
  intro nn
  refine ⟨_, rfl, fun h => (by cases h), ?_⟩
  show WC P w0 c ⟨f, h, n, X⟩ (RnE P w0 C l)
  intro Q k W a R hK
  have h1 := R.fr.get tm
  rw [hv] at h1
  obtain ⟨_, b, z, cap, hk, hu, hl, hz⟩ := h1.slc_inv
  have R1 : Rl w0 ⟨fput f tm (raw (.slice (some ⟨b, 0, none⟩) len cap)), h, n, X⟩ k W a := ⟨⟨by rw [fput_m]; exact R.fr.m, fun t' => by
    by_cases e : tm = t'
    · subst e
      rw [fget_same _ (by rw [Nat.blt_eq] at ht; exact ht)]
      have : a.tmps.getD tm undef = .slice (some ⟨b, 0, none⟩) len cap := hu
      rw [this]; exact VX.raw
    · rw [fget_ne _ e]; exact R.fr.get t', R.fr.df⟩, R.hr, R.nn, R.nk, R.am⟩
  obtain ⟨X', g1, g2, g3, R2⟩ := R1.told (F b cap) hk hcs hp (lives_at hσ)
  have hr := H b cap X' hl g1 g2 g3
  have hw : WC P w0 c ⟨(t b cap).1, (t b cap).2.1, (t b cap).2.2, X'⟩ (RnE P w0 C l) := cf_sem R2.nn hr
  exact hw Q _ W a R2 hK
end
end S
end Go.Proofs.YtfmfeipeeedfpaaGreat
namespace Go.Proofs.YtfmfeipeeedfpaaGreat
open S Go.RowKit
/-- A node without its place, its arguments as told. -/
def kd (g : Ex → Ex) (x : Ex) : Ex := { x with p := none, cl := 0, a := x.a.map g }
/-- A tree without its places. -/
def ek : Nat → Ex → Ex
  | 0, x => kd (fun y => y) x
  | d + 1, x => kd (ek d) x
/-- No deeper than that. -/
def Dp : Nat → Ex → Prop
  | 0, x => x.a = []
  | d + 1, x => ∀ y ∈ x.a, Dp d y
theorem kd_c {f g : Ex → Ex} {x : Ex} (h : ∀ y ∈ x.a, f y = g y) : kd f x = kd g x := by
  unfold kd; rw [List.map_congr_left h]
theorem ek_up : ∀ {d : Nat} {x : Ex}, Dp d x → ek (d + 1) x = ek d x
  | 0, x, h => kd_c fun y hy => by rw [show x.a = [] from h] at hy; cases hy
  | d + 1, x, h => kd_c fun y hy => ek_up (h y hy)
theorem Dp.up : ∀ {d : Nat} {x : Ex}, Dp d x → Dp (d + 1) x
  | 0, x, h => fun y hy => by rw [show x.a = [] from h] at hy; cases hy
  | d + 1, x, h => fun y hy => (h y hy).up
theorem XU.up : ∀ {d : Nat} {x : Ex}, Dp d x → XU d x → XU (d + 1) x
  | 0, x, h, hu => ⟨hu, fun y hy => by rw [show x.a = [] from h] at hy; cases hy⟩
  | d + 1, x, h, hu => ⟨hu.1, fun y hy => XU.up (h y hy) (hu.2 y hy)⟩
/-- A constant that holds this value. -/
def cstX (v : VL) : Ex := ⟨1, 0, E0, E0, v.k, v.b, l0 v.n, l1 v.n, l2 v.n, l3 v.n, v.s, v.f, v.t, v.e, 0, 0, none, 0, []⟩
theorem cst_ek (v : VL) : ∀ d, ek d (cstX v) = cstX v
  | 0 => rfl
  | _ + 1 => rfl
def isC (y : Ex) : Bool := decide (y.k = 1) && y.a.isEmpty
/-- Is the first one a flag that is known? -/
def fsC (l : List Ex) : Bool := match l with
  | c :: _ => isC c && decide (c.vk = 2)
  | [] => false
/-- Is it an if of which is known which argument it takes? -/
def chE (b : Ex) : Bool := decide (b.k = 6) && whl b && fsC b.a
def fxE (b : Ex) : Bool := whl b && !decide (b.k = 2) && !decide (b.k = 10) && b.a.all isC
def pkE (b : Ex) : Ex := match b.a with
  | [c, p, q] => if c.fl then p else q
  | _ => b
def fnE (e : Ev) (d : Nat) (b : Ex) : Ex := if chE b then pkE b else if fxE b then cstX (evE e d b) else b
/-- What a tree folds to. -/
def fdE (e : Ev) : Nat → Ex → Ex
  | 0, x => fnE e 0 (kd (fun y => y) x)
  | d + 1, x => fnE e (d + 1) (kd (fdE e d) x)
theorem isC_ek (y : Ex) : ∀ d, isC (ek d y) = isC y := by
  have : ∀ g, isC (kd g y) = isC y := fun g => by unfold isC kd; dsimp only; cases y.a <;> rfl
  intro d; cases d <;> exact this _
theorem whl_kd (g : Ex → Ex) (x : Ex) : whl (kd g x) = whl x := by
  unfold whl whN kd; dsimp only; rw [List.length_map]
theorem ev_ek (e : Ev) : ∀ (d : Nat) (x : Ex), evE e d (ek d x) = evE e d x
  | 0, x => by unfold evE ek; rw [whl_kd]; rfl
  | d + 1, x => by
    unfold evE; rw [ek, whl_kd]
    have : (fun j => (((kd (ek d) x).a[j]?).map (evE e d)).getD vBl) = fun j => ((x.a[j]?).map (evE e d)).getD vBl := funext fun (j : Nat) => by
      show (((x.a.map (ek d))[j]?).map (evE e d)).getD vBl = _
      rw [List.getElem?_map, Option.map_map]
      cases x.a[j]? with
      | none => rfl
      | some y => simp only [Option.map_some, Option.getD_some, Function.comp_apply]; exact ev_ek e d y
    rw [this]; rfl
theorem ch_kd (d : Nat) (x : Ex) : chE (kd (ek d) x) = chE x := by
  unfold chE; rw [whl_kd]
  have : ∀ y, isC (ek d y) = isC y ∧ (ek d y).vk = y.vk := fun y => ⟨isC_ek y d, by cases d <;> rfl⟩
  unfold kd; dsimp only
  cases x.a with
  | nil => rfl
  | cons c r => simp only [List.map_cons, fsC, (this c).1, (this c).2]
theorem fx_kd (d : Nat) (x : Ex) : fxE (kd (ek d) x) = fxE x := by
  unfold fxE; rw [whl_kd]
  unfold kd; dsimp only
  rw [List.all_map]
  have : isC ∘ ek d = isC := funext fun y => isC_ek y d
  rw [this]
/-! Trees that lie in certain blocks. -/
def LN (S : Nat → Prop) (w : World) : Nat → Ex → Prop
  | 0, x => x.a = []
  | d + 1, x => x.a.length ≤ 1000000000 ∧ ∀ i y, x.a[i]? = some y → (∃ b o, S b ∧ x.p = some ⟨b, o, none⟩ ∧ Lies w b (o + i * 17) y.c) ∧ LN S w d y
theorem LN.lt {S : Nat → Prop} {w : World} : ∀ {d : Nat} {x : Ex}, LN S w d x → LT w d x
  | 0, _, h => h
  | d + 1, _, h => ⟨Nat.le_trans h.1 (by decide), fun i y hy => by obtain ⟨⟨b, o, _, h2, h3⟩, h4⟩ := h.2 i y hy; exact ⟨⟨b, o, h2, h3⟩, h4.lt⟩⟩
theorem LN.dp {S : Nat → Prop} {w : World} : ∀ {d : Nat} {x : Ex}, LN S w d x → Dp d x
  | 0, _, h => h
  | d + 1, _, h => fun y hy => by obtain ⟨i, hi⟩ := List.getElem?_of_mem hy; exact (h.2 i y hi).2.dp
theorem LN.up {S : Nat → Prop} {w : World} : ∀ {d : Nat} {x : Ex}, LN S w d x → LN S w (d + 1) x
  | 0, x, h => ⟨by rw [show x.a = [] from h]; decide, fun i y hy => by rw [show x.a = [] from h] at hy; cases hy⟩
  | d + 1, _, h => ⟨h.1, fun i y hy => ⟨(h.2 i y hy).1, (h.2 i y hy).2.up⟩⟩
theorem LN.le {S T : Nat → Prop} (hST : ∀ b, S b → T b) {w : World} : ∀ {d : Nat} {x : Ex}, LN S w d x → LN T w d x
  | 0, _, h => h
  | d + 1, _, h => ⟨h.1, fun i y hy => by obtain ⟨⟨b, o, h1, h2, h3⟩, h4⟩ := h.2 i y hy; exact ⟨⟨b, o, hST b h1, h2, h3⟩, LN.le hST h4⟩⟩
theorem lies_lo {X X' : World} {b o : Nat} {us : List Value} (h : ∀ o : Obj, X.heap[b]? = some o → o ≠ hole X → X'.heap[b]? = some o ∧ o ≠ hole X') (hl : Lies X b o us) : Lies X' b o us := fun j u hj => by
  have hc := hl j u hj
  unfold World.cell? at hc ⊢
  dsimp only at hc ⊢
  split at hc
  · rename_i c ty fz hx
    have : (Obj.cells c ty fz) ≠ hole X := fun e => by
      unfold hole at e
      cases e
      simp at hc
    rw [(h _ hx this).1]; exact hc
  · cases hc
theorem LN.lo {S : Nat → Prop} {X X' : World} (h : ∀ (b : Nat) (o : Obj), S b → X.heap[b]? = some o → o ≠ hole X → X'.heap[b]? = some o ∧ o ≠ hole X') : ∀ {d : Nat} {x : Ex}, LN S X d x → LN S X' d x
  | 0, _, g => g
  | d + 1, _, g => ⟨g.1, fun i y hy => by obtain ⟨⟨b, o, h1, h2, h3⟩, h4⟩ := g.2 i y hy; exact ⟨⟨b, o, h1, h2, lies_lo (fun o' => h b o' h1) h3⟩, LN.lo h h4⟩⟩
theorem LN.xf {S : Nat → Prop} {X X' : World} (h : Xf X' X) {d : Nat} {x : Ex} (g : LN S X d x) : LN S X' d x := g.lo fun b o _ => h.2 b o
theorem cst_ln (S : Nat → Prop) (w : World) (v : VL) : ∀ d, LN S w d (cstX v)
  | 0 => rfl
  | _ + 1 => ⟨Nat.zero_le _, fun i y hy => by cases hy⟩
theorem cst_xu (v : VL) : ∀ d, XU d (cstX v) := by
  have : (cstX v).u4 := u4_lb v.n
  intro d; cases d with
  | zero => exact this
  | succ d => exact ⟨this, fun y hy => by cases hy⟩
/-- A tree in new memory that is what this one folds to. -/
def FX (e : Ev) (d : Nat) (x : Ex) (y : Ex × Bool) (S : Nat → Prop) (W : World) : Prop := LN S W d y.1 ∧ XU d y.1 ∧ ek d y.1 = fdE e d x
theorem loc_FX (e : Ev) (d : Nat) (x : Ex) : Lcl (FX e d x) := ⟨fun _ _ _ _ h g => ⟨g.1.le h, g.2⟩, fun _ _ _ _ h g => ⟨g.1.lo h, g.2⟩⟩
/-- Arguments that were folded. -/
abbrev YA := List Ex × Option Addr × Nat × Bool
structure FA (e : Ev) (d : Nat) (x : Ex) (y : YA) (S : Nat → Prop) (W : World) : Prop where
  l : ∀ (i : Nat) (z : Ex), y.1[i]? = some z → (∃ b o, S b ∧ y.2.1 = some ⟨b, o, none⟩ ∧ Lies W b (o + i * 17) z.c) ∧ LN S W d z ∧ XU d z
  m : y.1.map (ek d) = x.a.map (fdE e d)
theorem loc_FA (e : Ev) (d : Nat) (x : Ex) : Lcl (FA e d x) := ⟨fun _ _ _ _ h g => ⟨fun i z hz => by obtain ⟨⟨b, o, h1, h2⟩, h3, h4⟩ := g.l i z hz; exact ⟨⟨b, o, h b h1, h2⟩, h3.le h, h4⟩, g.m⟩,
  fun _ _ _ _ h g => ⟨fun i z hz => by obtain ⟨⟨b, o, h1, h2, h5⟩, h3, h4⟩ := g.l i z hz; exact ⟨⟨b, o, h1, h2, lies_lo (fun o' => h b o' h1) h5⟩, h3.lo h, h4⟩, g.m⟩⟩
/-- The node with its arguments folded, as it lies there. -/
def bX (x : Ex) (y : YA) : Ex := { x with p := y.2.1, cl := y.2.2.1, a := y.1 }
section
variable {e : Ev} {d : Nat} {x : Ex} {y : YA} {S : Nat → Prop} {W : World}
theorem FA.len (h : FA e d x y S W) : y.1.length = x.a.length := by have := congrArg List.length h.m; simpa using this
theorem FA.ln (h : FA e d x y S W) (hl : x.a.length ≤ 1000000000) : LN S W (d + 1) (bX x y) := ⟨by show y.1.length ≤ _; rw [h.len]; exact hl, fun i z hz => ⟨(h.l i z hz).1, (h.l i z hz).2.1⟩⟩
theorem FA.xu (h : FA e d x y S W) (hx : x.u4) : XU (d + 1) (bX x y) := ⟨hx, fun z hz => by obtain ⟨i, hi⟩ := List.getElem?_of_mem hz; exact (h.l i z hi).2.2⟩
theorem FA.ek (h : FA e d x y S W) : ek (d + 1) (bX x y) = kd (fdE e d) x := by
  show kd (_root_.Go.Proofs.YtfmfeipeeedfpaaGreat.ek d) (bX x y) = _
  unfold kd bX; dsimp only; rw [h.m]
theorem FA.ch (h : FA e d x y S W) : chE (bX x y) = chE (kd (fdE e d) x) := by rw [← h.ek]; exact (ch_kd d _).symm
theorem FA.fx (h : FA e d x y S W) : fxE (bX x y) = fxE (kd (fdE e d) x) := by rw [← h.ek]; exact (fx_kd d _).symm
theorem FA.ev (h : FA e d x y S W) (e' : Ev) : evE e' (d + 1) (bX x y) = evE e' (d + 1) (kd (fdE e d) x) := by rw [← h.ek]; exact (ev_ek e' (d + 1) _).symm
/-- What comes of it: one of its arguments, a constant, itself. -/
theorem FA.pick (h : FA e d x y S W) (hc : chE (bX x y) = true) {c p q : Ex} (ha : y.1 = [c, p, q]) (mk : Bool) : FX e (d + 1) x (if c.fl then p else q, mk) S W := by
  have hp : ∀ z ∈ y.1, LN S W d z ∧ XU d z := fun z hz => by obtain ⟨i, hi⟩ := List.getElem?_of_mem hz; exact (h.l i z hi).2
  have hm := h.m
  rw [ha] at hm hp
  have key : ∀ z, z ∈ [c, p, q] → LN S W (d + 1) z ∧ XU (d + 1) z ∧ _root_.Go.Proofs.YtfmfeipeeedfpaaGreat.ek (d + 1) z = _root_.Go.Proofs.YtfmfeipeeedfpaaGreat.ek d z := fun z hz => ⟨(hp z hz).1.up, XU.up (hp z hz).1.dp (hp z hz).2, ek_up (hp z hz).1.dp⟩
  have hfd : fdE e (d + 1) x = pkE (kd (fdE e d) x) := by
    show fnE e (d + 1) (kd (fdE e d) x) = _
    unfold fnE; rw [← h.ch, hc]; rfl
  have hpk : pkE (kd (fdE e d) x) = if c.fl then _root_.Go.Proofs.YtfmfeipeeedfpaaGreat.ek d p else _root_.Go.Proofs.YtfmfeipeeedfpaaGreat.ek d q := by
    unfold pkE
    show (match x.a.map (fdE e d) with
      | [c, p, q] => if c.fl then p else q
      | _ => kd (fdE e d) x) = _
    rw [← hm]
    have : (_root_.Go.Proofs.YtfmfeipeeedfpaaGreat.ek d c).fl = c.fl := by cases d <;> rfl
    simp only [List.map_cons, List.map_nil, this]
  unfold FX
  rw [hfd, hpk]
  cases c.fl with
  | true => obtain ⟨g1, g2, g3⟩ := key p (by simp); exact ⟨g1, g2, g3⟩
  | false => obtain ⟨g1, g2, g3⟩ := key q (by simp); exact ⟨g1, g2, g3⟩
theorem FA.cst (h : FA e d x y S W) (hc : chE (bX x y) = false) (hf : fxE (bX x y) = true) (mk : Bool) : FX e (d + 1) x (cstX (evE e (d + 1) (bX x y)), mk) S W := by
  refine ⟨cst_ln _ _ _ _, cst_xu _ _, ?_⟩
  show _root_.Go.Proofs.YtfmfeipeeedfpaaGreat.ek (d + 1) (cstX _) = fnE e (d + 1) (kd (fdE e d) x)
  unfold fnE
  rw [← h.ch, hc, ← h.fx, hf, cst_ek, h.ev]; rfl
theorem FA.it (h : FA e d x y S W) (hl : x.a.length ≤ 1000000000) (hx : x.u4) (hc : chE (bX x y) = false) (hf : fxE (bX x y) = false) (mk : Bool) : FX e (d + 1) x (bX x y, mk) S W := by
  refine ⟨h.ln hl, h.xu hx, ?_⟩
  show _root_.Go.Proofs.YtfmfeipeeedfpaaGreat.ek (d + 1) (bX x y) = fnE e (d + 1) (kd (fdE e d) x)
  unfold fnE
  rw [← h.ch, hc, ← h.fx, hf, h.ek]; rfl
end
/-- Of a node without arguments. -/
theorem FX.low {e : Ev} {x : Ex} {y : Ex × Bool} {S : Nat → Prop} {W : World} (hx : x.a = []) (h : FX e 1 x y S W) : FX e 0 x y S W := by
  have e1 : fdE e 1 x = fdE e 0 x := by
    show fnE e 1 (kd (fdE e 0) x) = fnE e 0 (kd (fun y => y) x)
    have : kd (fdE e 0) x = kd (fun y => y) x := kd_c fun y hy => by rw [hx] at hy; cases hy
    rw [this]
    have ha : (kd (fun y => y) x).a = [] := by unfold kd; simp [hx]
    unfold fnE
    have : evE e 1 (kd (fun y => y) x) = evE e 0 (kd (fun y => y) x) := by
      unfold evE; rw [ha]; rfl
    rw [this]
  have ha : (fdE e 0 x).a = [] := by
    have hk : (kd (fun y => y) x).a = [] := by unfold kd; simp [hx]
    show (fnE e 0 (kd (fun y => y) x)).a = []
    unfold fnE
    split
    · unfold pkE; rw [hk]; exact hk
    · split
      · rfl
      · exact hk
  have hy : y.1.a = [] := by
    have := congrArg Ex.a h.2.2
    rw [e1, ha] at this
    have h2 : y.1.a.map (ek 0) = [] := this
    simpa using h2
  refine ⟨hy, h.2.1.1, ?_⟩
  rw [← e1, ← h.2.2]
  exact (ek_up (d := 0) hy).symm
theorem nds_kid {d : Nat} {x : Ex} {N : Nat} (h : nds (d + 1) x ≤ N) : x.a.length ≤ N ∧ ∀ y ∈ x.a, nds d y ≤ N := by
  have pos : ∀ (d : Nat) (y : Ex), 1 ≤ nds d y := fun d y => by
    cases d with
    | zero => exact Nat.le_refl _
    | succ d => show 1 ≤ y.a.foldl (fun n y => n + nds d y) 1; rw [fold_nds]; omega
  have key : ∀ l : List Ex, l.length ≤ l.foldl (fun n y => n + nds d y) 0 ∧ ∀ y ∈ l, nds d y ≤ l.foldl (fun n y => n + nds d y) 0 := by
    intro l
    induction l with
    | nil => exact ⟨Nat.le_refl _, fun y hy => by cases hy⟩
    | cons z l ih =>
      rw [List.foldl_cons, fold_nds]
      have := pos d z
      refine ⟨by rw [List.length_cons]; omega, fun y hy => ?_⟩
      rcases List.mem_cons.1 hy with rfl | hy
      · omega
      · have := ih.2 y hy; omega
  have h1 : nds (d + 1) x = 1 + x.a.foldl (fun n y => n + nds d y) 0 := fold_nds x.a 1
  obtain ⟨k1, k2⟩ := key x.a
  exact ⟨by omega, fun y hy => by have := k2 y hy; omega⟩
theorem emp_len {x : Ex} : x.a.isEmpty = decide ((x.a.length : Int) = 0) := by
  cases h : x.a with
  | nil => rfl
  | cons a l => simp; omega
set_option maxRecDepth 20000 in
theorem f_const (x : Ex) (w : World) : Calls Tryz.prog 135 #[.agg x.c.toArray] w fun r W => r = .returned (.bool (isC x)) ∧ Mb w W := by
  refine fn_pure [.agg (x.c.map rel1).toArray] Tryz.func135 rfl rfl rfl (run_ok (st mo ?_))
  refine ⟨fun h => st mo (st mo ⟨fun h0 => st mo ?_, fun h0 => st mo ?_⟩), fun h => st mo ?_⟩
  · show _ = _; rw [isC, emp_len, decide_eq_true h, decide_eq_true h0]; rfl
  · show _ = _; rw [isC, emp_len, decide_eq_true h, decide_eq_false h0]; rfl
  · show _ = _; rw [isC, decide_eq_false h]; rfl
theorem f_const' {x : Ex} {b : Bool} (h : isC x = b) (w : World) : Calls Tryz.prog 135 #[.agg x.c.toArray] w fun r W => r = .returned (.bool b) ∧ Mb w W := h ▸ f_const x w
set_option maxRecDepth 20000 in
theorem f_choice {d : Nat} (x : Ex) (w : World) (hL : LT w (d + 1) x) : Calls Tryz.prog 89 #[.agg x.c.toArray] w fun r W => r = .returned (.bool (chE x)) ∧ Mb w W := by
  refine fn_pure [.agg (x.c.map rel1).toArray] Tryz.func89 rfl rfl rfl (run_ok (st mo ?_))
  refine ⟨fun h6 => st mo ?_, fun h6 => st mo ?_⟩
  · cases hw : whl x with
    | false =>
      refine ⟨_, fun nn => r_call (t := litF) rfl rfl Tryz.func60 (fun W M E => f_whole' hw W), st mo ?_⟩
      show _ = _; rw [chE, hw, Bool.and_false]; rfl
    | true =>
      have hl : x.a.length = 3 := by
        have h := of_decide_eq_true hw
        unfold whN at h
        rw [if_neg (by omega), if_neg (by omega), if_neg (by omega), if_pos h6] at h
        injection h with h; exact h.symm
      obtain ⟨c, hc⟩ : ∃ c, x.a[0]? = some c := ⟨_, List.getElem?_eq_getElem (by omega)⟩
      obtain ⟨⟨b, o, h4, h5⟩, h8⟩ := hL.at hc
      have hm : fsC x.a = (isC c && decide (c.vk = 2)) := by
        cases ha : x.a with
        | nil => rw [ha] at hl; cases hl
        | cons z l => rw [ha] at hc; simp at hc; subst hc; rfl
      refine ⟨_, fun nn => r_call (t := litT) rfl rfl Tryz.func60 (fun W M E => f_whole' hw W), st mo ?_⟩
      refine ⟨b, o, 0, h4, rfl, by omega, st mo ⟨c.c, rfl, h5, st mo ?_⟩⟩
      cases hcc : isC c with
      | false =>
        refine ⟨_, fun nn => r_call (t := litF) rfl rfl Tryz.func135 (fun W M E => f_const' hcc W), st mo ?_⟩
        show _ = _; rw [chE, hm, hcc, hw, Bool.false_and, Bool.and_false]
      | true =>
        refine ⟨_, fun nn => r_call (t := litT) rfl rfl Tryz.func135 (fun W M E => f_const' hcc W), st mo ?_⟩
        refine ⟨b, o, 0, h4, rfl, by omega, st mo ⟨.int .i64 c.vk, h5 4 _ rfl, st mo ⟨fun h2 => st mo ?_, fun h2 => st mo ?_⟩⟩⟩
        · show _ = _; rw [chE, hm, hcc, hw, decide_eq_true h6, decide_eq_true h2]; rfl
        · show _ = _; rw [chE, hm, hcc, hw, decide_eq_true h6, decide_eq_false h2]; rfl
  · show _ = _; rw [chE, decide_eq_false h6]; rfl
theorem all_stop {l : List Ex} {i : Nat} {y : Ex} (hy : l[i]? = some y) (h : isC y = false) : l.all isC = false := by
  rw [Bool.eq_false_iff]; intro ha
  rw [List.all_eq_true] at ha
  rw [ha y (List.mem_of_getElem? hy)] at h; cases h
set_option maxRecDepth 20000 in
theorem f_fixed {d : Nat} (x : Ex) (w : World) (hL : LT w (d + 1) x) : Calls Tryz.prog 90 #[.agg x.c.toArray] w fun r W => r = .returned (.bool (fxE x)) ∧ Mb w W := by
  refine fn_pure [.agg (x.c.map rel1).toArray] Tryz.func90 rfl rfl rfl (run_ok (st mo ?_))
  cases hw : whl x with
  | false =>
    refine ⟨_, fun nn => r_call (t := litF) rfl rfl Tryz.func60 (fun W M E => f_whole' hw W), st mo ?_⟩
    show _ = _; rw [fxE, hw]; rfl
  | true =>
    refine ⟨_, fun nn => r_call (t := litT) rfl rfl Tryz.func60 (fun W M E => f_whole' hw W), st mo ?_⟩
    refine ⟨fun h2 => st mo ?_, fun h2 => st mo ⟨fun h10 => st mo ?_, fun h10 => st mo (st mo ?_)⟩⟩
    · show _ = _; rw [fxE, hw, decide_eq_true h2]; rfl
    · show _ = _; rw [fxE, hw, decide_eq_true h10, decide_eq_false h2]; rfl
    have hb := hL.1
    refine S.w_loop (fun i : Nat => ⟨⟨Tryz.f90.ntmps, [(19, raw (.slice x.p x.a.length x.cl)), (20, .int .i64 (x.a.length : Int)), (21, .int .i64 (i : Int))]⟩, [], 0, w⟩) (fun i => i ≤ x.a.length ∧ (x.a.take i).all isC = true) (fun i => x.a.length - i) 0 ⟨by omega, rfl⟩ [] ⟨rfl, ⟨fv, fv, fv, trivial⟩, trivial, xf, rfl, rfl⟩ ?_
    intro i hi
    refine st mo ⟨fun hlt => st mo ?_, fun hge => st mo (st mo ?_)⟩
    · have hil : i < x.a.length := by omega
      obtain ⟨y, hy⟩ : ∃ y, x.a[i]? = some y := ⟨_, List.getElem?_eq_getElem hil⟩
      obtain ⟨⟨b, o, h4, h5⟩, h8⟩ := hL.at hy
      refine ⟨b, o, i, h4, rfl, hil, st mo ⟨y.c, rfl, h5, st mo ?_⟩⟩
      cases hc : isC y with
      | false =>
        refine ⟨_, fun nn => r_call (t := litF) rfl rfl Tryz.func135 (fun W M E => f_const' hc W), st mo ?_⟩
        show _ = _; rw [fxE, all_stop hy hc, Bool.and_false]
      | true =>
        refine ⟨_, fun nn => r_call (t := litT) rfl rfl Tryz.func135 (fun W M E => f_const' hc W), st mo ⟨_, wz (i + 1) rfl, st mo ?_⟩⟩
        exact ⟨i + 1, ⟨hil, by rw [List.take_add_one, hy, List.all_append, hi.2]; simp [hc]⟩, by dsimp; omega, [], rfl, ⟨fv, fv, fv, trivial⟩, trivial, xf, rfl, rfl⟩
    · obtain rfl : i = x.a.length := by omega
      have ha := hi.2
      rw [List.take_length] at ha
      show _ = _; rw [fxE, hw, ha, decide_eq_false h2, decide_eq_false h10]; rfl
theorem f_choice' {d : Nat} {x : Ex} {b : Bool} (h : chE x = b) {w : World} (hL : LT w (d + 1) x) : Calls Tryz.prog 89 #[.agg x.c.toArray] w fun r W => r = .returned (.bool b) ∧ Mb w W := h ▸ f_choice x w hL
theorem f_fixed' {d : Nat} {x : Ex} {b : Bool} (h : fxE x = b) {w : World} (hL : LT w (d + 1) x) : Calls Tryz.prog 90 #[.agg x.c.toArray] w fun r W => r = .returned (.bool b) ∧ Mb w W := h ▸ f_fixed x w hL
namespace S
theorem fvd {σ : List Nat} {u v : Value} (hd : den2 u = den2 v := by rfl) (hu : pur2 u = true := by rfl) (hv : pur2 v = true := by rfl) : fitV σ u v := fun k w hw => by
  rw [pur2_eq hw hu, hd]; exact pur2_vx hv
/-- A region in the midst of which a call stands that comes to something in several ways: so many operations ahead of it. -/
theorem rxi {P : Program} {w0 : B0} {C : Exit → St → Prop} {ops op0 : Array Oper} {id r0 w1 : Nat} {l0 : List (Nat × Nat)} {f : FT} {h : HT} {n : Nat} {X : World} {stk : List It} (i : Nat)
    (hh : Rn P w0 (mid P w0 C ops (ops.toList.getD i default) (ops.toList.drop (i + 1)) stk) ⟨ops, ops.toList.take i, false, ⟨f, h, n, 0, 0, []⟩, X, []⟩) (ho : ops.toList = ops.toList.take i ++ ops.toList.getD i default :: ops.toList.drop (i + 1) := by rfl) (hg : (ops.toList.getD i default).guard = none := by rfl) : Rn P w0 C ⟨op0, [], false, ⟨f, h, n, r0, w1, l0⟩, X, co (.region id ops false) :: stk⟩ := rx _ _ _ ho hg hh
end S
/-- The reader as it is handed on; ahead of it a mark. -/
def hQ (e : Ev) (mk : Bool) (jk : List Value) : HT := (1 + 4096, none) :: hR e mk jk
abbrev FoC (e : Ev) (jk : List Value) (d : Nat) (x : Ex) (mk : Bool) : Prop := ∀ X, EvL X e → LT X d x → CtrX Tryz.prog X 58 [q0 0, xY x] (hQ e mk jk) 2 1 (fun y : Ex × Bool => xY y.1) (fun y => hQ e y.2 jk) 2 (FX e d x)
/-- Cells of a list of trees. -/
abbrev cX (l : List Ex) : List Value := l.flatMap Ex.c
theorem cX_len : ∀ l : List Ex, (cX l).length = l.length * 17
  | [] => rfl
  | y :: l => by rw [cX, List.flatMap_cons, List.length_append, List.length_cons, show (List.flatMap Ex.c l).length = l.length * 17 from cX_len l]; show 17 + _ = _; omega
theorem cX_at : ∀ (l : List Ex) (i : Nat) (y : Ex), l[i]? = some y → ∀ (j : Nat) (u : Value), y.c[j]? = some u → (cX l)[i * 17 + j]? = some u
  | [], _, _, h, _, _, _ => by cases h
  | z :: l, 0, y, h, j, u, hu => by
    simp at h; subst h
    rw [cX, List.flatMap_cons, Nat.zero_mul, Nat.zero_add, List.getElem?_append_left (List.getElem?_eq_some_iff.1 hu).1]; exact hu
  | z :: l, i + 1, y, h, j, u, hu => by
    rw [cX, List.flatMap_cons, List.getElem?_append_right (by show 17 ≤ _; omega)]
    rw [show (i + 1) * 17 + j - z.c.length = i * 17 + j by show (i + 1) * 17 + j - 17 = _; omega]
    exact cX_at l i y (by simpa using h) j u hu
theorem pur_cX (l : List Ex) : ((cX l).map rel1).all pur1 = true := by simp [pur_rel1]
theorem den_rel (l : List Value) : (l.map rel1).map den1 = l := by rw [List.map_map, show den1 ∘ rel1 = id from funext den_rel1, List.map_id]
/-- Where the folding of the arguments stands. -/
abbrev JA := Nat × Bool × List Ex × World
def jaF (x : Ex) (i : Nat) (a : Value) : FT := ⟨22, [(0, q0 0), (5, a), (8, raw (.slice x.p x.a.length x.cl)), (9, .int .i64 (x.a.length : Int)), (10, .int .i64 (i : Int))]⟩
def jaH (e : Ev) (jk : List Value) (mk : Bool) (ys : List Ex) : HT := (2 + 4096, none) :: (2, some ((cX ys).map rel1)) :: hQ e mk jk
def jaS (e : Ev) (jk : List Value) (x : Ex) (a : JA) : St := match a with
  | (0, mk, _, X) => ⟨jaF x 0 (.slice none 0 0), hQ e mk jk, 2, X⟩
  | (i + 1, mk, ys, X) => ⟨jaF x (i + 1) (.slice (some ⟨2, 0, none⟩) (i + 1) 17), jaH e jk mk ys, 3, X⟩
structure JaP (e : Ev) (d : Nat) (x : Ex) (X' : World) (a : JA) : Prop where
  le : a.1 ≤ x.a.length
  xf : Xf a.2.2.2 X'
  len : a.2.2.1.length = a.1
  ok : ∀ z ∈ a.2.2.1, LN (Ho X') a.2.2.2 d z ∧ XU d z
  m : a.2.2.1.map (ek d) = (x.a.take a.1).map (fdE e d)
theorem JaP.step {e : Ev} {d : Nat} {x y : Ex} {X' X2 : World} {a : JA} (h : JaP e d x X' a) (hy : x.a[a.1]? = some y) (hX : Xf X2 a.2.2.2) {z : Ex × Bool} (hz : FX e d y z (Ho a.2.2.2) X2) : JaP e d x X' (a.1 + 1, z.2, a.2.2.1 ++ [z.1], X2) := by
  refine ⟨(List.getElem?_eq_some_iff.1 hy).1, S.Xf.tr hX h.xf, by simp [h.len], fun w hw => ?_, ?_⟩
  · rcases List.mem_append.1 hw with hw | hw
    · exact ⟨(h.ok w hw).1.xf hX, (h.ok w hw).2⟩
    · simp at hw; subst hw
      exact ⟨hz.1.le fun b hb => hb.xf h.xf, hz.2.1⟩
  · show (a.2.2.1 ++ [z.1]).map (ek d) = _
    rw [List.map_append, h.m, List.take_add_one, hy, List.map_append]
    simp [hz.2.2]
set_option maxRecDepth 20000 in
theorem fold_args (e : Ev) (jk : List Value) (d : Nat) (x : Ex) (mk : Bool) (hlen : x.a.length ≤ 1000000000) (ih : ∀ y ∈ x.a, ∀ mk, FoC e jk d y mk) (X : World) (he : EvL X e) (hL : LT X (d + 1) x) :
    CtrX Tryz.prog X 88 [q0 0, raw (.slice x.p x.a.length x.cl)] (hQ e mk jk) 2 1 (fun y : YA => raw (.slice y.2.1 y.1.length y.2.2.1)) (fun y => hQ e y.2.2.2 jk) 2 (FA e d x) := by
  refine fn_x (loc_FA e d x) _ Tryz.func88 rfl rfl rfl rfl (fun w l X' hX => run_ok (st mo (st mo ?_)))
  refine S.w_loop (jaS e jk x) (JaP e d x X') (fun a => x.a.length - a.1) (0, mk, [], X') ⟨Nat.zero_le _, xf, rfl, fun z hz => (by cases hz), rfl⟩ [0, 1] ⟨rfl, ⟨fp, fv, fv, fv, fv, trivial⟩, ⟨trivial, mc_fit, trivial, cR_fit, trivial⟩, xf, rfl, rfl⟩ ?_
  rintro ⟨i, mk, ys, X1⟩ hp
  have hX1 : Xf X1 X := S.Xf.tr hp.xf hX
  have he1 := he.xf hX1
  have hL1 := hL.mono (xce hX1)
  rcases i with _ | i
  · refine st mo ⟨fun hlt => su 5 mo ?_, fun hge => st mo ?_⟩
    · have hil : 0 < x.a.length := by omega
      obtain ⟨y, hy⟩ : ∃ y, x.a[0]? = some y := ⟨_, List.getElem?_eq_getElem hil⟩
      obtain ⟨⟨b, o, h4, h5⟩, h8⟩ := hL1.at hy
      refine ⟨b, o, 0, h4, rfl, hil, su 5 mo ⟨y.c, rfl, h5, su 5 mo ?_⟩⟩
      refine rxi 3 (st mo ⟨Ex × Bool, _, _, _, r_cx (tc := fun z => xY z.1) (loc_FX e d y) [0, 1] (fun z => [some (rdC e (mcR 3 z.2)), some (cR e z.2 jk)]) [3] rfl rfl (ih y (List.mem_of_getElem? hy) mk X1 he1 h8) (fitL_cons fp (fitL_cons fv rfl)) ⟨trivial, mc_fit, trivial, cR_fit, trivial⟩ (fun z => uv) (fun z => ⟨mc_un, cR_un, trivial⟩) (fun z => rfl), fun z X2 hX2 hz => ?_⟩)
      refine ⟨(⟨22, [(14, .slice none 0 0), (17, xY z.1), (0, q0 0), (8, raw (.slice x.p x.a.length x.cl)), (9, .int .i64 (x.a.length : Int)), (10, .int .i64 (0 : Int))]⟩, hQ e z.2 jk, 2), [0, 3], ⟨rfl, ⟨fv, fv, fp, fv, fv, fv, trivial⟩, ⟨trivial, mc_fit, trivial, cR_fit, trivial⟩, xf, rfl, rfl⟩, rfl, st mo ?_⟩
      refine ⟨1, z.1.c.map rel1, _, put_own rfl rfl rfl rfl rfl, by omega, by omega, st mo ⟨_, wz 1 rfl, st mo ?_⟩⟩
      refine ⟨(1, z.2, ys ++ [z.1], X2), hp.step hy hX2 hz, by dsimp; omega, [0, 1, 3], rfl, ⟨fp, fs, fv, fv, fv, trivial⟩, ⟨trivial, ?_, trivial, mc_fit, trivial, cR_fit, trivial⟩, xf, rfl, rfl⟩
      have hys : ys = [] := List.eq_nil_of_length_eq_zero hp.len
      rw [hys]; exact flr (by simp)
    · have h0 : x.a = [] := List.eq_nil_of_length_eq_zero (by omega)
      refine st mo ?_
      exact ⟨hp.xf, ([], none, 0, mk), [0, 1], ⟨fun i z hz => (by cases hz), by simp [h0]⟩, fvd, ⟨trivial, mc_fit, trivial, cR_fit, trivial⟩, rfl, rfl⟩
  · have hln := hp.len
    have hle := hp.le
    refine st mo ⟨fun hlt => su 5 mo ?_, fun hge => st mo ?_⟩
    · have hil : i + 1 < x.a.length := by omega
      obtain ⟨y, hy⟩ : ∃ y, x.a[i + 1]? = some y := ⟨_, List.getElem?_eq_getElem hil⟩
      obtain ⟨⟨b, o, h4, h5⟩, h8⟩ := hL1.at hy
      refine ⟨b, o, i + 1, h4, rfl, hil, su 5 mo ⟨y.c, rfl, h5, su 5 mo ?_⟩⟩
      refine rxi 3 (st mo ⟨Ex × Bool, _, _, _, r_cx (tc := fun z => xY z.1) (loc_FX e d y) [0, 1] (fun z => [some (rdC e (mcR 4 z.2)), some (cR e z.2 jk)]) [4] rfl rfl (ih y (List.mem_of_getElem? hy) mk X1 he1 h8) (fitL_cons fp (fitL_cons fv rfl)) ⟨trivial, mc_fit, trivial, cR_fit, trivial⟩ (fun z => uv) (fun z => ⟨mc_un, cR_un, trivial⟩) (fun z => rfl), fun z X2 hX2 hz => ?_⟩)
      refine ⟨(⟨22, [(14, .slice (some ⟨2, 0, none⟩) (i + 1) 17), (17, xY z.1), (0, q0 0), (8, raw (.slice x.p x.a.length x.cl)), (9, .int .i64 (x.a.length : Int)), (10, .int .i64 ((i + 1 : Nat) : Int))]⟩, jaH e jk z.2 ys, 3), [0, 4, 2], ⟨rfl, ⟨fs, fv, fp, fv, fv, fv, trivial⟩, ⟨trivial, flr rfl, trivial, mc_fit, trivial, cR_fit, trivial⟩, xf, rfl, rfl⟩, rfl, st mo ?_⟩
      refine ⟨((List.length_map _).trans (cX_len ys)).trans (by rw [show ys.length = i + 1 from hln]; rfl), 1, z.1.c.map rel1, _, put_own rfl rfl rfl rfl rfl, by omega, _, rfl, st mo ⟨_, wz (i + 2) rfl, st mo ?_⟩⟩
      exact ⟨(i + 1 + 1, z.2, ys ++ [z.1], X2), hp.step hy hX2 hz, by dsimp; omega, [0, 1, 4], rfl, ⟨fp, fs, fv, fv, fv, trivial⟩, ⟨trivial, flr (by simp), trivial, mc_fit, trivial, cR_fit, trivial⟩, xf, rfl, rfl⟩
    · have hie : i + 1 = x.a.length := by omega
      refine told_f 5 2 (i + 1) 17 ((cX ys).map rel1) [0, 1] (fun b cap => (⟨22, [(5, raw (.slice (some ⟨b, 0, none⟩) (i + 1) cap))]⟩, hQ e mk jk, 2)) rfl rfl rfl (pur_cX ys) rfl (fun b cap => ⟨rfl, ⟨fv, trivial⟩, ⟨trivial, mc_fit, trivial, cR_fit, trivial⟩, xf, rfl, rfl⟩) (fun b cap X2 hcap hX2 hb hl => st mo ?_)
      rw [den_rel] at hl
      refine ⟨S.Xf.tr hX2 hp.xf, (ys, some ⟨b, 0, none⟩, cap, mk), [0, 1], ⟨fun j z hz => ⟨⟨b, 0, hb.xf hp.xf, rfl, fun q u hu => ?_⟩, (hp.ok z (List.mem_of_getElem? hz)).1.xf hX2, (hp.ok z (List.mem_of_getElem? hz)).2⟩, ?_⟩, ?_, ⟨trivial, mc_fit, trivial, cR_fit, trivial⟩, rfl, rfl⟩
      · have := hl _ u (cX_at ys j z hz q u hu)
        rw [Nat.zero_add] at this ⊢; exact this
      · rw [hp.m]; show ((x.a.take (i + 1)).map (fdE e d)) = _; rw [hie, List.take_length]
      · exact fv (by show raw (.slice (some ⟨b, 0, none⟩) (i + 1) cap) = raw (.slice (some ⟨b, 0, none⟩) ys.length cap); rw [hln])
theorem ch_three {x : Ex} {y : YA} (h : chE (bX x y) = true) : ∃ c q r, y.1 = [c, q, r] := by
  unfold chE at h
  simp only [Bool.and_eq_true] at h
  have h6 : x.k = 6 := of_decide_eq_true h.1.1
  have h := of_decide_eq_true h.1.2
  unfold whN bX at h
  dsimp only at h
  rw [if_neg (by omega), if_neg (by omega), if_neg (by omega), if_pos h6] at h
  injection h with h
  match hy : y.1, h with
  | [c, q, r], _ => exact ⟨c, q, r, rfl⟩
set_option maxRecDepth 20000 in
theorem fold_node (e : Ev) (jk : List Value) (d : Nat) (x : Ex) (mk : Bool) (hlen : x.a.length ≤ 1000000000) (hx : x.u4) (ih : ∀ y ∈ x.a, ∀ mk, FoC e jk d y mk) : FoC e jk (d + 1) x mk := fun X he hL => by
  refine fn_x (loc_FX e (d + 1) x) _ Tryz.func58 rfl rfl rfl rfl (fun w l X' hX => run_ok (su 1 mo ?_))
  refine rxi 3 (st mo ⟨YA, _, _, _, r_cx (tc := fun y => raw (.slice y.2.1 y.1.length y.2.2.1)) (loc_FA e d x) [0, 1] (fun y => [some (rdC e (mcR 4 y.2.2.2)), some (cR e y.2.2.2 jk)]) [4] rfl rfl (fold_args e jk d x mk hlen ih X' (he.xf hX) (hL.mono (xce hX))) (fitL_cons fp (fitL_cons fv rfl)) ⟨trivial, mc_fit, trivial, cR_fit, trivial⟩ (fun _ => uv) (fun _ => ⟨mc_un, cR_un, trivial⟩) (fun _ => rfl), fun y X2 hX2 hy => ?_⟩)
  obtain ⟨ys, p, cl, mk⟩ := y
  have he2 := (he.xf hX).xf hX2
  have hl2 := hy.len
  have hN := hy.ln hlen
  refine ⟨(⟨35, [(0, q0 0), (3, q0 2), (4, q0 3), (8, raw (.slice p ys.length cl))]⟩, (2, some (x.c.map rel1)) :: (3, some ([.int .i64 0, .int .i64 0, .string ⟨#[]⟩, .string ⟨#[]⟩, .int .i64 0, .bool false, .int .u64 0, .int .u64 0, .int .u64 0, .int .u64 0, .int .i64 0, .bool false, .string ⟨#[]⟩, .int .i64 0, .int .i64 0, .int .i64 0, .slice none 0 0] : List Value)) :: hQ e mk jk, 4), [0, 4, 2, 3], ⟨rfl, ⟨fp, fp, fp, fv, trivial⟩, ⟨fl rfl rfl, fl rfl rfl, trivial, mc_fit, trivial, cR_fit, trivial⟩, xf, rfl, rfl⟩, rfl, st mo ?_⟩
  have hT := hN.lt
  cases hch : chE (bX x (ys, p, cl, mk)) with
  | true =>
    refine ⟨_, fun nn => r_call (t := litT) rfl rfl Tryz.func89 (fun W M E => f_choice' hch (hT.mono E)), st mo ?_⟩
    obtain ⟨c, q, r, rfl⟩ := ch_three hch
    obtain ⟨⟨b, o, _, h4, h5⟩, _⟩ := hN.2 0 c rfl
    obtain ⟨⟨b1, o1, _, g4, g5⟩, _⟩ := hN.2 1 q rfl
    obtain ⟨⟨b2, o2, _, k4, k5⟩, _⟩ := hN.2 2 r rfl
    have hpk := hy.pick hch rfl mk
    refine ⟨b, o, 0, h4, rfl, by simp, st mo ⟨.bool c.fl, h5 11 _ rfl, st mo ⟨fun hf => st mo ?_, fun hf => st mo ?_⟩⟩⟩
    · rw [hf, if_pos rfl] at hpk
      refine ⟨b1, o1, 1, g4, rfl, by simp, st mo ⟨q.c, rfl, g5, st mo ?_⟩⟩
      exact ⟨hX2, (q, mk), [0, 1], hpk, fv, ⟨trivial, mc_fit, trivial, cR_fit, trivial⟩, rfl, rfl⟩
    · rw [hf, if_neg (by decide)] at hpk
      refine ⟨b2, o2, 2, k4, rfl, by simp, st mo ⟨r.c, rfl, k5, st mo ?_⟩⟩
      exact ⟨hX2, (r, mk), [0, 1], hpk, fv, ⟨trivial, mc_fit, trivial, cR_fit, trivial⟩, rfl, rfl⟩
  | false =>
    refine ⟨_, fun nn => r_call (t := litF) rfl rfl Tryz.func89 (fun W M E => f_choice' hch (hT.mono E)), st mo ?_⟩
    cases hfx : fxE (bX x (ys, p, cl, mk)) with
    | true =>
      refine ⟨_, fun nn => r_call (t := litT) rfl rfl Tryz.func90 (fun W M E => f_fixed' hfx (hT.mono E)), st mo ?_⟩
      obtain ⟨mk', hev⟩ := f_eval e jk (d + 1) (bX x (ys, p, cl, mk)) mk (hy.xu hx)
      refine ⟨_, fun nn => r_c (tc := (evE e (d + 1) (bX x (ys, p, cl, mk))).y) [0, 1] [some (rdC e (mcR 4 mk')), some (cR e mk' jk)] [4] rfl rfl (hev X2 he2 hT) (fitL_cons fp (fitL_cons fv rfl)) ⟨mc_fit, trivial, cR_fit, trivial⟩ uv ⟨mc_un, cR_un, trivial⟩, st mo ?_⟩
      exact ⟨hX2, (cstX (evE e (d + 1) (bX x (ys, p, cl, mk))), mk'), [0, 4], hy.cst hch hfx mk', fvd, ⟨trivial, mc_fit, trivial, cR_fit, trivial⟩, rfl, rfl⟩
    | false =>
      refine ⟨_, fun nn => r_call (t := litF) rfl rfl Tryz.func90 (fun W M E => f_fixed' hfx (hT.mono E)), st mo ?_⟩
      exact ⟨hX2, (bX x (ys, p, cl, mk), mk), [0, 1], hy.it hlen hx hch hfx mk, fv, ⟨trivial, mc_fit, trivial, cR_fit, trivial⟩, rfl, rfl⟩
theorem S.CtrX.to {Y : Type} {P : Program} {X : World} {f : FuncId} {vs : List Value} {h : HT} {n m : Nat} {t : Y → Value} {h' : Y → HT} {n' : Nat} {F G : Y → (Nat → Prop) → World → Prop} (hc : CtrX P X f vs h n m t h' n' F) (hFG : ∀ y S W, F y S W → G y S W) : CtrX P X f vs h n m t h' n' G := fun W k us a b c => (hc W k us a b c).mono fun _ _ ⟨y, u, k2, h1, h2, h3, h4⟩ => ⟨y, u, k2, h1, h2, h3, fun X2 g => hFG _ _ _ (h4 X2 g)⟩
theorem fold_t (e : Ev) (jk : List Value) : ∀ (d : Nat) (x : Ex) (mk : Bool), XU d x → nds d x ≤ 1000000000 → FoC e jk d x mk
  | 0, x, mk, hu, _ => fun X he hL => by
    have hx : x.a = [] := hL
    exact (fold_node e jk 0 x mk (by rw [hx]; decide) hu (fun y hy => by rw [hx] at hy; cases hy) X he hL.up).to fun y S W g => g.low hx
  | d + 1, x, mk, hu, hb => fold_node e jk d x mk (nds_kid hb).1 hu.1 fun y hy mk => fold_t e jk d y mk (hu.2 y hy) ((nds_kid hb).2 y hy)
/-- An environment of tables alone. -/
abbrev tbV (tp : Option Addr) (cp : Nat) (tb : List Tb) : Ev := ⟨none, none, tp, cp, [], [], tb⟩
theorem EvL.tabs {X : World} {e : Ev} (h : EvL X e) : EvL X (tbV e.tp e.cp e.tb) := ⟨Or.inl ⟨rfl, rfl⟩, Or.inl ⟨rfl, rfl⟩, fun p hp => (by cases hp), fun p hp => (by cases hp), h.sl, h.tl, h.ln⟩
/-- A tree in new memory that is what this one folds to. -/
def FY (e : Ev) (d : Nat) (x : Ex) (y : Ex) (S : Nat → Prop) (W : World) : Prop := LN S W d y ∧ XU d y ∧ ek d y = fdE e d x
theorem loc_FY (e : Ev) (d : Nat) (x : Ex) : Lcl (FY e d x) := ⟨fun _ _ _ _ h g => ⟨g.1.le h, g.2⟩, fun _ _ _ _ h g => ⟨g.1.lo h, g.2⟩⟩
def zX : List Value := [.int .i64 0, .int .i64 0, .string ⟨#[]⟩, .string ⟨#[]⟩, .int .i64 0, .bool false, .int .u64 0, .int .u64 0, .int .u64 0, .int .u64 0, .int .i64 0, .bool false, .string ⟨#[]⟩, .int .i64 0, .int .i64 0, .int .i64 0, .slice none 0 0]
set_option maxRecDepth 20000 in
theorem p_fold {d : Nat} {x : Ex} {tp : Option Addr} {cp : Nat} {tb : List Tb} (hu : XU d x) (hb : nds d x ≤ 1000000000) (X : World) (hL : LT X d x) (he : EvL X (tbV tp cp tb)) :
    CtrX Tryz.prog X 25 [xY x, raw (.slice tp tb.length cp)] [] 0 0 (fun y => xY y) (fun _ => []) 0 (FY (tbV tp cp tb) d x) := by
  refine fn_x (loc_FY _ d x) _ Tryz.func25 rfl rfl rfl rfl (fun w l X' hX => run_ok (su 2 mo ?_))
  refine rxi 1 (st mo ⟨Ex × Bool, _, _, _, r_cx (tc := fun z => xY z.1) (loc_FX _ d x) [2, 0] (fun z => [some (rdC (tbV tp cp tb) (mcR 3 z.2)), some (cR (tbV tp cp tb) z.2 x.c)]) [3] rfl rfl (fold_t _ x.c d x false hu hb X' (he.xf hX) (hL.mono (xce hX))) (fitL_cons fp (fitL_cons fv rfl)) ⟨trivial, fitL_cons fvd (fitL_cons fvd (fitL_cons fv (fitL_cons fv rfl))), trivial, flr rfl, trivial⟩ (fun z => uv) (fun z => ⟨mc_un, cR_un, trivial⟩) (fun z => rfl), fun z X2 hX2 hz => ?_⟩)
  refine ⟨(⟨11, [(4, q0 0), (10, xY z.1)]⟩, [(0, some zX)], 1), [1], ⟨rfl, ⟨fp, fv, trivial⟩, ⟨fl rfl rfl, trivial⟩, xf, rfl, rfl⟩, rfl, st mo ?_⟩
  exact ⟨hX2, z.1, [], hz, fv, trivial, rfl, rfl⟩
theorem Dp.at {d : Nat} {x y : Ex} {i : Nat} (h : Dp (d + 1) x) (hy : x.a[i]? = some y) : Dp d y := h y (List.mem_of_getElem? hy)
theorem ch_nil {x : Ex} (h : x.a = []) : chE x = false := by
  unfold chE; rw [h]; exact Bool.and_false _
theorem pk_mem {x : Ex} (h : chE x = true) : ∃ c p q, x.a = [c, p, q] ∧ pkE x = (if c.fl then p else q) ∧ isC c = true ∧ c.vk = 2 := by
  unfold chE at h
  simp only [Bool.and_eq_true] at h
  obtain ⟨⟨h6, hw⟩, hf⟩ := h
  have h6 := of_decide_eq_true h6
  have hw := of_decide_eq_true hw
  unfold whN at hw
  rw [if_neg (by omega), if_neg (by omega), if_neg (by omega), if_pos h6] at hw
  injection hw with hw
  match ha : x.a, hw with
  | [c, p, q], _ =>
    rw [ha] at hf
    simp only [fsC, Bool.and_eq_true] at hf
    exact ⟨c, p, q, rfl, by unfold pkE; rw [ha], hf.1, of_decide_eq_true hf.2⟩
/-- What is no constant yet is none. -/
theorem it_c {b : Ex} (hf : fxE b = false) : isC b = false := by
  cases h : isC b with
  | false => rfl
  | true =>
    unfold isC at h
    simp only [Bool.and_eq_true] at h
    have hk := of_decide_eq_true h.1
    have ha : b.a = [] := by simpa using h.2
    unfold fxE whl whN at hf
    rw [ha, hk] at hf
    exact absurd hf (by decide)
theorem fd_dx (e : Ev) {X : World} (he : EvL X e) : ∀ {d : Nat} {x : Ex}, Dp d x → XU d x → Dp d (fdE e d x) ∧ XU d (fdE e d x) ∧ (isC (fdE e d x) = true → ∃ v, v.fit ∧ fdE e d x = cstX v)
  | 0, x, hd, hu => by
    have ha : (kd (fun y => y) x).a = [] := by unfold kd; simp [show x.a = [] from hd]
    have hB : XU 0 (kd (fun y => y) x) := hu
    show Dp 0 (fnE e 0 (kd (fun y => y) x)) ∧ XU 0 (fnE e 0 (kd (fun y => y) x)) ∧ (isC (fnE e 0 (kd (fun y => y) x)) = true → ∃ v, v.fit ∧ fnE e 0 (kd (fun y => y) x) = cstX v)
    unfold fnE
    rw [ch_nil ha]
    cases hf : fxE (kd (fun y => y) x) with
    | true => exact ⟨rfl, cst_xu _ _, fun _ => ⟨_, fit_ev he hB, rfl⟩⟩
    | false => exact ⟨ha, hB, fun hc => by rw [if_neg (by decide), if_neg (by decide), it_c hf] at hc; cases hc⟩
  | d + 1, x, hd, hu => by
    have kids : ∀ y ∈ (kd (fdE e d) x).a, Dp d y ∧ XU d y ∧ (isC y = true → ∃ v, v.fit ∧ y = cstX v) := fun y hy => by
      have hy : y ∈ x.a.map (fdE e d) := hy
      obtain ⟨z, hz, rfl⟩ := List.mem_map.1 hy
      exact fd_dx e he (hd z hz) (hu.2 z hz)
    have hB : XU (d + 1) (kd (fdE e d) x) := ⟨hu.1, fun y hy => (kids y hy).2.1⟩
    have hDB : Dp (d + 1) (kd (fdE e d) x) := fun y hy => (kids y hy).1
    show Dp (d + 1) (fnE e (d + 1) (kd (fdE e d) x)) ∧ XU (d + 1) (fnE e (d + 1) (kd (fdE e d) x)) ∧ (isC (fnE e (d + 1) (kd (fdE e d) x)) = true → ∃ v, v.fit ∧ fnE e (d + 1) (kd (fdE e d) x) = cstX v)
    unfold fnE
    cases hc : chE (kd (fdE e d) x) with
    | true =>
      obtain ⟨c, p, q, ha, hp, _, _⟩ := pk_mem hc
      simp only [if_true]
      rw [hp]
      have key : ∀ y ∈ (kd (fdE e d) x).a, Dp (d + 1) y ∧ XU (d + 1) y ∧ (isC y = true → ∃ v, v.fit ∧ y = cstX v) := fun y hy => ⟨(kids y hy).1.up, XU.up (kids y hy).1 (kids y hy).2.1, (kids y hy).2.2⟩
      cases c.fl with
      | true => exact key p (by rw [ha]; simp)
      | false => exact key q (by rw [ha]; simp)
    | false =>
      cases hf : fxE (kd (fdE e d) x) with
      | true => exact ⟨fun y hy => (by cases hy), cst_xu _ _, fun _ => ⟨_, fit_ev he hB, rfl⟩⟩
      | false => exact ⟨hDB, hB, fun hc => by rw [if_neg (by decide), if_neg (by decide), it_c hf] at hc; cases hc⟩
theorem cst_val {v : VL} (h : v.ok) : (cstX v).val = v := by
  unfold Ex.val cstX; dsimp only; rw [vl_lb v.n h.1 h.2]
theorem may_fit {v : VL} (h : v.fit) : mayV v = v := by unfold mayV; rw [h.2]; rfl
/-- A constant comes to its value. -/
theorem cst_ev (e : Ev) {v : VL} (h : v.fit) : ∀ d, evE e d (cstX v) = v := by
  have key : ∀ a, nodE e (cstX v) a = v := fun a => by
    unfold nodE
    rw [if_pos (show (cstX v).k = 1 from rfl), cst_val h.1, may_fit h]
  intro d; cases d with
  | zero => exact key fun _ => vBl
  | succ d => exact key fun j => (((cstX v).a[j]?).map (evE e d)).getD vBl
theorem ask_fl {v : VL} (h : v.fit) (hk : v.k = 2) : askK 2 v = 0 := by
  unfold askK ask; rw [h.2, hk]; rfl
theorem ev_three (e : Ev) {d : Nat} {x c p q : Ex} (ha : x.a = [c, p, q]) (h6 : x.k = 6) : evE e (d + 1) x = ifV (evE e d c) (evE e d p) (evE e d q) := by
  have hw : whl x = true := by unfold whl whN; rw [ha, h6]; rfl
  rw [evE, hw, if_pos rfl, ha]
  unfold nodE
  rw [if_neg (by omega), if_neg (by omega), if_neg (by omega), if_neg (by omega), if_neg (by omega), if_pos h6]
  rfl
theorem ch_k {x : Ex} (h : chE x = true) : x.k = 6 := by
  unfold chE at h; simp only [Bool.and_eq_true] at h; exact of_decide_eq_true h.1.1
def pN (A B c e : Nat) : Nat := A % 2 ^ e + B % 2 ^ e + c
def caN (A B c e : Nat) : Nat := pN A B c e / 2 ^ e
def k1 (a0 b0 : Nat) : Nat := caN a0 b0 0 64
def k2 (a0 a1 b0 b1 : Nat) : Nat := caN a1 b1 (k1 a0 b0) 64
def k3 (a0 a1 a2 b0 b1 b2 : Nat) : Nat := caN a2 b2 (k2 a0 a1 b0 b1) 64
def k4 (a0 a1 a2 a3 b0 b1 b2 b3 : Nat) : Nat := caN a3 b3 (k3 a0 a1 a2 b0 b1 b2) 64
theorem EvL.tm {X W : World} {tp : Option Addr} {cp : Nat} {tb : List Tb} (h : EvL X (tbV tp cp tb)) (E : ∀ a u, X.cell? a = some u → W.cell? a = some u) : EvL W (tbV tp cp tb) :=
  ⟨Or.inl ⟨rfl, rfl⟩, Or.inl ⟨rfl, rfl⟩, fun p hp => (by cases hp), fun p hp => (by cases hp), fun i t ht => by obtain ⟨b, o, h1, h2⟩ := h.sl i t ht; exact ⟨b, o, h1, fun j u hj => E _ _ (h2 j u hj)⟩, fun t ht => (h.tl t ht).mono E, h.ln⟩
/-- A flag that is known by cases. -/
abbrev lt (b : Bool) : Value := match b with
  | true => litT
  | false => litF
theorem FX.fy {e : Ev} {d : Nat} {x : Ex} {y : Ex × Bool} {S : Nat → Prop} {W : World} (h : FX e d x y S W) : FY e d x y.1 S W := h
theorem kd_inv {f g : Ex → Ex} {x y : Ex} (h : kd f x = kd g y) : (∃ p cl a, y = { x with p := p, cl := cl, a := a }) ∧ x.a.map f = y.a.map g := by
  obtain ⟨k, op, nm, sc, vk, ng, l0, l1, l2, l3, vs, fl, tx, er, s, pl, p, cl, a⟩ := x
  obtain ⟨k', op', nm', sc', vk', ng', l0', l1', l2', l3', vs', fl', tx', er', s', pl', p', cl', a'⟩ := y
  unfold kd at h
  simp only [Ex.mk.injEq] at h
  obtain ⟨rfl, rfl, rfl, rfl, rfl, rfl, rfl, rfl, rfl, rfl, rfl, rfl, rfl, rfl, rfl, rfl, _, _, ha⟩ := h
  exact ⟨⟨p', cl', a', rfl⟩, ha⟩
theorem svv_n (p : VL) : (!svv p p) = false := by rw [svv_self]; rfl
set_option maxRecDepth 20000 in
theorem same_1 {d : Nat} (x : Ex) (hx : x.u4) (p : Option Addr) (cl : Nat) (a : List Ex) (hla : a.length = x.a.length) (w : World) (hL : LT w (d + 1) x) (hM : LT w (d + 1) { x with p := p, cl := cl, a := a })
    (ih : ∀ (i : Nat) (u v : Ex), x.a[i]? = some u → a[i]? = some v → ∀ W, LT W d u → LT W d v → Calls Tryz.prog 24 #[.agg u.c.toArray, .agg v.c.toArray] W fun r W' => r = .returned (.bool true) ∧ Mb W W') :
    Calls Tryz.prog 24 #[.agg x.c.toArray, .agg ({ x with p := p, cl := cl, a := a } : Ex).c.toArray] w fun r W => r = .returned (.bool true) ∧ Mb w W := by
  refine fn_pure [.agg (x.c.map rel1).toArray, .agg ((({ x with p := p, cl := cl, a := a } : Ex).c).map rel1).toArray] Tryz.func24 rfl rfl rfl (run_ok (st mo ?_))
  have hv : x.val.v = .agg #[.int .i64 x.vk, .bool x.ng, .int .u64 x.l0, .int .u64 x.l1, .int .u64 x.l2, .int .u64 x.l3, .int .i64 x.vs, .bool x.fl, .string x.tx, .int .i64 x.er] := by rw [VL.v, hx.cells]
  refine ⟨fun h => absurd rfl h, fun _ => st mo ⟨fun h => absurd rfl h, fun _ => st mo ⟨fun h => absurd rfl h, fun _ => st mo ⟨fun h => absurd rfl h, fun _ => st mo ?_⟩⟩⟩⟩
  refine ⟨_, r_neV x.val x.val (hy := by rw [hv]; rfl) (hz := by rw [hv]; rfl), fun h => absurd (h.symm.trans (svv_n _)) (by decide), fun _ => st mo ?_⟩
  refine ⟨fun h => absurd rfl h, fun _ => st mo ⟨fun h => absurd rfl h, fun _ => st mo (st mo (st mo ⟨fun h => absurd (by show (x.a.length : Int) = (a.length : Int); rw [hla]) h, fun _ => st mo ?_⟩))⟩⟩
  refine S.w_loop (fun i : Nat => ⟨⟨Tryz.f24.ntmps, [(2, q0 0), (3, q0 1), (5, .int .i64 (i : Int))]⟩, [(0, some (x.c.map rel1)), (1, some ((({ x with p := p, cl := cl, a := a } : Ex).c).map rel1))], 2, w⟩) (fun i => i ≤ x.a.length) (fun i => x.a.length - i) 0 (Nat.zero_le _) [0, 1] ⟨rfl, ⟨fp, fp, fv, trivial⟩, ⟨fl rfl rfl, fl rfl rfl, trivial⟩, xf, rfl, rfl⟩ ?_
  intro i hi
  refine st mo (st mo ⟨fun hlt => st mo ?_, fun hge => st mo (st mo ?_)⟩)
  · have hil : i < x.a.length := by omega
    obtain ⟨u, hu⟩ : ∃ u, x.a[i]? = some u := ⟨_, List.getElem?_eq_getElem hil⟩
    obtain ⟨v, hv'⟩ : ∃ v, a[i]? = some v := ⟨_, List.getElem?_eq_getElem (by omega)⟩
    obtain ⟨⟨b, o, h4, h5⟩, h8⟩ := hL.at hu
    obtain ⟨⟨b1, o1, g4, g5⟩, g8⟩ := hM.at hv'
    have hln := hL.1
    refine ⟨b, o, i, h4, rfl, hil, st mo ⟨u.c, rfl, h5, st mo ⟨b1, o1, i, g4, rfl, by omega, st mo ⟨v.c, rfl, g5, st mo ?_⟩⟩⟩⟩
    refine ⟨_, fun nn => r_call (t := litT) rfl rfl Tryz.func24 (fun W M E => ih i u v hu hv' W (h8.mono E) (g8.mono E)), st mo ⟨dk, st mo ⟨_, wz (i + 1) rfl, st mo ?_⟩⟩⟩
    exact ⟨i + 1, hil, by dsimp; omega, [0, 1], rfl, ⟨fp, fp, fv, trivial⟩, ⟨fl rfl rfl, fl rfl rfl, trivial⟩, xf, rfl, rfl⟩
  · rfl
theorem same_t : ∀ (d : Nat) (x y : Ex) (w : World), XU d x → LT w d x → LT w d y → ek d x = ek d y → Calls Tryz.prog 24 #[.agg x.c.toArray, .agg y.c.toArray] w fun r W => r = .returned (.bool true) ∧ Mb w W
  | 0, x, y, w, hu, hL, hM, h => by
    obtain ⟨⟨p, cl, a, rfl⟩, ha⟩ := kd_inv h
    have hx : x.a = [] := hL
    have ha0 : a = [] := hM
    exact same_1 (d := 0) x hu p cl a (by rw [hx, ha0]) w hL.up hM.up (fun i u v hu _ => by rw [hx] at hu; cases hu)
  | d + 1, x, y, w, hu, hL, hM, h => by
    obtain ⟨⟨p, cl, a, rfl⟩, ha⟩ := kd_inv h
    have ha : x.a.map (ek d) = a.map (ek d) := ha
    refine same_1 x hu.1 p cl a (by have := congrArg List.length ha; simpa using this.symm) w hL hM (fun i u v hu' hv' W l1 l2 => same_t d u v W (hu.2 u (List.mem_of_getElem? hu')) l1 l2 ?_)
    have h1 : (x.a.map (ek d))[i]? = some (ek d u) := by rw [List.getElem?_map, hu']; rfl
    rw [ha, List.getElem?_map, hv'] at h1
    exact (Option.some.inj h1).symm
end Go.Proofs.YtfmfeipeeedfpaaGreat
namespace Go.Proofs.YtfmfeipeeedfpaaGreat
namespace S
open Go.RowKit (Below)
theorem Mb.tr {a b c : World} (h : Mb a b) (g : Mb b c) : Mb a c := ⟨h.toBelow.trans ⟨g.os, g.tape, g.output, g.size, fun i hi => g.block i (Nat.lt_of_lt_of_le hi h.size)⟩, Nat.le_trans h.dr g.dr⟩
section
variable {P : Program} {w0 : B0} {X : World} {f : FT} {h : HT} {n : Nat} {ops : Array Oper}
theorem Am.mb {k : K} {W W' : World} (g : Am w0 X k W) (m : Mb W W') : Am w0 X k W' :=
  ⟨g.old.trans ⟨m.os, m.tape, m.output, m.size, fun i hi => m.block i (Nat.lt_of_lt_of_le hi g.old.size)⟩, g.own, fun b o h1 h2 => by
    have h3 := g.see b o h1 h2
    rw [m.block b (Array.getElem?_eq_some_iff.1 h3).1]; exact h3, g.out, Nat.le_trans g.sz m.size, g.kp, Nat.le_trans g.dr m.dr⟩
/-- What is known at any moment. -/
structure Qn (w0 : B0) (X : World) (f : FT) (h : HT) (n : Nat) (ops : Array Oper) (k : K) (W : World) (a : Act) : Prop where
  am : Am w0 X k W
  hr : HR k h W (ones n)
  nn : ∀ i, n ≤ i → hget h i = none
  nk : ∀ i, n ≤ i → k i = none
  fr : ∀ t, (∀ (j : Nat) o, ops[j]? = some o → o.dst ≠ some t) → VX k (fget f t) (a.tmps.getD t undef)
/-- What is known of the operations that one waits for. -/
def Qd (ops : Array Oper) (p : Nat → K → World → Value → Prop) (o : Oper) (k : K) (W : World) (a : Act) : Prop := ∀ e ∈ o.after, Region.binds .any e = true → ∀ oj t, ops[e.on]? = some oj → oj.dst = some t → p e.on k W (a.tmps.getD t undef)
def Qs (P : Program) (w0 : B0) (X : World) (f : FT) (h : HT) (n : Nat) (ops : Array Oper) (p : Nat → K → World → Value → Prop) (i : Nat) : Prop := ∀ o, ops[i]? = some o → ∀ (k : K) (W : World) (a : Act) (K' : Act → World → Prop) (Q : Exit → Act → World → Prop), Qn w0 X f h n ops k W a → Qd ops p o k W a →
  (∀ u W', Mb W W' → p i k W' u → K' (a.put o.dst u) W') → if Region.wanted o (yielded ops a.tmps) = true then o.wp P a W K' Q else K' (a.put o.dst undef) W
def dOf (ops : Array Oper) (o : Oper) (j t : Nat) : Bool := o.after.toList.any (fun e => Nat.beq e.on j && Region.binds .any e) && (match ops[j]? with
  | some oj => match oj.dst with
    | some t' => Nat.beq t' t
    | none => false
  | none => false)
theorem Qd.at {p : Nat → K → World → Value → Prop} {o : Oper} {k : K} {W : World} {a : Act} (q : Qd ops p o k W a) (j t : Nat) (hd : dOf ops o j t = true := by rfl) : p j k W (a.tmps.getD t undef) := by
  unfold dOf at hd
  rw [Bool.and_eq_true] at hd
  obtain ⟨h1, h2⟩ := hd
  obtain ⟨e, he, h3⟩ := List.any_eq_true.1 h1
  rw [Bool.and_eq_true, Nat.beq_eq] at h3
  obtain ⟨rfl, hb⟩ := h3
  split at h2
  · rename_i oj hoj
    split at h2
    · rename_i t' ht'
      rw [Nat.beq_eq] at h2
      subst h2
      exact q e (by simpa using he) hb oj t' hoj ht'
    · cases h2
  · cases h2
theorem Qs.sym {p : Nat → K → World → Value → Prop} {i : Nat} (o : Oper) (fr : FT) (v : Value) (r : Nat) (ho : ops[i]? = some o) (hw : ∀ k W a, Qn w0 X f h n ops k W a → Qd ops p o k W a → Region.wanted o (yielded ops a.tmps) = true)
    (hfr : ∀ k W a, Qn w0 X f h n ops k W a → Qd ops p o k W a → ∀ y ∈ o.op.operands.toList, VX k (evo fr y) (a.eval y)) (hOa : (∀ i, n ≤ i → hget h i = none) → Oa (Am w0 X) P o fr h n ⟨v, h, n, r, 0⟩) (hp : ∀ k W u, VX k v u → p i k W u) : Qs P w0 X f h n ops p i := by
  intro o' ho' k W a K' Q qn qd hK
  rw [ho] at ho'; cases ho'
  rw [if_pos (hw k W a qn qd)]
  refine (hOa qn.nn).ok k W a K' Q qn.am (hfr k W a qn qd) (qn.hr.all qn.nn _) (fun i h1 h2 => absurd h2 (Nat.not_lt_of_le h1)) fun u W' k' sd hv => ?_
  have hk : k' = k := funext fun i => sd.dom i (Nat.lt_or_ge i n)
  subst hk
  exact hK u W' ⟨⟨sd.os, sd.tape.1, sd.output, sd.size, fun b hb => sd.frm b hb fun j z hj => absurd hj tb_zero⟩, sd.tape.2⟩ (hp _ _ _ hv)
theorem Qs.call {p : Nat → K → World → Value → Prop} {i : Nat} (o : Oper) (g : FuncId) {fn : Func} {xs : Array Operand} {ts : Array TypeId} (ho : ops[i]? = some o) (hop : o.op = .call { callee := .value (.func g), args := xs, argTypes := ts }) (hf : P.funcs[g]? = some fn) (hw : ∀ k W a, Qn w0 X f h n ops k W a → Qd ops p o k W a → Region.wanted o (yielded ops a.tmps) = true)
    (hc : ∀ k W a, Qn w0 X f h n ops k W a → Qd ops p o k W a → Calls P g (xs.toList.map a.eval).toArray W fun e W' => ∃ u, e = .returned u ∧ Mb W W' ∧ p i k W' u) (hb : callB fn = true := by rfl) : Qs P w0 X f h n ops p i := by
  intro o' ho' k W a K' Q qn qd hK
  rw [ho] at ho'; cases ho'
  rw [if_pos (hw k W a qn qd)]
  unfold Oper.wp
  rw [run_call hop hf hb, Oper.upon_enter]
  refine (hc k W a qn qd).mono ?_
  rintro e W' ⟨u, rfl, hm, hu⟩
  exact hK u W' hm hu
theorem want_n {o : Oper} {a : Act} (hg : o.guard = none) : Region.wanted o (yielded ops a.tmps) = true := by unfold Region.wanted; rw [hg]
theorem Act.put_same {a : Act} {t : Nat} {u : Value} (h : t < a.tmps.size) : (a.put (some t) u).tmps.getD t undef = u := by
  simp [Act.put, Array.getD_eq_getD_getElem?, h]
/-- The slots of a region's operations: each its own, and within the frame. -/
def dsts (ops : Array Oper) (m : Nat) : Bool := ops.toList.all (fun o => match o.dst with
  | some t => Nat.blt t m
  | none => true) && (List.range ops.size).all fun i => (List.range ops.size).all fun j => Nat.beq i j || (match ops[i]?, ops[j]? with
    | some oi, some oj => match oi.dst, oj.dst with
      | some s, some t => !Nat.beq s t
      | _, _ => true
    | _, _ => true)
theorem dsts_lt {m : Nat} (hd : dsts ops m = true) {i : Nat} {o : Oper} (ho : ops[i]? = some o) {t : Nat} (ht : o.dst = some t) : t < m := by
  unfold dsts at hd
  rw [Bool.and_eq_true] at hd
  have := List.all_eq_true.1 hd.1 o (by have := List.mem_of_getElem? (l := ops.toList) (i := i) (by simpa using ho); exact this)
  rw [ht] at this
  rw [Nat.blt_eq] at this
  exact this
theorem dsts_ne {m : Nat} (hd : dsts ops m = true) {i j : Nat} {oi oj : Oper} (hi : ops[i]? = some oi) (hj : ops[j]? = some oj) {t : Nat} (h1 : oi.dst = some t) (h2 : oj.dst = some t) : i = j := by
  unfold dsts at hd
  rw [Bool.and_eq_true] at hd
  have li := (Array.getElem?_eq_some_iff.1 hi).1
  have lj := (Array.getElem?_eq_some_iff.1 hj).1
  have := List.all_eq_true.1 (List.all_eq_true.1 hd.2 i (by simpa using li)) j (by simpa using lj)
  rw [hi, hj] at this
  simp only [h1, h2, Nat.beq_refl, Bool.not_true, Bool.or_false, Nat.beq_eq] at this
  exact this
/-- The region. -/
theorem rq {C : Exit → St → Prop} (hmo : P.follows .mixedOrders = true) {id r0 w1 : Nat} {l0 : List (Nat × Nat)} {op0 : Array Oper} {stk : List It} (p : Nat → K → World → Value → Prop) (hp : ∀ i k W W' u, Mb W W' → p i k W u → p i k W' u) (hs : ∀ i, i < ops.size → Qs P w0 X f h n ops p i) (f' : FT) (hm : f'.m = f.m)
    (hfin : ∀ k W a, Qn w0 X f h n ops k W a → (∀ (i : Nat) o t, ops[i]? = some o → o.dst = some t → p i k W (a.tmps.getD t undef)) → ∀ t, VX k (fget f' t) (a.tmps.getD t undef)) (hr : Rn P w0 C (cf ⟨f', h, n, X⟩ stk)) (hd : dsts ops f.m = true := by kernel_rfl) (he : edgesBack ops = true := by kernel_rfl) :
    Rn P w0 C ⟨op0, [], false, ⟨f, h, n, r0, w1, l0⟩, X, co (.region id ops true) :: stk⟩ := by
  intro nn
  refine ⟨_, rfl, fun h => (by cases h), ?_⟩
  show WC P w0 (.region id ops true) ⟨f, h, n, X⟩ (RnE P w0 C stk)
  intro Q k W a R hK
  refine wp_region_any hmo ?_
  refine wpAny_inv (fun listed a' W' => listed.size = ops.size ∧ Qn w0 X f h n ops k W' a' ∧ a'.tmps.size = f.m ∧ a'.defers = [] ∧ ∀ (i : Nat) o t, ops[i]? = some o → listed.getD i false = true → o.dst = some t → p i k W' (a'.tmps.getD t undef)) he ?_ ?_ _ _ _ _ ?_ ⟨by simp, ⟨?_, ?_, R.nn, R.nk, fun t _ => R.fr.get t⟩, R.fr.m.symm, R.fr.df, fun i o t _ hl => ?_⟩
  · rintro listed a' W' i o ⟨hsz, qn, hts, hdf, hpp⟩ ho hu hall
    refine wpOp_step ho fun K hKK => ?_
    have hin : i < ops.size := (Array.getElem?_eq_some_iff.1 ho).1
    have fin : ∀ u W2, Mb W' W2 → (∀ t, o.dst = some t → p i k W2 u) → K (a'.put o.dst u) W2 := fun u W2 m hu2 => hKK _ _ (by
      have key : ∀ t, o.dst ≠ some t → (a'.put o.dst u).tmps.getD t undef = a'.tmps.getD t undef := fun t ht => put_other ht
      refine ⟨by simpa using hsz, ⟨qn.am.mb m, hr_mb qn.hr m, qn.nn, qn.nk, fun t ht => ?_⟩, ?_, ?_, fun j oj t hj hl ht => ?_⟩
      · rw [key t (ht i o ho)]; exact qn.fr t ht
      · cases h1 : o.dst <;> simp [Act.put, hts]
      · cases h1 : o.dst <;> simp [Act.put, hdf]
      · by_cases hij : j = i
        · subst hij
          rw [ho] at hj; cases hj
          have hlt := dsts_lt hd ho ht
          have h2 := hu2 t ht
          rw [ht, Act.put_same (by rw [hts]; exact hlt)]; exact h2
        · rw [key t (fun h1 => hij (dsts_ne hd hj ho ht h1))]
          refine hp j k W' W2 _ m (hpp j oj t hj ?_ ht)
          have hne : i ≠ j := fun e => hij e.symm
          simpa [Array.getD_eq_getD_getElem?, Array.getElem?_setIfInBounds_ne hne] using hl)
    exact hs i hin o ho k W' a' K Q qn (fun e he2 hb oj t hoj ht => hpp e.on oj t hoj (hall e he2 hb) ht) fun u W2 m hu2 => fin u W2 m fun _ _ => hu2
  · rintro listed a' W' ⟨hsz, qn, hts, hdf, hpp⟩ hall
    have hfr := hfin k W' a' qn fun i o t ho ht => hpp i o t ho (by
      have hin : i < ops.size := (Array.getElem?_eq_some_iff.1 ho).1
      have := hall i hin
      have h2 : i < listed.size := by omega
      simpa [h2] using this) ht
    have R2 : Rl w0 ⟨f', h, n, X⟩ k W' a' := ⟨⟨by rw [hm, hts], hfr, hdf⟩, qn.hr, qn.nn, qn.nk, qn.am⟩
    exact hK .normal _ k W' a' R2 (cf_sem R2.nn hr)
  · simp
  · exact R.am.drew
  · exact hr_mb R.hr ⟨⟨rfl, rfl, rfl, Nat.le_refl _, fun _ _ => rfl⟩, Nat.le_succ _⟩
  · exfalso
    rcases Nat.lt_or_ge i ops.size with h | h <;> simp [h] at hl
end
/-! A call that comes to something in new memory, plainly. -/
theorem CtrX.plain {Y : Type} {P : Program} {W : World} {f : FuncId} {vs : List Value} {t : Y → Value} {F : Y → (Nat → Prop) → World → Prop} (H : ∀ X : World, (∀ b : Nat, X.heap[b]? = W.heap[b]?) → CtrX P X f vs [] 0 0 t (fun _ => []) 0 F) (hp : vs.all pur2 = true) (ht : ∀ y, pur2 (t y) = true) :
    Calls P f (vs.map den2).toArray W fun e W' => ∃ y X2, e = .returned (den2 (t y)) ∧ Mb W W' ∧ (∀ b : Nat, X2.heap[b]? = W'.heap[b]?) ∧ ∃ S, F y S X2 := by
  obtain ⟨X, hXs, hXo, _, hXn⟩ := ex_mask W (fun _ => False)
  have hk0 : ∀ W : World, Ky (fun _ => none) [] 0 W := fun W => ⟨⟨fun i hi => absurd (tb_ones.1 hi) (Nat.not_lt_zero _), fun i j hi => absurd (tb_ones.1 hi) (Nat.not_lt_zero _)⟩, fun i _ => by unfold hget; cases Nat.blt i 4096 <;> rfl, fun _ _ => rfl⟩
  have hv : LR (VX fun _ => none) vs (vs.map den2) := LR.mk (p := pur2) (d := den2) (fun _ h => pur2_vx h) hp
  refine (H X (fun b => hXo b id) W (fun _ => none) _ (hk0 W) ⟨fun b o h1 _ => by rw [← hXo b id]; exact h1, fun i b z h => (by cases h), by rw [hXs]; exact Nat.le_refl _⟩ hv).mono ?_
  rintro e W' ⟨y, u, k', rfl, hu, af, hF⟩
  have hkn : k' = fun _ => none := funext fun i => af.ky.nk i (Nat.zero_le _)
  obtain ⟨X2, hXs2, hXo2, _, hXn2⟩ := ex_mask W' (fun _ => False)
  refine ⟨y, X2, by rw [pur2_eq hu (ht y)], ⟨⟨af.os, af.tape.1, af.output, af.size, fun b hb => af.frm b hb fun j z _ h => by cases h⟩, af.tape.2⟩, fun b => hXo2 b id, ?_⟩
  exact ⟨_, hF X2 fun b o _ h1 _ => ⟨by rw [hXo2 b id]; exact h1, hXn2 b o h1⟩⟩
end S
end Go.Proofs.YtfmfeipeeedfpaaGreat
namespace Go.Proofs.YtfmfeipeeedfpaaGreat
open S Go.RowKit
namespace S
section
variable {P : Program} {w0 : B0} {X : World} {f : FT} {h : HT} {n : Nat} {ops : Array Oper}
def nodB (ops : Array Oper) (t : Nat) : Bool := ops.toList.all fun o => match o.dst with
  | some s => !Nat.beq s t
  | none => true
theorem nodB_at {t : Nat} (hn : nodB ops t = true) (j : Nat) (o : Oper) (ho : ops[j]? = some o) : o.dst ≠ some t := fun e => by
  have := List.all_eq_true.1 hn o (List.mem_of_getElem? (l := ops.toList) (i := j) (by simpa using ho))
  rw [e] at this
  simp at this
/-- An operation whose operands the region leaves alone. -/
theorem Qs.base {p : Nat → K → World → Value → Prop} {i : Nat} (o : Oper) (v : Value) (r : Nat) (ho : ops[i]? = some o) (hw : ∀ k W a, Qn w0 X f h n ops k W a → Qd ops p o k W a → Region.wanted o (yielded ops a.tmps) = true) (hp : ∀ k W u, VX k v u → p i k W u)
    (hs : stepK w0 X P o f h n (fun x => x = ⟨v, h, n, r, 0⟩) (fun x => x = ⟨v, h, n, r, 0⟩))
    (hb : o.op.operands.toList.all (fun y => match y with
      | .tmp t => nodB ops t
      | .const _ => true
      | _ => false) = true := by rfl) : Qs P w0 X f h n ops p i :=
  Qs.sym o f v r ho hw (fun k W a qn _ y hy => by
    have := List.all_eq_true.1 hb y hy
    split at this
    · rename_i t; exact qn.fr t (nodB_at this)
    · exact cst_vx
    · cases this) (fun nn => by
    obtain ⟨x, h1, h2⟩ := stepK_ok nn hs
    have h2 : x = ⟨v, h, n, r, 0⟩ := h2.elim id id
    subst h2; exact h1) hp
def frl (k : K) (a : Act) : List (Nat × Value) → Prop
  | [] => True
  | x :: l => VX k x.2 (a.tmps.getD x.1 undef) ∧ frl k a l
theorem frl_get {k : K} {a : Act} : ∀ {l : List (Nat × Value)}, frl k a l → ∀ t, VX k (look l t) (a.tmps.getD t undef)
  | [], _, _ => unk_vx
  | x :: l, hl, t => by
    simp only [look]
    by_cases e : x.1 = t
    · rw [show Nat.beq x.1 t = true by rw [Nat.beq_eq]; exact e]; subst e; exact hl.1
    · rw [beq_f e]; exact frl_get hl.2 t
end
end S
theorem LT.dp {w : World} : ∀ {d : Nat} {x : Ex}, LT w d x → Dp d x
  | 0, _, h => h
  | d + 1, _, h => fun y hy => by obtain ⟨i, hi⟩ := List.getElem?_of_mem hy; exact (h.2 i y hi).2.dp
/-- A tree that lies there and is what this one folds to. -/
structure TR (e : Ev) (d : Nat) (x : Ex) (W : World) (y : Ex) : Prop where
  l : LT W d y
  u : XU d y
  e : ek d y = fdE e d x
theorem cell_eq {A B : World} (h : ∀ b : Nat, A.heap[b]? = B.heap[b]?) (a : Addr) (u : Value) (hc : A.cell? a = some u) : B.cell? a = some u := by
  unfold World.cell? at hc ⊢; rw [← h]; exact hc
theorem mb_cell {W W' : World} (m : Mb W W') (a : Addr) (u : Value) (hc : W.cell? a = some u) : W'.cell? a = some u := by
  unfold World.cell? at hc ⊢
  split at hc
  · rename_i c ty fz hx
    rw [m.block _ (Array.getElem?_eq_some_iff.1 hx).1, hx]; exact hc
  · cases hc
theorem TR.mb {e : Ev} {d : Nat} {x y : Ex} {W W' : World} (h : TR e d x W y) (m : Mb W W') : TR e d x W' y := ⟨h.l.mono (mb_cell m), h.u, h.e⟩
section
variable {d : Nat} {x : Ex} {tp : Option Addr} {cp : Nat} {tb : List Tb} {w : World}
theorem p_fold' (hu : XU d x) (hb : nds d x ≤ 1000000000) (hL : LT w d x) (he : EvL w (tbV tp cp tb)) : Calls Tryz.prog 25 #[.agg x.c.toArray, .slice tp tb.length cp] w fun r W => ∃ u, r = .returned u ∧ Mb w W ∧ ∃ y, u = .agg y.c.toArray ∧ TR (tbV tp cp tb) d x W y := by
  refine (CtrX.plain (vs := [xY x, raw (.slice tp tb.length cp)]) (fun X hX => p_fold hu hb X (hL.mono (cell_eq fun b => (hX b).symm)) (he.tm (cell_eq fun b => (hX b).symm))) rfl (fun y => rfl)).mono ?_
  rintro e W ⟨y, X2, rfl, m, hX2, S, hF⟩
  exact ⟨_, rfl, m, y, rfl, hF.1.lt.mono (cell_eq hX2), hF.2.1, hF.2.2⟩
end
/-- What the operations of the law's region come to. -/
def p6 (e : Ev) (d : Nat) (x : Ex) (i : Nat) (_ : K) (W : World) (u : Value) : Prop := match i with
  | 0 => u = .agg x.c.toArray
  | 1 => u = .slice e.tp e.tb.length e.cp
  | 2 => ∃ y, u = .agg y.c.toArray ∧ TR e d x W y
  | 3 => u = .agg x.c.toArray
  | 4 => u = .slice e.tp e.tb.length e.cp
  | 5 => ∃ y, u = .agg y.c.toArray ∧ TR e d x W y
  | _ => u = .bool true
/-! An expression that was folded comes to the same. -/
theorem nod_tab {e e' : Ev} (ht : e'.tb = e.tb) {x : Ex} (h2 : x.k ≠ 2) (h10 : x.k ≠ 10) (hw : whl x = true) (a : Nat → VL) : nodE e' x a = nodE e x a := by
  have hk : x.k = 1 ∨ x.k = 3 ∨ x.k = 4 ∨ x.k = 5 ∨ x.k = 6 ∨ x.k = 7 ∨ x.k = 8 ∨ x.k = 9 := by
    have h := of_decide_eq_true hw
    unfold whN at h
    repeat (first | (injection h; omega) | cases h | split at h)
  rcases hk with h | h | h | h | h | h | h | h
  iterate 6 (unfold nodE; simp [h])
  · unfold nodE brkE frmE tabE; simp [h, ht]
  · unfold nodE; simp [h]
theorem ev_kids {e : Ev} {d : Nat} {x y : Ex} (hk : ∀ a, nodE e x a = nodE e y a) (hw : whl x = whl y) (ha : x.a.map (evE e d) = y.a.map (evE e d)) : evE e (d + 1) x = evE e (d + 1) y := by
  rw [evE, evE, hw]
  have : (fun j => ((x.a[j]?).map (evE e d)).getD vBl) = fun j => ((y.a[j]?).map (evE e d)).getD vBl := funext fun (j : Nat) => by
    rw [← List.getElem?_map, ← List.getElem?_map, ha]
  rw [this, hk]
/-- What an expression of constants comes to hangs on the tables alone. -/
theorem fx_ev {e e' : Ev} (ht : e'.tb = e.tb) {d : Nat} {b : Ex} (hf : fxE b = true) (hc : ∀ y ∈ b.a, isC y = true → ∃ v : VL, v.fit ∧ y = cstX v) : evE e' (d + 1) b = evE e (d + 1) b := by
  unfold fxE at hf
  simp only [Bool.and_eq_true, Bool.not_eq_true', decide_eq_false_iff_not] at hf
  obtain ⟨⟨⟨hw, h2⟩, h10⟩, hall⟩ := hf
  rw [List.all_eq_true] at hall
  rw [evE, evE, hw]
  have : (fun j => ((b.a[j]?).map (evE e' d)).getD vBl) = fun j => ((b.a[j]?).map (evE e d)).getD vBl := funext fun (j : Nat) => by
    cases q : b.a[j]? with
    | none => rfl
    | some y =>
      have hm := List.mem_of_getElem? q
      obtain ⟨v, hv, rfl⟩ := hc y hm (hall y hm)
      simp only [Option.map_some, Option.getD_some, cst_ev e' hv, cst_ev e hv]
  rw [this]
  simp only [if_true]
  exact nod_tab ht h2 h10 hw _
theorem ev_up (e : Ev) : ∀ {d : Nat} {x : Ex}, Dp d x → evE e (d + 1) x = evE e d x
  | 0, x, h => by
    rw [evE, evE, show x.a = [] from h]; rfl
  | d + 1, x, h => by
    rw [evE, evE]
    have : (fun j => ((x.a[j]?).map (evE e (d + 1))).getD vBl) = fun j => ((x.a[j]?).map (evE e d)).getD vBl := funext fun (j : Nat) => by
      cases q : x.a[j]? with
      | none => rfl
      | some y => simp only [Option.map_some, Option.getD_some]; exact ev_up e (h.at q)
    rw [this]
theorem fd_ev {e e' : Ev} (ht : e'.tb = e.tb) {X X' : World} (he : EvL X e) (he' : EvL X' e') : ∀ {d : Nat} {x : Ex}, Dp d x → XU d x → evE e' d (fdE e d x) = evE e' d x
  | 0, x, hd, hu => by
    have ha : (kd (fun y => y) x).a = [] := by unfold kd; simp [show x.a = [] from hd]
    have hB : XU 0 (kd (fun y => y) x) := hu
    have h0 : evE e' 0 (kd (fun y => y) x) = evE e' 0 x := ev_ek e' 0 x
    show evE e' 0 (fnE e 0 (kd (fun y => y) x)) = _
    unfold fnE
    rw [ch_nil ha]
    cases hf : fxE (kd (fun y => y) x) with
    | false => exact h0
    | true =>
      simp only [Bool.false_eq_true, if_false, if_true]
      rw [cst_ev e' (fit_ev he hB), ← h0]
      unfold fxE at hf
      simp only [Bool.and_eq_true, Bool.not_eq_true', decide_eq_false_iff_not] at hf
      obtain ⟨⟨⟨hw, h2⟩, h10⟩, _⟩ := hf
      unfold evE; rw [hw]; simp only [if_true]
      exact (nod_tab ht h2 h10 hw _).symm
  | d + 1, x, hd, hu => by
    have kids : ∀ y ∈ (kd (fdE e d) x).a, isC y = true → ∃ v : VL, v.fit ∧ y = cstX v := fun y hy => by
      have hy : y ∈ x.a.map (fdE e d) := hy
      obtain ⟨z, hz, rfl⟩ := List.mem_map.1 hy
      exact (fd_dx e he (hd z hz) (hu.2 z hz)).2.2
    have hB : evE e' (d + 1) (kd (fdE e d) x) = evE e' (d + 1) x := ev_kids (fun _ => rfl) (whl_kd _ _) (by
      show (x.a.map (fdE e d)).map (evE e' d) = _
      rw [List.map_map]
      exact List.map_congr_left fun y hy => fd_ev ht he he' (hd y hy) (hu.2 y hy))
    have hBu : XU (d + 1) (kd (fdE e d) x) := ⟨hu.1, fun y hy => by
      have hy : y ∈ x.a.map (fdE e d) := hy
      obtain ⟨z, hz, rfl⟩ := List.mem_map.1 hy
      exact (fd_dx e he (hd z hz) (hu.2 z hz)).2.1⟩
    rw [← hB]
    show evE e' (d + 1) (fnE e (d + 1) (kd (fdE e d) x)) = _
    unfold fnE
    cases hc : chE (kd (fdE e d) x) with
    | true =>
      obtain ⟨c, p, q, ha, hp, hcc, hck⟩ := pk_mem hc
      obtain ⟨v0, f0, rfl⟩ := kids c (by rw [ha]; simp) hcc
      have hk : v0.k = 2 := hck
      simp only [if_true]
      rw [hp, ev_three e' ha (ch_k hc), cst_ev e' f0]
      have up : ∀ y ∈ (kd (fdE e d) x).a, evE e' (d + 1) y = evE e' d y ∧ (evE e' d y).fit := fun y hy => by
        have hy : y ∈ x.a.map (fdE e d) := hy
        obtain ⟨z, hz, rfl⟩ := List.mem_map.1 hy
        obtain ⟨g1, g2, _⟩ := fd_dx e he (hd z hz) (hu.2 z hz)
        exact ⟨ev_up e' g1, fit_ev he' g2⟩
      obtain ⟨u1, w1⟩ := up p (by rw [ha]; simp)
      obtain ⟨u2, w2⟩ := up q (by rw [ha]; simp)
      unfold ifV
      rw [if_pos (ask_fl f0 hk)]
      show evE e' (d + 1) (if v0.f then p else q) = _
      cases v0.f with
      | true => simp only [if_true]; rw [u1, may_fit w1]
      | false => simp only [Bool.false_eq_true, if_false]; rw [u2, may_fit w2]
    | false =>
      cases hf : fxE (kd (fdE e d) x) with
      | false => rfl
      | true =>
        simp only [Bool.false_eq_true, if_false, if_true]
        rw [cst_ev e' (fit_ev he hBu)]
        exact (fx_ev ht hf kids).symm
/-! What was folded is folded. -/
theorem kd_kd {f g : Ex → Ex} {x : Ex} : kd f (kd g x) = kd (fun y => f (g y)) x := by
  unfold kd; dsimp only; rw [List.map_map]; rfl
theorem fd_ek (e : Ev) : ∀ (d : Nat) (x : Ex), fdE e d (ek d x) = fdE e d x
  | 0, x => by show fnE e 0 (kd (fun y => y) (kd (fun y => y) x)) = _; rw [kd_kd]; rfl
  | d + 1, x => by
    show fnE e (d + 1) (kd (fdE e d) (kd (ek d) x)) = fnE e (d + 1) (kd (fdE e d) x)
    rw [kd_kd, kd_c fun y _ => fd_ek e d y]
theorem fd_up (e : Ev) {X : World} (he : EvL X e) : ∀ {d : Nat} {x : Ex}, Dp d x → XU d x → fdE e (d + 1) x = fdE e d x
  | 0, x, hd, hu => by
    show fnE e 1 (kd (fdE e 0) x) = fnE e 0 (kd (fun y => y) x)
    rw [show kd (fdE e 0) x = kd (fun y => y) x from kd_c fun y hy => by rw [show x.a = [] from hd] at hy; cases hy]
    have ha : Dp 0 (kd (fun y => y) x) := by show (kd (fun y => y) x).a = []; unfold kd; simp [show x.a = [] from hd]
    unfold fnE; rw [ev_up e ha]
  | d + 1, x, hd, hu => by
    show fnE e (d + 2) (kd (fdE e (d + 1)) x) = fnE e (d + 1) (kd (fdE e d) x)
    rw [kd_c fun y hy => fd_up e he (hd y hy) (hu.2 y hy)]
    have ha : Dp (d + 1) (kd (fdE e d) x) := fun y hy => by
      have hy : y ∈ x.a.map (fdE e d) := hy
      obtain ⟨z, hz, rfl⟩ := List.mem_map.1 hy
      exact (fd_dx e he (hd z hz) (hu.2 z hz)).1
    unfold fnE; rw [ev_up e ha]
theorem fd_cst (e : Ev) {v : VL} (hv : v.fit) : ∀ d, fdE e d (cstX v) = cstX v := by
  have key : ∀ d, fnE e d (cstX v) = cstX v := fun d => by
    unfold fnE
    rw [ch_nil rfl, show fxE (cstX v) = true from rfl, cst_ev e hv]; rfl
  intro d; cases d <;> exact key _
theorem fd_fd (e : Ev) {X : World} (he : EvL X e) : ∀ {d : Nat} {x : Ex}, Dp d x → XU d x → fdE e d (fdE e d x) = fdE e d x
  | 0, x, hd, hu => by
    have ha : (kd (fun y => y) x).a = [] := by unfold kd; simp [show x.a = [] from hd]
    show fdE e 0 (fnE e 0 (kd (fun y => y) x)) = fnE e 0 (kd (fun y => y) x)
    have hB : XU 0 (kd (fun y => y) x) := hu
    unfold fnE
    rw [ch_nil ha]
    cases hf : fxE (kd (fun y => y) x) with
    | true => simp only [Bool.false_eq_true, if_false, if_true]; exact fd_cst e (fit_ev he hB) 0
    | false =>
      simp only [Bool.false_eq_true, if_false]
      show fnE e 0 (kd (fun y => y) (kd (fun y => y) x)) = _
      rw [kd_kd]
      unfold fnE; rw [ch_nil ha, hf]; rfl
  | d + 1, x, hd, hu => by
    have kids : ∀ y ∈ (kd (fdE e d) x).a, fdE e d y = y ∧ Dp d y ∧ XU d y := fun y hy => by
      have hy : y ∈ x.a.map (fdE e d) := hy
      obtain ⟨z, hz, rfl⟩ := List.mem_map.1 hy
      obtain ⟨g1, g2, _⟩ := fd_dx e he (hd z hz) (hu.2 z hz)
      exact ⟨fd_fd e he (hd z hz) (hu.2 z hz), g1, g2⟩
    have hBu : XU (d + 1) (kd (fdE e d) x) := ⟨hu.1, fun y hy => (kids y hy).2.2⟩
    have hBB : kd (fdE e d) (kd (fdE e d) x) = kd (fdE e d) x := by
      rw [kd_kd]
      exact kd_c fun y hy => (kids (fdE e d y) (List.mem_map.2 ⟨y, hy, rfl⟩)).1
    show fdE e (d + 1) (fnE e (d + 1) (kd (fdE e d) x)) = fnE e (d + 1) (kd (fdE e d) x)
    have hF : fdE e (d + 1) (kd (fdE e d) x) = fnE e (d + 1) (kd (fdE e d) x) := by
      show fnE e (d + 1) (kd (fdE e d) (kd (fdE e d) x)) = _
      rw [hBB]
    generalize hB : kd (fdE e d) x = B at *
    unfold fnE at hF ⊢
    cases hc : chE B with
    | true =>
      obtain ⟨c, p, q, ha, hp, _, _⟩ := pk_mem hc
      simp only [if_true]
      rw [hp]
      have key : ∀ y ∈ B.a, fdE e (d + 1) y = y := fun y hy => by
        obtain ⟨g1, g2, g3⟩ := kids y hy
        rw [fd_up e he g2 g3, g1]
      cases c.fl with
      | true => exact key p (by rw [ha]; simp)
      | false => exact key q (by rw [ha]; simp)
    | false =>
      cases hf : fxE B with
      | true => simp only [Bool.false_eq_true, if_false, if_true]; exact fd_cst e (fit_ev he hBu) (d + 1)
      | false => rw [hc, hf] at hF; simp only [Bool.false_eq_true, if_false] at hF ⊢; exact hF
/-! It is no greater. -/
theorem nds_up : ∀ {d : Nat} {x : Ex}, Dp d x → nds (d + 1) x = nds d x
  | 0, x, h => by show x.a.foldl _ 1 = 1; rw [show x.a = [] from h]; rfl
  | d + 1, x, h => by
    show x.a.foldl (fun n y => n + nds (d + 1) y) 1 = x.a.foldl (fun n y => n + nds d y) 1
    have : ∀ (l : List Ex) (c : Nat), (∀ y ∈ l, Dp d y) → l.foldl (fun n y => n + nds (d + 1) y) c = l.foldl (fun n y => n + nds d y) c := by
      intro l
      induction l with
      | nil => intro c _; rfl
      | cons y l ih => intro c hl; simp only [List.foldl_cons]; rw [nds_up (hl y (by simp))]; exact ih _ fun z hz => hl z (by simp [hz])
    exact this _ _ h
theorem nds_pos : ∀ (d : Nat) (y : Ex), 1 ≤ nds d y
  | 0, _ => Nat.le_refl _
  | d + 1, y => by show 1 ≤ y.a.foldl (fun n y => n + nds d y) 1; rw [fold_nds]; omega
theorem nds_mem {d : Nat} {x y : Ex} (hy : y ∈ x.a) : nds d y < nds (d + 1) x := by
  have key : ∀ l : List Ex, y ∈ l → nds d y ≤ l.foldl (fun n y => n + nds d y) 0 := by
    intro l
    induction l with
    | nil => intro h; cases h
    | cons z l ih =>
      intro h
      rw [List.foldl_cons, fold_nds]
      rcases List.mem_cons.1 h with rfl | h
      · omega
      · have := ih h; omega
  have h1 : nds (d + 1) x = 1 + x.a.foldl (fun n y => n + nds d y) 0 := fold_nds x.a 1
  have := key x.a hy
  omega
theorem nds_fd (e : Ev) {X : World} (he : EvL X e) : ∀ {d : Nat} {x : Ex}, Dp d x → XU d x → nds d (fdE e d x) ≤ nds d x
  | 0, _, _, _ => Nat.le_refl _
  | d + 1, x, hd, hu => by
    have hB : nds (d + 1) (kd (fdE e d) x) ≤ nds (d + 1) x := by
      show (x.a.map (fdE e d)).foldl (fun n y => n + nds d y) 1 ≤ x.a.foldl (fun n y => n + nds d y) 1
      rw [List.foldl_map]
      have : ∀ (l : List Ex) (c c' : Nat), c ≤ c' → (∀ y ∈ l, y ∈ x.a) → l.foldl (fun n y => n + nds d (fdE e d y)) c ≤ l.foldl (fun n y => n + nds d y) c' := by
        intro l
        induction l with
        | nil => intro c c' h _; exact h
        | cons y l ih =>
          intro c c' h hl
          simp only [List.foldl_cons]
          have hy := hl y (by simp)
          have := nds_fd e he (hd y hy) (hu.2 y hy)
          exact ih _ _ (by omega) fun z hz => hl z (by simp [hz])
      exact this _ _ _ (Nat.le_refl _) fun _ h => h
    refine Nat.le_trans ?_ hB
    show nds (d + 1) (fnE e (d + 1) (kd (fdE e d) x)) ≤ _
    have kids : ∀ y ∈ (kd (fdE e d) x).a, Dp d y := fun y hy => by
      have hy : y ∈ x.a.map (fdE e d) := hy
      obtain ⟨z, hz, rfl⟩ := List.mem_map.1 hy
      exact (fd_dx e he (hd z hz) (hu.2 z hz)).1
    unfold fnE
    cases hc : chE (kd (fdE e d) x) with
    | true =>
      obtain ⟨c, p, q, ha, hp, _, _⟩ := pk_mem hc
      simp only [if_true]
      rw [hp]
      have key : ∀ y ∈ (kd (fdE e d) x).a, nds (d + 1) y ≤ nds (d + 1) (kd (fdE e d) x) := fun y hy => by
        have h1 : nds d y < nds (d + 1) (kd (fdE e d) x) := nds_mem hy
        rw [nds_up (kids y hy)]; omega
      cases c.fl with
      | true => exact key p (by rw [ha]; simp)
      | false => exact key q (by rw [ha]; simp)
    | false =>
      cases hf : fxE (kd (fdE e d) x) with
      | true => exact nds_pos _ _
      | false => exact Nat.le_refl _
def szN : Nat → Ex → Nat
  | 0, _ => 10000
  | d + 1, x => x.a.foldl (fun n y => n + szN d y) 1
theorem fold_szN {d : Nat} : ∀ (l : List Ex) (c : Nat), l.foldl (fun n y => n + szN d y) c = c + l.foldl (fun n y => n + szN d y) 0
  | [], c => by simp
  | y :: l, c => by simp only [List.foldl_cons]; rw [fold_szN l (c + szN d y), fold_szN l (0 + szN d y)]; omega
theorem sz_szN : ∀ (d : Nat) (x : Ex), szN d x ≤ 1000000000000000000 → szX d x = (szN d x : Int)
  | 0, _, _ => rfl
  | d + 1, x, h => by
    have key : ∀ (l : List Ex) (c : Nat), l.foldl (fun n y => n + szN d y) c ≤ 1000000000000000000 → l.foldl (fun n y => IntKind.i64.wrap (n + szX d y)) (c : Int) = ((l.foldl (fun n y => n + szN d y) c : Nat) : Int) := by
      intro l
      induction l with
      | nil => intro c _; rfl
      | cons y l ih =>
        intro c hc
        simp only [List.foldl_cons] at hc ⊢
        have h2 := hc
        rw [fold_szN] at h2
        rw [sz_szN d y (by omega), wz (c + szN d y) (by omega) (by omega)]
        exact ih _ hc
    exact key x.a 1 h
theorem szN_le : ∀ {d n : Nat} {x : Ex}, Dp n x → szN d x ≤ 10000 * nds n x
  | 0, n, x, _ => by have := nds_pos n x; show 10000 ≤ _; omega
  | d + 1, 0, x, h => by show x.a.foldl _ 1 ≤ _; rw [show x.a = [] from h]; show 1 ≤ 10000 * 1; omega
  | d + 1, n + 1, x, h => by
    have key : ∀ l : List Ex, (∀ y ∈ l, Dp n y) → l.foldl (fun n y => n + szN d y) 0 ≤ 10000 * l.foldl (fun m y => m + nds n y) 0 := by
      intro l
      induction l with
      | nil => intro _; exact Nat.zero_le _
      | cons y l ih =>
        intro hl
        simp only [List.foldl_cons]
        rw [fold_szN, fold_nds]
        have h1 := szN_le (d := d) (hl y (by simp))
        have h2 := ih fun z hz => hl z (by simp [hz])
        omega
    have h1 : szN (d + 1) x = 1 + x.a.foldl (fun n y => n + szN d y) 0 := fold_szN x.a 1
    have h2 : nds (n + 1) x = 1 + x.a.foldl (fun m y => m + nds n y) 0 := fold_nds x.a 1
    have := key x.a h
    omega
theorem szN_dp : ∀ {d : Nat} {x : Ex}, szN (d + 1) x < 10000 → Dp d x
  | 0, x, h => by
    have h : szN 1 x < 10000 := h
    cases ha : x.a with
    | nil => exact ha
    | cons y l =>
      have : szN 1 x = 1 + (y :: l).foldl (fun n y => n + szN 0 y) 0 := by rw [← ha]; exact fold_szN x.a 1
      rw [List.foldl_cons, fold_szN] at this
      have h0 : szN 0 y = 10000 := rfl
      omega
  | d + 1, x, h => fun y hy => by
    refine szN_dp (d := d) ?_
    have key : ∀ l : List Ex, y ∈ l → szN (d + 1) y ≤ l.foldl (fun n y => n + szN (d + 1) y) 0 := by
      intro l
      induction l with
      | nil => intro h; cases h
      | cons z l ih =>
        intro h
        rw [List.foldl_cons, fold_szN]
        rcases List.mem_cons.1 h with rfl | h
        · omega
        · have := ih h; omega
    have h : szN (d + 2) x < 10000 := h
    have h1 : szN (d + 2) x = 1 + x.a.foldl (fun n y => n + szN (d + 1) y) 0 := fold_szN x.a 1
    have := key x.a hy
    omega
theorem szN_nds : ∀ {d : Nat} {x : Ex}, Dp d x → szN (d + 1) x = nds d x
  | 0, x, h => by show x.a.foldl _ 1 = 1; rw [show x.a = [] from h]; rfl
  | d + 1, x, h => by
    show x.a.foldl (fun n y => n + szN (d + 1) y) 1 = x.a.foldl (fun n y => n + nds d y) 1
    have : ∀ (l : List Ex) (c : Nat), (∀ y ∈ l, Dp d y) → l.foldl (fun n y => n + szN (d + 1) y) c = l.foldl (fun n y => n + nds d y) c := by
      intro l
      induction l with
      | nil => intro c _; rfl
      | cons y l ih => intro c hl; simp only [List.foldl_cons]; rw [szN_nds (hl y (by simp))]; exact ih _ fun z hz => hl z (by simp [hz])
    exact this _ _ h
theorem dp_ek : ∀ {m k : Nat} {y : Ex}, Dp m (ek k y) → Dp m y
  | 0, k, y, h => by
    have h : (ek k y).a = [] := h
    show y.a = []
    cases k with
    | zero => have h2 : y.a.map (fun y => y) = [] := h; simpa using h2
    | succ k => have h2 : y.a.map (ek k) = [] := h; simpa using h2
  | m + 1, 0, y, h => fun z hz => h z (by show z ∈ y.a.map (fun y => y); simpa using hz)
  | m + 1, k + 1, y, h => fun z hz => dp_ek (h (ek k z) (List.mem_map.2 ⟨z, hz, rfl⟩))
theorem nds_ek' : ∀ (m k : Nat) (x : Ex), nds m (ek k x) = nds m x
  | 0, _, _ => rfl
  | m + 1, 0, x => by
    show (x.a.map (fun y => y)).foldl (fun n y => n + nds m y) 1 = _
    rw [List.map_id']; rfl
  | m + 1, k + 1, x => by
    show (x.a.map (ek k)).foldl (fun n y => n + nds m y) 1 = x.a.foldl (fun n y => n + nds m y) 1
    rw [List.foldl_map]
    simp only [nds_ek' m k]
theorem xu_any : ∀ {n : Nat} {x : Ex}, Dp n x → XU n x → ∀ m, XU m x
  | _, _, _, hu, 0 => hu.u
  | 0, x, hd, hu, m + 1 => ⟨hu, fun y hy => by rw [show x.a = [] from hd] at hy; cases hy⟩
  | n + 1, x, hd, hu, m + 1 => ⟨hu.1, fun y hy => xu_any (hd y hy) (hu.2 y hy) m⟩
theorem Dp.le {n m : Nat} {x : Ex} (h : Dp n x) (hm : n ≤ m) : Dp m x := by
  induction hm with
  | refl => exact h
  | step _ ih => exact ih.up
theorem fd_le (e : Ev) {X : World} (he : EvL X e) {n m : Nat} {x : Ex} (h : Dp n x) (hu : XU n x) (hm : n ≤ m) : fdE e m x = fdE e n x := by
  induction hm with
  | refl => rfl
  | @step k hk ih => rw [fd_up e he (h.le hk) (xu_any h hu k), ih]
/-- What was folded fits, too. -/
theorem fits_fd (e : Ev) {X : World} (he : EvL X e) {n : Nat} {x y : Ex} (hd : Dp n x) (hu : XU n x) (hb : nds n x ≤ 1000000000) (hf : decide (szX 60 x ≤ 2000) = true) (hy : ek n y = fdE e n x) : decide (szX 60 y ≤ 2000) = true ∧ nds n y ≤ nds n x := by
  have hf := of_decide_eq_true hf
  have h1 := szN_le (d := 60) hd
  rw [sz_szN 60 x (by omega)] at hf
  have hd2 : Dp 59 x := szN_dp (d := 59) (show szN 60 x < 10000 by omega)
  have hn : nds 59 x ≤ 2000 := by have : szN 60 x = nds 59 x := szN_nds hd2; omega
  have hu2 := xu_any hd hu 59
  have e1 : fdE e n x = fdE e 59 x := by
    rw [← fd_le e he hd hu (Nat.le_add_right n 59), ← fd_le e he hd2 hu2 (Nat.le_add_left 59 n)]
  have g1 : Dp 59 y := dp_ek (k := n) (by rw [hy, e1]; exact (fd_dx e he hd2 hu2).1)
  have g2 : nds 59 y ≤ 2000 := by
    rw [← nds_ek' 59 n y, hy, e1]; exact Nat.le_trans (nds_fd e he hd2 hu2) hn
  have g3 : szN 60 y = nds 59 y := szN_nds g1
  refine ⟨decide_eq_true ?_, ?_⟩
  · rw [sz_szN 60 y (by omega)]; omega
  · rw [← nds_ek' n n y, hy]; exact nds_fd e he hd hu
namespace S
section
variable {P : Program} {w0 : B0} {X : World} {f : FT} {h : HT} {n : Nat} {ops : Array Oper}
theorem want_t {o : Oper} {a : Act} (j t : Nat) (hg : o.guard = some (j, true)) (ho : (ops[j]?).bind (·.dst) = some t) (hv : a.tmps.getD t undef = .bool true) : Region.wanted o (yielded ops a.tmps) = true := by
  refine want_of (k := fun _ => none) (f := ⟨0, [(t, .bool true)]⟩) ?_ ?_
  · unfold wantP
    rw [hg]
    simp only [ho]
    have : fget ⟨0, [(t, .bool true)]⟩ t = .bool true := by
      show look [(t, Value.bool true)] t = _
      simp only [look, Nat.beq_refl, cond_true]
    rw [this]
    rfl
  · intro j2 w2 t2 h1 h2
    rw [hg] at h1; cases h1
    rw [ho] at h2; cases h2
    rw [hv]
    have : fget ⟨0, [(t, .bool true)]⟩ t = .bool true := by
      show look [(t, Value.bool true)] t = _
      simp only [look, Nat.beq_refl, cond_true]
    rw [this]
    exact VX.of0 rfl
/-- An operation of which the operands are known. -/
theorem Qs.symL {p : Nat → K → World → Value → Prop} {i : Nat} (o : Oper) (l : List (Nat × Value)) (v : Value) (r : Nat) (ho : ops[i]? = some o) (hw : ∀ k W a, Qn w0 X f h n ops k W a → Qd ops p o k W a → Region.wanted o (yielded ops a.tmps) = true) (hl : ∀ k W a, Qn w0 X f h n ops k W a → Qd ops p o k W a → frl k a l)
    (hOa : (∀ i, n ≤ i → hget h i = none) → Oa (Am w0 X) P o ⟨0, l⟩ h n ⟨v, h, n, r, 0⟩) (hp : ∀ k W u, VX k v u → p i k W u)
    (hb : o.op.operands.toList.all (fun y => match y with
      | .tmp _ => true
      | .const _ => true
      | _ => false) = true := by rfl) : Qs P w0 X f h n ops p i :=
  Qs.sym o ⟨0, l⟩ v r ho hw (fun k W a qn qd y hy => by
    have := List.all_eq_true.1 hb y hy
    split at this
    · exact frl_get (hl k W a qn qd) _
    · exact cst_vx
    · cases this) hOa hp
theorem Qs.stp {p : Nat → K → World → Value → Prop} {i : Nat} (o : Oper) (l : List (Nat × Value)) (v : Value) (r : Nat) (ho : ops[i]? = some o) (hw : ∀ k W a, Qn w0 X f h n ops k W a → Qd ops p o k W a → Region.wanted o (yielded ops a.tmps) = true) (hl : ∀ k W a, Qn w0 X f h n ops k W a → Qd ops p o k W a → frl k a l)
    (hp : ∀ k W u, VX k v u → p i k W u) (hs : stepK w0 X P o ⟨0, l⟩ h n (fun x => x = ⟨v, h, n, r, 0⟩) (fun x => x = ⟨v, h, n, r, 0⟩))
    (hb : o.op.operands.toList.all (fun y => match y with
      | .tmp _ => true
      | .const _ => true
      | _ => false) = true := by rfl) : Qs P w0 X f h n ops p i :=
  Qs.symL o l v r ho hw hl (fun nn => by
    obtain ⟨x, h1, h2⟩ := stepK_ok nn hs
    have h2 : x = ⟨v, h, n, r, 0⟩ := h2.elim id id
    subst h2; exact h1) hp hb
end
end S
theorem r_eqS {w0 : B0} {X : World} {o : Oper} {fr : FT} {h : HT} {n : Nat} {y z : Operand} {t' : TypeId} (p : VL) (ho : o.op = .binOp .eql 28 y z t') (hy : den2 (evo fr y) = p.v) (hz : den2 (evo fr z) = p.v) (hpy : pur2 (evo fr y) = true) (hpz : pur2 (evo fr z) = true) : Oa (Am w0 X) Tryz.prog o fr h n ⟨.bool true, h, n, 0, 0⟩ := by
  have := r_eqV (w0 := w0) (X := X) (h := h) (n := n) p p ho hy hz hpy hpz
  rw [svv_self] at this; exact this
def p7 (e : Ev) (d : Nat) (x y : Ex) (i : Nat) (k : K) (W : World) (u : Value) : Prop := match i with
  | 0 => u = .agg y.c.toArray
  | 3 => u = .agg y.c.toArray
  | 4 => u = e.v
  | 5 => u = (evE e d x).v
  | 6 => u = .agg x.c.toArray
  | 7 => u = e.v
  | 8 => u = (evE e d x).v
  | 12 => u = .agg y.c.toArray
  | 13 => VX k (.pointer (some ⟨1, 2, none⟩)) u
  | 14 => u = .slice e.tp e.tb.length e.cp
  | 15 => ∃ z : Ex, u = .agg z.c.toArray ∧ TR (tbV e.tp e.cp e.tb) d y W z
  | 16 => u = .agg y.c.toArray
  | _ => u = .bool true
theorem p7_mb (e : Ev) (d : Nat) (x y : Ex) (i : Nat) (k : K) (W W' : World) (u : Value) (m : Mb W W') (h : p7 e d x y i k W u) : p7 e d x y i k W' u := by
  unfold p7 at h ⊢
  split at h
  all_goals first
    | exact h
    | (obtain ⟨y, h1, h2⟩ := h; exact ⟨y, h1, h2.mb m⟩)
theorem bt {k : K} {u : Value} (h : u = .bool true) : VX k (.bool true) u := by rw [h]; exact VX.of0 rfl
theorem btl {k : K} {u : Value} (h : u = .bool true) : VX k litT u := by rw [h]; exact VX.litT
theorem vy {k : K} {u : Value} {v : VL} (h : u = v.v) : VX k v.y u := by
  rw [h]; have := pur2_vx (k := k) (v := v.y) rfl; exact this
set_option maxHeartbeats 1000000 in
set_option maxRecDepth 20000 in
theorem same_n {d : Nat} {x : Ex} {e : Ev} (hu : XU d x) (w : World) (hL : LT w d x) (he : EvL w e) (hb : nds d x ≤ 1000000000) : Calls Tryz.prog 7 #[.agg x.c.toArray, e.v] w fun r W => r = .returned (.bool true) ∧ Mb w W := by
  refine fn_pure [.agg (x.c.map rel1).toArray, e.y] Tryz.func7 rfl rfl rfl (run_ok (st mo ?_))
  cases hf : decide (szX 60 x ≤ 2000) with
  | false =>
    refine ⟨_, fun nn => r_call (t := litF) rfl rfl Tryz.func10 (fun W M E => u_fits hf (hL.mono E)), st mo ?_⟩
    exact ⟨_, fun nn => r_call (t := litT) rfl rfl Tryz.func11 (fun W M E => u_live W), st mo rfl⟩
  | true =>
    refine ⟨_, fun nn => r_call (t := litT) rfl rfl Tryz.func10 (fun W M E => u_fits hf (hL.mono E)), su 3 mo ?_⟩
    refine ⟨_, fun nn => r_call (t := litT) rfl rfl Tryz.func11 (fun W M E => u_live W), su 3 mo ?_⟩
    show Rn _ _ _ _
    refine rxi 3 (st mo ⟨Ex, _, _, _, r_cx (tc := fun z => xY z) (loc_FY _ d x) [] (fun _ => []) [] rfl rfl (p_fold hu hb w hL he.tabs) (fitL_cons fv (fitL_cons fv rfl)) trivial (fun z => uv) (fun z => trivial) (fun z => rfl), fun y X2 hX2 hy => ?_⟩)
    have hyL : LT X2 d y := hy.1.lt
    have hyu : XU d y := hy.2.1
    have hye : ek d y = fdE (tbV e.tp e.cp e.tb) d x := hy.2.2
    obtain ⟨hfy, hny⟩ := fits_fd (tbV e.tp e.cp e.tb) he.tabs hL.dp hu hb hf hye
    have hey : evE e d y = evE e d x := by
      rw [← ev_ek e d y, hye]; exact fd_ev (e := tbV e.tp e.cp e.tb) (e' := e) rfl he.tabs he hL.dp hu
    have hff : fdE (tbV e.tp e.cp e.tb) d y = ek d y := by
      rw [← fd_ek, hye]; exact fd_fd _ he.tabs hL.dp hu
    refine ⟨(⟨37, [(2, q0 0), (3, q0 1), (17, xY y)]⟩, [(0, some (x.c.map rel1)), (1, some (e.cells.map rel1))], 2), [0, 1], ⟨rfl, ⟨fp, fp, fv, trivial⟩, ⟨fl rfl rfl, fl rfl rfl, trivial⟩, xf, rfl, rfl⟩, rfl, su 4 mo ?_⟩
    show Rn _ _ _ _
    refine rq mo (p7 e d x y) (p7_mb e d x y) ?_ ⟨37, [(4, .bool true)]⟩ rfl (fun k W a qn hpp => frl_get ⟨?_, trivial⟩) (st mo rfl)
    · intro i hi
      match i, hi with
      | 0, _ => exact Qs.base _ (xY y) (bit 2) rfl (fun _ _ _ _ _ => want_n rfl) (fun k W u hv => pur2_eq hv rfl) rfl
      | 1, _ =>
        refine Qs.call _ 10 rfl rfl Tryz.func10 (fun _ _ _ _ _ => want_n rfl) fun k W a qn qd => ?_
        have h0 : a.tmps.getD 18 undef = .agg y.c.toArray := qd.at 0 18
        show Calls Tryz.prog 10 #[a.tmps.getD 18 undef] W _
        rw [h0]
        exact (u_fits hfy (hyL.mono fun _ _ => qn.am.cell)).mono fun _ _ ⟨h1, h2⟩ => ⟨_, h1, h2, rfl⟩
      | 2, _ => exact Qs.symL _ [(19, .bool true)] (.bool true) 0 rfl (fun _ _ _ _ _ => want_n rfl) (fun k W a qn qd => ⟨bt (qd.at 1 19), trivial⟩) (fun nn => Oo.to (s_move (Or.inl rfl) rfl)) (fun k W u hv => hv.bool_inv)
      | 3, _ => exact Qs.base _ (xY y) (bit 2) rfl (fun _ _ _ _ qd => want_t 2 20 rfl rfl (qd.at 2 20)) (fun k W u hv => pur2_eq hv rfl) rfl
      | 4, _ => exact Qs.base _ e.y (bit 1) rfl (fun _ _ _ _ qd => want_t 2 20 rfl rfl (qd.at 2 20)) (fun k W u hv => pur2_eq hv rfl) rfl
      | 5, _ =>
        refine Qs.call _ 12 rfl rfl Tryz.func12 (fun _ _ _ _ qd => want_t 2 20 rfl rfl (qd.at 2 20)) fun k W a qn qd => ?_
        have h0 : a.tmps.getD 21 undef = .agg y.c.toArray := qd.at 3 21
        have h1 : a.tmps.getD 22 undef = e.v := qd.at 4 22
        show Calls Tryz.prog 12 #[a.tmps.getD 21 undef, a.tmps.getD 22 undef] W _
        rw [h0, h1]
        refine (f_Eval hyu W (hyL.mono fun _ _ => qn.am.cell) (he.mb ⟨qn.am.old, qn.am.dr⟩ fun a u hc => qn.am.cell (xce hX2 a u hc))).mono fun _ _ ⟨h1, h2⟩ => ⟨_, h1, h2, ?_⟩
        show (evE e d y).v = (evE e d x).v; rw [hey]
      | 6, _ => exact Qs.base _ (xY x) (bit 0) rfl (fun _ _ _ _ qd => want_t 2 20 rfl rfl (qd.at 2 20)) (fun k W u hv => pur2_eq hv rfl) rfl
      | 7, _ => exact Qs.base _ e.y (bit 1) rfl (fun _ _ _ _ qd => want_t 2 20 rfl rfl (qd.at 2 20)) (fun k W u hv => pur2_eq hv rfl) rfl
      | 8, _ =>
        refine Qs.call _ 12 rfl rfl Tryz.func12 (fun _ _ _ _ qd => want_t 2 20 rfl rfl (qd.at 2 20)) fun k W a qn qd => ?_
        have h0 : a.tmps.getD 24 undef = .agg x.c.toArray := qd.at 6 24
        have h1 : a.tmps.getD 25 undef = e.v := qd.at 7 25
        show Calls Tryz.prog 12 #[a.tmps.getD 24 undef, a.tmps.getD 25 undef] W _
        rw [h0, h1]
        exact (f_Eval hu W (hL.mono fun a u hc => qn.am.cell (xce hX2 a u hc)) (he.mb ⟨qn.am.old, qn.am.dr⟩ fun a u hc => qn.am.cell (xce hX2 a u hc))).mono fun _ _ ⟨h1, h2⟩ => ⟨_, h1, h2, rfl⟩
      | 9, _ => exact Qs.symL _ [(23, (evE e d x).y), (26, (evE e d x).y)] (.bool true) 0 rfl (fun _ _ _ _ qd => want_t 2 20 rfl rfl (qd.at 2 20)) (fun k W a qn qd => ⟨vy (qd.at 5 23), vy (qd.at 8 26), trivial⟩) (fun nn => r_eqS (evE e d x) rfl rfl rfl rfl rfl) (fun k W u hv => hv.bool_inv)
      | 10, _ => exact Qs.stp _ [(20, litT), (27, .bool true)] (.bool true) 0 rfl (fun _ _ _ _ _ => want_n rfl) (fun k W a qn qd => ⟨btl (qd.at 2 20), bt (qd.at 9 27), trivial⟩) (fun k W u hv => hv.bool_inv) rfl
      | 11, _ => exact Qs.symL _ [(28, .bool true)] (.bool true) 0 rfl (fun _ _ _ _ _ => want_n rfl) (fun k W a qn qd => ⟨bt (qd.at 10 28), trivial⟩) (fun nn => Oo.to (s_move (Or.inl rfl) rfl)) (fun k W u hv => hv.bool_inv)
      | 12, _ => exact Qs.base _ (xY y) (bit 2) rfl (fun _ _ _ _ qd => want_t 11 29 rfl rfl (qd.at 11 29)) (fun k W u hv => pur2_eq hv rfl) rfl
      | 13, _ => exact Qs.base _ (.pointer (some ⟨1, 2, none⟩)) 0 rfl (fun _ _ _ _ qd => want_t 11 29 rfl rfl (qd.at 11 29)) (fun k W u hv => hv) rfl
      | 14, _ =>
        exact Qs.stp _ [(31, .pointer (some ⟨1, 2, none⟩))] (raw (.slice e.tp e.tb.length e.cp)) (bit 1) rfl (fun _ _ _ _ qd => want_t 11 29 rfl rfl (qd.at 11 29)) (fun k W a qn qd => ⟨qd.at 13 31, trivial⟩) (fun k W u hv => pur2_eq hv rfl) rfl
      | 15, _ =>
        refine Qs.call _ 25 rfl rfl Tryz.func25 (fun _ _ _ _ qd => want_t 11 29 rfl rfl (qd.at 11 29)) fun k W a qn qd => ?_
        have h0 : a.tmps.getD 30 undef = .agg y.c.toArray := qd.at 12 30
        have h1 : a.tmps.getD 32 undef = .slice e.tp e.tb.length e.cp := qd.at 14 32
        show Calls Tryz.prog 25 #[a.tmps.getD 30 undef, a.tmps.getD 32 undef] W _
        rw [h0, h1]
        exact p_fold' hyu (Nat.le_trans hny hb) (hyL.mono fun _ _ => qn.am.cell) (he.tabs.tm fun a u hc => qn.am.cell (xce hX2 a u hc))
      | 16, _ => exact Qs.base _ (xY y) (bit 2) rfl (fun _ _ _ _ qd => want_t 11 29 rfl rfl (qd.at 11 29)) (fun k W u hv => pur2_eq hv rfl) rfl
      | 17, _ =>
        refine Qs.call _ 24 rfl rfl Tryz.func24 (fun _ _ _ _ qd => want_t 11 29 rfl rfl (qd.at 11 29)) fun k W a qn qd => ?_
        obtain ⟨z, h0, hz⟩ : ∃ z : Ex, a.tmps.getD 33 undef = .agg z.c.toArray ∧ TR (tbV e.tp e.cp e.tb) d y W z := qd.at 15 33
        have h1 : a.tmps.getD 34 undef = .agg y.c.toArray := qd.at 16 34
        show Calls Tryz.prog 24 #[a.tmps.getD 33 undef, a.tmps.getD 34 undef] W _
        rw [h0, h1]
        exact (same_t d z y W hz.u hz.l (hyL.mono fun _ _ => qn.am.cell) (hz.e.trans hff)).mono fun _ _ ⟨h1, h2⟩ => ⟨_, h1, h2, rfl⟩
      | 18, _ => exact Qs.stp _ [(29, litT), (35, .bool true)] (.bool true) 0 rfl (fun _ _ _ _ _ => want_n rfl) (fun k W a qn qd => ⟨btl (qd.at 11 29), bt (qd.at 17 35), trivial⟩) (fun k W u hv => hv.bool_inv) rfl
      | 19, _ => exact Qs.symL _ [(36, .bool true)] (.bool true) 0 rfl (fun _ _ _ _ _ => want_n rfl) (fun k W a qn qd => ⟨bt (qd.at 18 36), trivial⟩) (fun nn => Oo.to (s_move (Or.inr rfl) rfl)) (fun k W u hv => hv.bool_inv)
      | i + 20, hi => exact absurd hi (by show ¬ i + 20 < 20; omega)
    · exact bt (hpp 19 _ 4 rfl rfl)
end Go.Proofs.YtfmfeipeeedfpaaGreat
