/-
  Loads, stores, new blocks, slices, appends: each is what the run does.
-/
import Derived.Test.YtepfokoepibkcaaGreatEf
import Derived.Laws.MakeOwn
namespace Go.Proofs.YtepfokoepibkcaaGreat
namespace E
open Go.CheckFast (force force_eq)
section
variable {P : Program} {o : Oper} {fr : FT} {h : HT} {n : Nat} {x : R5}
theorem isRow_some {t : TypeId} {b : Bool} (e : isRow P t = some b) : ∃ d, P.underlying t = some d ∧ d.isRow = b := by
  unfold isRow at e
  split at e
  · rename_i hu; cases e; exact ⟨_, hu, rfl⟩
  · rename_i hu; cases e; exact ⟨_, hu, rfl⟩
  · rename_i d h1 h2 hu
    cases e
    refine ⟨d, hu, ?_⟩
    cases d <;> first | rfl | exact (h1 _ rfl).elim | exact (h2 _ _ rfl).elim
  · cases e
/-- What a load yields. -/
theorem ld_ok {t : TypeId} {b q : Nat} (e : oLd P t h n b q = some x) : x.h = h ∧ x.n = n ∧ x.r = bit b ∧ x.w = 0 ∧
    ∀ (k : K) (W : World) (b' z : Nat), HR k h W (bit b) → k b = some (b', z) → ∃ u, VX k x.v u ∧ (loadVar t ⟨b', q, none⟩).run P W = .ok u W := by
  obtain ⟨cs, hcs, e⟩ := bind_some e
  obtain ⟨row, hrow, e⟩ := bind_some e
  obtain ⟨d, hu, hd⟩ := isRow_some hrow
  have rep : ∀ (k : K) (W : World) (b' z : Nat), HR k h W (bit b) → k b = some (b', z) → ∃ us sp ty, W.heap[b']? = some (.cells (us ++ sp).toArray ty (0, 0)) ∧ LR (VX k) cs us := by
    intro k W b' z H hk
    obtain ⟨b2, us, sp, ty, e1, e2, e3⟩ := H.rep b (tb_bit.2 rfl) cs hcs
    rw [hk] at e1; cases e1
    exact ⟨us, sp, ty, e2, e3⟩
  cases row with
  | true =>
    obtain ⟨m, hm, e⟩ := bind_some (x := szOf P t) e
    obtain ⟨vs, hvs, e⟩ := bind_some e
    cases e
    refine ⟨rfl, rfl, rfl, rfl, fun k W b' z H hk => ?_⟩
    obtain ⟨us, sp, ty, e2, e3⟩ := rep k W b' z H hk
    obtain ⟨h1, h2⟩ := take'_some hvs
    rw [drop'_eq] at h1
    have h3 : LR (VX k) vs ((us.drop q).take m) := by rw [h1]; exact (e3.drop q).take m
    refine ⟨_, VX.agg h3, run_loadVar_mid W b' q t _ d (fun j v hv => ?_) hu hd ?_⟩
    · rw [cell_of e2, List.getElem?_append_left]
      · rw [List.getElem?_take] at hv
        split at hv
        · rw [List.getElem?_drop] at hv; exact hv
        · cases hv
      · rw [List.getElem?_take] at hv
        split at hv
        · rw [List.getElem?_drop] at hv; exact (List.getElem?_eq_some_iff.1 hv).1
        · cases hv
    · obtain ⟨i, hi, hs⟩ := szOf_info hm
      rw [hi]
      simp only [Option.map_some, Option.some.injEq]
      rw [hs, h3.len, h2]
  | false =>
    obtain ⟨v, hv, e⟩ := bind_some (x := nth q cs) e
    cases e
    refine ⟨rfl, rfl, rfl, rfl, fun k W b' z H hk => ?_⟩
    obtain ⟨us, sp, ty, e2, e3⟩ := rep k W b' z H hk
    rw [nth_get] at hv
    obtain ⟨u, h1, h2⟩ := e3.get hv
    refine ⟨u, h2, ?_⟩
    have hagg : (isAgg t).run P W = .ok false W := by
      unfold isAgg
      rw [Sem.run_bind, run_underlying hu W]
      cases d <;> simp_all
    have hc : W.cell? ⟨b', q, none⟩ = some u := by rw [cell_of e2, List.getElem?_append_left (List.getElem?_eq_some_iff.1 h1).1]; exact h1
    simp [loadVar, Sem.run_bind, hagg, hc]
theorem s_load {t : TypeId} {y : Operand} (ho : o.op = .load t y) (e : oLoad P t y fr h n = some x) : Oo P o fr h n x := by
  obtain ⟨b, q, hv, e⟩ := onP_some e
  obtain ⟨v, hh, nn, r, w⟩ := x
  obtain ⟨h1, h2, h3, h4, h5⟩ := ld_ok e
  simp only at h1 h2 h3 h4 h5
  subst h1 h2 h3 h4
  refine ⟨Ss.read _ _ _, fun k W a K' Q hop H _ hk => ?_⟩
  have h6 := hop y (by simp [ho, Op.operands])
  rw [hv] at h6
  obtain ⟨_, b', z, hkb, h7⟩ := h6.ptr_inv
  obtain ⟨u, h8, h9⟩ := h5 k W b' z H hkb
  unfold Oper.wp
  have : (execOp a.eval o).run P W = .ok (.value u) W := by simp [execOp, ho, h7, Instr.loadAt, Instr.sureAddr, h9]
  rw [this, Oper.upon_value]
  exact hk u W k (Sd.read H) h8
theorem s_store {t : TypeId} {y z : Operand} (ho : o.op = .store t y z) (nn : ∀ i, n ≤ i → hget h i = none) (e : oStore P t y z fr h n = some x) : Oo P o fr h n x := by
  obtain ⟨b, q, hv, e⟩ := onP_some e
  obtain ⟨cs, hcs, e⟩ := bind_some e
  obtain ⟨m, hm, e⟩ := bind_some e
  obtain ⟨hc, e⟩ := bif_some e
  simp only [Bool.and_eq_true, Nat.beq_eq] at hc
  obtain ⟨cs', hov, e⟩ := bind_some e
  cases e
  obtain ⟨h1, h2⟩ := over_some hov
  have hb := hget_lt hcs
  refine ⟨Ss.write nn hb hcs, fun k W a K' Q hop H _ hk => ?_⟩
  have h6 := hop y (by simp [ho, Op.operands])
  have h6' := hop z (by simp [ho, Op.operands])
  rw [hv] at h6
  obtain ⟨_, b', zz, hkb, h7⟩ := h6.ptr_inv
  obtain ⟨b2, us, sp, ty, e1, e2, e3⟩ := H.rep b (tb_bit.2 rfl) cs hcs
  have hbb : b2 = b' ∧ us.length + sp.length = zz := by
    have hkb' : k b = some (b', zz) := hkb
    rw [hkb'] at e1; cases e1; exact ⟨rfl, rfl⟩
  obtain ⟨rfl, hzz⟩ := hbb
  obtain ⟨r1, r2⟩ := cells_rel h6' hc.2
  have hlen := r1.len
  have hus := e3.len
  have hfit : q + (a.eval z).cells.toList.length ≤ us.length := by rw [hlen, hus]; exact h2
  have hst := run_storeCells_cells (P := P) b2 q (a.eval z).cells.toList 0 W (fun j hj => by
      rw [cell_of e2, List.getElem?_append_left (by omega), List.getElem?_eq_getElem (by omega)]; rfl) (fun j hj => fz_of e2 _) r2
  simp only [Nat.add_zero] at hst
  obtain ⟨i, hi, hs⟩ := szOf_info hm
  have hsz : (a.eval z).cells.size = i.size := by rw [hs, ← hc.1, ← hlen]; simp
  have hrun : (execOp a.eval o).run P W = .ok .skip (W.setCells b2 q (a.eval z).cells.toList) := by
    simp [execOp, ho, h7, Instr.storeAt, Instr.sureAddr, storeVar, sizeOf, typeInfo, hi, hsz, hst]
  unfold Oper.wp
  rw [hrun, Oper.upon_skip]
  have hset := heap_setCells (b := b2) (ty := ty) (a.eval z).cells.toList q W (us ++ sp) e2 (by simp; omega)
  have hshape : (us ++ sp).take q ++ (a.eval z).cells.toList ++ (us ++ sp).drop (q + (a.eval z).cells.toList.length) = (us.take q ++ (a.eval z).cells.toList ++ us.drop (q + (a.eval z).cells.toList.length)) ++ sp := by
    rw [List.take_append_of_le_length (by omega), List.drop_append_of_le_length hfit]
    simp
  rw [hshape] at hset
  refine hk undef _ k (Sd.write hb hcs hkb hset ?_ ?_ (fun c hc _ => heap_setCells_other hc _ _) ?_ (rest_setCells _ _ _ _).1 (rest_setCells _ _ _ _).2.1 (rest_setCells _ _ _ _).2.2 (fun a => World.frozen?_setCells _ _ _ _ _)) undef_vx
  · rw [← hzz]
    simp
    omega
  · rw [h1, ← hlen]
    exact ((e3.take q).app r1).app (e3.drop _)
  · rw [size_setCells]; exact Nat.le_refl _
/-- A block more: what the run does. -/
theorem alloc_ok {h' : HT} {r w : Nat} {cs us sp : List Value} {v : Value} {ty : TypeId} {k : K} {W W' : World} (hn4 : n < 4096) (nn : ∀ i, n ≤ i → hget h i = none) (hcs : hget h' n = some cs) (hwn : tb w n)
    (hd : ∀ i, i ≠ n → hget h' i = hget h i ∨ (tb w i ∧ hget h' i = none)) (hw : ∀ i, tb w i → i = n ∨ (tb r i ∧ i < n)) (hk : k n = none) (H : HR k h W r) (hl : LR (VX k) cs us)
    (hW : W'.heap = W.heap.push (.cells (us ++ sp).toArray ty (0, 0))) (h1 : W'.os = W.os) (h2 : W'.tape = W.tape) (h3 : W'.output = W.output) :
    Sd h n h' (n + 1) r w k W (upk k n W.heap.size (us.length + sp.length)) W' := by
  have _ := hn4; have _ := hwn; have _ := v
  refine Sd.new (ty := ty) nn hcs hd hw hk H (Or.inl (Nat.le_refl _)) (by rw [hW]; simp) hl (fun b _ hb => by rw [hW, Array.getElem?_push, if_neg (by omega)]) (by rw [hW]; simp) h1 h2 h3 (fun a => ?_)
  unfold World.frozen?
  rw [hW, Array.getElem?_push]
  by_cases e : a.block = W.heap.size
  · rw [if_pos e, e]
    simp
  · rw [if_neg e]
theorem oNew_some {v : Value} {cs : List Value} {r w : Nat} {g : HT} (e : oNew g n v cs r w = some x) : n < 4096 ∧ x = ⟨v, hs12 g n (some cs), n + 1, r, Nat.lor w (bit n)⟩ := by
  obtain ⟨h1, e⟩ := bif_some e
  rw [Nat.blt_eq] at h1
  cases e
  exact ⟨h1, rfl⟩
theorem tb_n {w n : Nat} : tb (Nat.lor w (bit n)) n := tb_or.2 (Or.inr (tb_bit.2 rfl))
theorem tb_0n {n i : Nat} (h : tb (Nat.lor 0 (bit n)) i) : i = n := by
  rcases tb_or.1 h with h | h
  · exact absurd h tb_zero
  · exact (tb_bit.1 h).symm
/-- A block more, nothing let go. -/
theorem new_ok {v : Value} {cs : List Value} {r : Nat} (nn : ∀ i, n ≤ i → hget h i = none) (e : oNew h n v cs r 0 = some x)
    (hr : ∀ (k : K) (W : World) (a : Act), (∀ y ∈ o.op.operands.toList, VX k (evo fr y) (a.eval y)) → HR k h W r → ∃ us sp ty u W', LR (VX k) cs us ∧ (execOp a.eval o).run P W = .ok (.value u) W' ∧ W'.heap = W.heap.push (.cells (us ++ sp).toArray ty (0, 0)) ∧ W'.os = W.os ∧ W'.tape = W.tape ∧ W'.output = W.output ∧
      ∀ k' : K, (∀ i p, k i = some p → k' i = some p) → k' n = some (W.heap.size, us.length + sp.length) → VX k' v u) : Oo P o fr h n x := by
  obtain ⟨hn, rfl⟩ := oNew_some e
  have hcs : hget (hs12 h n (some cs)) n = some cs := hget_same _ hn
  have hd : ∀ i, i ≠ n → hget (hs12 h n (some cs)) i = hget h i ∨ (tb (Nat.lor 0 (bit n)) i ∧ hget (hs12 h n (some cs)) i = none) := fun i hi => Or.inl (hget_ne _ hn (Ne.symm hi))
  have hw : ∀ i, tb (Nat.lor 0 (bit n)) i → i = n ∨ (tb r i ∧ i < n) := fun i hi => Or.inl (tb_0n hi)
  refine ⟨Ss.new tb_n hd hw, fun k W a K' Q hop H hnew hk => ?_⟩
  have hkn : k n = none := hnew n (Nat.le_refl _) (Nat.lt_succ_self _)
  obtain ⟨us, sp, ty, u, W', h1, h2, h3, h4, h5, h6, h7⟩ := hr k W a hop H
  have d := alloc_ok (v := v) hn nn hcs tb_n hd hw hkn H h1 h3 h4 h5 h6
  unfold Oper.wp
  rw [h2, Oper.upon_value]
  exact hk u W' _ d (h7 _ d.ext (if_pos rfl))
theorem s_alloc {t : TypeId} (ho : o.op = .alloc t) (nn : ∀ i, n ≤ i → hget h i = none) (e : oAlloc P t fr h n = some x) : Oo P o fr h n x := by
  obtain ⟨z, hz, e⟩ := bind_some e
  obtain ⟨hzo, e⟩ := bif_some e
  obtain ⟨i, hi, hzi⟩ := zeroOf_info hz
  refine new_ok nn e fun k W a _ _ => ⟨z.cells.toList, [], t, .pointer (some ⟨W.heap.size, 0, none⟩), W.alloc (.cells z.cells t), zok_rel hzo, ?_, by show W.heap.push _ = _; simp, rfl, rfl, rfl, fun k' _ hk' => VX.of0 ⟨rfl, _, _, hk', rfl⟩⟩
  simp [execOp, ho, Instr.alloc, zeroValue, typeInfo, hi, hzi, newVar, newRow]
theorem s_box {t : TypeId} {y : Operand} (ho : o.op = .box t y) (nn : ∀ i, n ≤ i → hget h i = none) (e : oBox y fr h n = some x) : Oo P o fr h n x := by
  obtain ⟨hone, e⟩ := bif_some e
  refine new_ok nn e fun k W a hop _ => ?_
  have h1 := hop y (by simp [ho, Op.operands])
  refine ⟨(a.eval y).cells.toList, [], t, .pointer (some ⟨W.heap.size, 0, none⟩), W.alloc (.cells (a.eval y).cells t), (cells_rel h1 hone).1, ?_, by show W.heap.push _ = _; simp, rfl, rfl, rfl, fun k' _ hk' => VX.of0 ⟨rfl, _, _, hk', rfl⟩⟩
  simp [execOp, ho, Instr.box, newVar, newRow]
/-! Parts laid over cells. -/
theorem fold_over (off : Nat) (l : List Value) (cs : List Value) (hl : off + l.length ≤ cs.length) :
    (l.toArray.zipIdx.foldl (fun cs (x : Value × Nat) => cs.setIfInBounds (off + x.2) x.1) cs.toArray) = (cs.take off ++ l ++ cs.drop (off + l.length)).toArray := by
  have e : l.toArray.zipIdx.foldl (fun cs (x : Value × Nat) => cs.setIfInBounds (off + x.2) x.1) cs.toArray = (l.zipIdx 0).foldl (fun cs (x : Value × Nat) => cs.setIfInBounds (off + x.2) x.1) cs.toArray := by
    rw [← Array.foldl_toList]; simp
  rw [e]
  obtain ⟨h1, h2⟩ := Go.Great.foldl_set off l 0 cs.toArray
  apply Array.ext_getElem?
  intro k
  rw [h2 k]
  simp only [Nat.add_zero, List.size_toArray, List.getElem?_toArray]
  by_cases a : k < off
  · rw [if_neg (by omega), List.append_assoc, List.getElem?_append_left (by simp; omega), List.getElem?_take_of_lt a]
  · by_cases b : k < off + l.length
    · rw [if_pos (by omega), List.append_assoc, List.getElem?_append_right (by simp; omega), List.getElem?_append_left (by simp; omega)]
      congr 1
      simp; omega
    · rw [if_neg (by omega), List.getElem?_append_right (by simp; omega), List.getElem?_drop]
      congr 1
      simp; omega
theorem fill_rel {k : K} {place : Nat → Option (Nat × Nat)} : ∀ (ps qs : List (Nat × Value)) (cs us r : List Value), LR (VX k) cs us → (∀ i : Nat, (ps[i]?).map Prod.fst = (qs[i]?).map Prod.fst) → LR (VX k) (ps.map Prod.snd) (qs.map Prod.snd) → fillL place ps cs = some r →
    ∃ r', Instr.fill place us.toArray qs = some r'.toArray ∧ LR (VX k) r r'
  | [], qs, cs, us, r, h1, _, h3, e => by
    cases e
    have : qs = [] := by cases qs with
      | nil => rfl
      | cons q qs => cases h3
    subst this
    exact ⟨us, rfl, h1⟩
  | p :: ps, qs, cs, us, r, h1, h2, h3, e => by
    cases qs with
    | nil => obtain ⟨_, _, e', _⟩ := h3; cases e'
    | cons q qs =>
      obtain ⟨y, ys, e', h4, h5⟩ := h3
      simp only [List.map_cons, List.cons.injEq] at e'
      obtain ⟨rfl, rfl⟩ := e'
      have h6 : p.1 = q.1 := by have := h2 0; simpa using this
      simp only [fillL] at e
      cases hp : place p.1 with
      | none => rw [hp] at e; cases e
      | some pl =>
        rw [hp] at e
        obtain ⟨hc, e⟩ := bif_some e
        simp only [Bool.and_eq_true, Nat.beq_eq] at hc
        obtain ⟨cs2, ho, e⟩ := bind_some e
        obtain ⟨o1, o2⟩ := over_some ho
        obtain ⟨r1, r2⟩ := cells_rel h4 hc.2
        have l1 := r1.len
        have l2 := h1.len
        obtain ⟨r', f1, f2⟩ := fill_rel ps qs cs2 (us.take pl.1 ++ q.2.cells.toList ++ us.drop (pl.1 + q.2.cells.toList.length)) r (by
          rw [o1, ← l1]
          exact ((h1.take _).app r1).app (h1.drop _)) (fun i => by have := h2 (i + 1); simpa using this) h5 e
        refine ⟨r', ?_, f2⟩
        obtain ⟨qi, qv⟩ := q
        simp only at h6 l1 r1 f1
        simp only [Instr.fill]
        rw [← h6, hp]
        obtain ⟨off, sz⟩ := pl
        simp only at hc o2 f1 ⊢
        have hs : qv.cells.size = sz := by rw [← hc.1, ← l1]; simp
        have hfit : off + qv.cells.size ≤ us.length := by rw [hs, l2]; omega
        rw [if_neg (by simp [hs]; omega)]
        have := fold_over off qv.cells.toList us (by simpa using hfit)
        simp only [Array.toArray_toList] at this
        rw [this]
        exact f1
theorem evp_rel {k : K} {a : Act} : ∀ l : List (Nat × Operand), (∀ y ∈ l, VX k (evo fr y.2) (a.eval y.2)) → LR (VX k) ((evp fr l).map Prod.snd) ((l.map fun p => (p.1, a.eval p.2)).map Prod.snd) ∧ ∀ i : Nat, ((evp fr l)[i]?).map Prod.fst = ((l.map fun p => (p.1, a.eval p.2))[i]?).map Prod.fst
  | [], _ => ⟨rfl, fun _ => rfl⟩
  | p :: l, hl => by
    obtain ⟨h1, h2⟩ := evp_rel l (fun y hy => hl y (by simp [hy]))
    refine ⟨⟨_, _, rfl, hl p (by simp), h1⟩, fun i => ?_⟩
    cases i with
    | zero => simp [evp]
    | succ i => simpa [evp] using h2 i
theorem parts_list (parts : Array (Nat × Operand)) (a : Act) : (parts.map fun (x : Nat × Operand) => (x.1, a.eval x.2)).toList = parts.toList.map fun p => (p.1, a.eval p.2) := by simp
theorem fplaces_some : ∀ {fs : List Field} {l : List (Nat × Nat)}, fplaces P fs = some l → fs.mapM (fun f => (P.info? f.type).map fun i => (f.offset, i.size)) = some l
  | [], l, e => by cases e; rfl
  | f :: fs, l, e => by
    simp only [fplaces] at e
    cases hs : szOf P f.type with
    | none => rw [hs] at e; cases e
    | some m =>
      rw [hs] at e
      cases hr : fplaces P fs with
      | none => rw [hr] at e; cases e
      | some l' =>
        rw [hr] at e
        cases e
        obtain ⟨i, hi, hsz⟩ := szOf_info hs
        simp [List.mapM_cons, hi, hsz, fplaces_some hr]
theorem s_build {t : TypeId} {parts : Array (Nat × Operand)} (ho : o.op = .build t parts) (e : oBuild P t parts fr h n = some x) : Oo P o fr h n x := by
  obtain ⟨z, hz, e⟩ := bind_some e
  obtain ⟨hzo, e⟩ := bif_some e
  obtain ⟨i, hi, hzi⟩ := zeroOf_info hz
  have hopp : ∀ (k : K) (a : Act), (∀ y ∈ o.op.operands.toList, VX k (evo fr y) (a.eval y)) → ∀ y ∈ parts.toList, VX k (evo fr y.2) (a.eval y.2) := fun k a hop y hy => hop y.2 (by rw [ho]; simp only [Op.operands]; simpa using ⟨y.1, by simpa using hy⟩)
  split at e
  · rename_i fs hu
    obtain ⟨pl, hpl, e⟩ := bind_some e
    obtain ⟨cs, hcs, e⟩ := bind_some e
    refine Oo.val e fun k W a hop => ?_
    obtain ⟨r1, r2⟩ := evp_rel (k := k) (a := a) parts.toList (hopp k a hop)
    obtain ⟨us, h1, h2⟩ := fill_rel _ _ _ _ _ (zok_rel hzo) r2 r1 hcs
    refine ⟨_, VX.agg h2, ?_⟩
    rw [← parts_list] at h1
    have hb : P.built t (parts.map fun (x : Nat × Operand) => (x.1, a.eval x.2)).toList = some us.toArray := by
      unfold Program.built
      rw [hi, hu]
      simp only [hzi, fplaces_some hpl]
      simpa using h1
    have := run_build W t _ _ hb
    simp only [execOp, ho]
    rw [Sem.run_bind, this]
    rfl
  · rename_i m e' hu
    obtain ⟨sz, hsz, e⟩ := bind_some e
    obtain ⟨cs, hcs, e⟩ := bind_some e
    refine Oo.val e fun k W a hop => ?_
    obtain ⟨r1, r2⟩ := evp_rel (k := k) (a := a) parts.toList (hopp k a hop)
    obtain ⟨us, h1, h2⟩ := fill_rel _ _ _ _ _ (zok_rel hzo) r2 r1 hcs
    refine ⟨_, VX.agg h2, ?_⟩
    rw [← parts_list] at h1
    obtain ⟨ie, hie, hse⟩ := szOf_info hsz
    have hb : P.built t (parts.map fun (x : Nat × Operand) => (x.1, a.eval x.2)).toList = some us.toArray := by
      unfold Program.built
      rw [hi, hu]
      simp only [hzi, hie, hse]
      simpa using h1
    have := run_build W t _ _ hb
    simp only [execOp, ho]
    rw [Sem.run_bind, this]
    rfl
  · cases e
theorem times_len (z : List Value) : ∀ n, (times n z).length = n * z.length
  | 0 => by simp [times]
  | n + 1 => by simp [times, times_len z n, Nat.add_mul, Nat.add_comm]
theorem times_get (z : List Value) : ∀ (n i : Nat), i < n * z.length → (times n z)[i]? = z[i % z.length]?
  | 0, i, h => by simp at h
  | n + 1, i, h => by
    simp only [times]
    by_cases hi : i < z.length
    · rw [List.getElem?_append_left hi, Nat.mod_eq_of_lt hi]
    · have h1 : (n + 1) * z.length = n * z.length + z.length := Nat.succ_mul _ _
      have h2 : i % z.length = (i - z.length) % z.length := Nat.mod_eq_sub_mod (by omega)
      rw [List.getElem?_append_right (by omega), times_get z n (i - z.length) (by omega), h2]
theorem times_rel {k : K} {z : List Value} (h : LR (VX k) z z) : ∀ n, LR (VX k) (times n z) (times n z)
  | 0 => rfl
  | n + 1 => h.app (times_rel h n)
theorem times_arr {z : Value} {len n : Nat} (hz : z.cells.toList.length = n) (hn : 0 < n) : (Array.range (len * n)).map (z.cells[· % z.cells.size]!) = (times len z.cells.toList).toArray := by
  have hz' : z.cells.size = n := by rw [← hz]; simp
  apply Array.ext_getElem?
  intro i
  simp only [Array.getElem?_map, List.getElem?_toArray]
  by_cases hi : i < len * n
  · rw [times_get _ _ _ (by rw [hz]; exact hi), hz]
    have : i % n < z.cells.size := by rw [hz']; exact Nat.mod_lt _ hn
    simp only [Array.getElem?_range, hi, if_true, Option.map_some, hz']
    rw [getElem!_pos z.cells (i % n) this, Array.getElem?_toList, getElem?_pos z.cells (i % n) this]
  · have : (times len z.cells.toList).length ≤ i := by rw [times_len, hz]; omega
    rw [List.getElem?_eq_none this]
    simp [hi]
theorem s_buildS {t : TypeId} {len : Nat} {parts : Array (Nat × Operand)} (ho : o.op = .buildSlice t len parts) (nn : ∀ i, n ≤ i → hget h i = none) (e : oBuildS P t len parts fr h n = some x) : Oo P o fr h n x := by
  unfold oBuildS at e
  split at e
  · rename_i e' hu
    obtain ⟨sz, hsz, e⟩ := bind_some e
    obtain ⟨z, hz, e⟩ := bind_some e
    obtain ⟨hc, e⟩ := bif_some e
    simp only [Bool.and_eq_true, Nat.beq_eq, Nat.blt_eq, Nat.ble_eq] at hc
    obtain ⟨⟨⟨⟨c1, c2⟩, c3⟩, c4⟩, c5⟩ := hc
    obtain ⟨cs, hcs, e⟩ := bind_some e
    obtain ⟨ie, hie, hse⟩ := szOf_info hsz
    obtain ⟨ie', hie', hzi⟩ := zeroOf_info hz
    rw [hie] at hie'; cases hie'
    refine new_ok nn e fun k W a hop _ => ?_
    have hopp : ∀ y ∈ parts.toList, VX k (evo fr y.2) (a.eval y.2) := fun y hy => hop y.2 (by rw [ho]; simp only [Op.operands]; simpa using ⟨y.1, by simpa using hy⟩)
    obtain ⟨r1, r2⟩ := evp_rel (k := k) (a := a) parts.toList hopp
    obtain ⟨us, h1, h2⟩ := fill_rel _ _ _ _ _ (times_rel (zok_rel c5) len) r2 r1 hcs
    rw [← parts_list, ← times_arr c2 c3] at h1
    have hlen : us.length = len * sz := by
      rw [h2.len]
      have : ∀ (ps : List (Nat × Value)) (cs r : List Value), fillL (fun i => some (i * sz, sz)) ps cs = some r → r.length = cs.length := by
        intro ps
        induction ps with
        | nil => intro cs r e; cases e; rfl
        | cons p ps ih =>
          intro cs r e
          simp only [fillL] at e
          obtain ⟨_, e⟩ := bif_some e
          obtain ⟨c2, h5, e⟩ := bind_some e
          obtain ⟨h6, h7⟩ := over_some h5
          rw [ih _ _ e, h6]
          simp only [List.length_append, List.length_take, List.length_drop]
          omega
      rw [this _ _ _ hcs, times_len, c2]
    have hrun := run_buildSlice W t e' len (parts.map fun (x : Nat × Operand) => (x.1, a.eval x.2)) us.toArray ie z hu hie hzi (by rw [hse]; omega) (by rw [hse]; intro h0; rcases Nat.mul_eq_zero.1 h0 with h0 | h0 <;> omega) (by rw [hse]; exact h1)
    refine ⟨us, [], e', .slice (some ⟨W.heap.size, 0, none⟩) len len, W.alloc (.cells us.toArray e'), h2, ?_, by show W.heap.push _ = _; simp, rfl, rfl, rfl, fun k' _ hk' => VX.of0 ⟨rfl, _, _, _, hk', rfl, Nat.le_refl _, by simp [hlen]⟩⟩
    simp only [execOp, ho]
    rw [Sem.run_bind, hrun]
    rfl
  · cases e
theorem s_make {t : TypeId} {l c : Operand} (ho : o.op = .makeSlice t l c) (nn : ∀ i, n ≤ i → hget h i = none) (e : oMake P t l c fr h n = some x) : Oo P o fr h n x := by
  unfold oMake oMkS at e
  split at e
  · rename_i e' hu
    obtain ⟨sz, hsz, e⟩ := bind_some e
    obtain ⟨z, hz, e⟩ := bind_some e
    obtain ⟨by', hby, e⟩ := bind_some e
    obtain ⟨kl, il, hl, e⟩ := onI_some e
    obtain ⟨kc, ic, hc, e⟩ := onI_some e
    obtain ⟨a', ha, e⟩ := bind_some e
    obtain ⟨b', hb, e⟩ := bind_some e
    obtain ⟨hcc, e9⟩ := bif_some e
    simp only [Bool.and_eq_true, Nat.beq_eq, Nat.blt_eq, Nat.ble_eq] at hcc
    obtain ⟨⟨⟨⟨c1, c2⟩, c3⟩, c4⟩, c5⟩ := hcc
    obtain ⟨i1, i2⟩ := idx_some ha
    obtain ⟨j1, j2⟩ := idx_some hb
    subst c1
    obtain ⟨ie, hie, hse⟩ := szOf_info hsz
    obtain ⟨ie', hie', hzi⟩ := zeroOf_info hz
    rw [hie] at hie'; cases hie'
    rw [hie] at hby
    simp only [Option.map_some, Option.some.injEq] at hby
    refine new_ok nn e9 fun k W a hop _ => ?_
    have h1 := hop l (by simp [ho, Op.operands])
    have h2 := hop c (by simp [ho, Op.operands])
    rw [hl] at h1; rw [hc] at h2
    have h3 := h1.int_inv
    have h4 := h2.int_inv
    rw [i1] at h3; rw [j1] at h4
    refine ⟨times a' z.cells.toList, [], e', .slice (some ⟨W.heap.size, 0, none⟩) a' a', W.alloc (.cells (times a' z.cells.toList).toArray e'), times_rel (zok_rel c5) _, ?_, by show W.heap.push _ = _; simp, rfl, rfl, rfl, fun k' _ hk' => VX.of0 ⟨rfl, _, _, _, hk', rfl, Nat.le_refl _, by simp [times_len, c3]⟩⟩
    have hb1 : (ie.bytes : Int) * (a' : Int) ≤ 281474976710656 := by
      have : ie.bytes * a' ≤ 1000 * 1000 := Nat.mul_le_mul (by omega) (by omega)
      have h5 : ((ie.bytes * a' : Nat) : Int) ≤ 1000000 := by omega
      rw [Int.natCast_mul] at h5
      omega
    have hrun := run_make (P := P) W t e' ie z hu hie hzi kl kc (a' : Int) (a' : Int) (by omega) (Int.le_refl _) hb1 (by omega)
    have hcells : madeCells z.cells (a' * ie.size) = (times a' z.cells.toList).toArray := by
      rw [hse]; exact times_arr c3 c4
    simp only [execOp, ho, h3, h4]
    rw [Sem.run_bind, hrun]
    simp [hcells]
  · cases e
end
end E
end Go.Proofs.YtepfokoepibkcaaGreat
