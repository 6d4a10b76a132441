/-
  Loads, stores, new blocks, slices, appends: each is what the run does. Appends, bytes as a text, calls; every operation.
-/
import Derived.Test.YtfmfeipeeedfpaaGreatKb
import Derived.Laws.MakeOwn
import Derived.MapKept
namespace Go.Proofs.YtfmfeipeeedfpaaGreat
namespace E
open Go.CheckFast (force force_eq)
section
variable {P : Program} {o : Oper} {fr : FT} {h : HT} {n : Nat} {x : R5}
theorem isRow_some {t : TypeId} {b : Bool} (e : isRow P t = some b) : ∃ d, P.underlying t = some d ∧ d.isRow = b := by
  unfold isRow at e
  split at e
  · rename_i hu; cases e; exact ⟨_, hu, rfl⟩
  · rename_i hu; cases e; exact ⟨_, hu, rfl⟩
  · rename_i d h1 h2 hu
    cases e
    refine ⟨d, hu, ?_⟩
    cases d <;> first | rfl | exact (h1 _ rfl).elim | exact (h2 _ _ rfl).elim
  · cases e
/-- What a load yields. -/
theorem ld_ok {t : TypeId} {b q : Nat} (e : oLd P t h n b q = some x) : x.h = h ∧ x.n = n ∧ x.r = bit b ∧ x.w = 0 ∧
    ∀ (k : K) (W : World) (b' z : Nat), HR k h W (bit b) → k b = some (b', z + 1) → ∃ u, VX k x.v u ∧ (loadVar t ⟨b', q, none⟩).run P W = .ok u W := by
  obtain ⟨cs, hcs, e⟩ := bind_some e
  obtain ⟨row, hrow, e⟩ := bind_some e
  obtain ⟨d, hu, hd⟩ := isRow_some hrow
  have rep : ∀ (k : K) (W : World) (b' z : Nat), HR k h W (bit b) → k b = some (b', z + 1) → ∃ us sp ty, W.heap[b']? = some (.cells (us ++ sp).toArray ty (0, 0)) ∧ LR (VX k) cs us := by
    intro k W b' z H hk
    obtain ⟨b2, us, sp, ty, e1, e2, e3⟩ := (H.rep b (tb_bit.2 rfl) cs hcs).cel hk
    rw [hk] at e1; cases e1
    exact ⟨us, sp, ty, e2, e3⟩
  cases row with
  | true =>
    obtain ⟨m, hm, e⟩ := bind_some (x := szOf P t) e
    obtain ⟨vs, hvs, e⟩ := bind_some e
    cases e
    refine ⟨rfl, rfl, rfl, rfl, fun k W b' z H hk => ?_⟩
    obtain ⟨us, sp, ty, e2, e3⟩ := rep k W b' z H hk
    obtain ⟨h1, h2⟩ := take'_some hvs
    rw [drop'_eq] at h1
    have h3 : LR (VX k) vs ((us.drop q).take m) := by rw [h1]; exact (e3.drop q).take m
    refine ⟨_, VX.agg h3, run_loadVar_mid W b' q t _ d (fun j v hv => ?_) hu hd ?_⟩
    · rw [cell_of e2, List.getElem?_append_left]
      · rw [List.getElem?_take] at hv
        split at hv
        · rw [List.getElem?_drop] at hv; exact hv
        · cases hv
      · rw [List.getElem?_take] at hv
        split at hv
        · rw [List.getElem?_drop] at hv; exact (List.getElem?_eq_some_iff.1 hv).1
        · cases hv
    · obtain ⟨i, hi, hs⟩ := szOf_info hm
      rw [hi]
      simp only [Option.map_some, Option.some.injEq]
      rw [hs, h3.len, h2]
  | false =>
    obtain ⟨v, hv, e⟩ := bind_some (x := nth q cs) e
    cases e
    refine ⟨rfl, rfl, rfl, rfl, fun k W b' z H hk => ?_⟩
    obtain ⟨us, sp, ty, e2, e3⟩ := rep k W b' z H hk
    rw [nth_get] at hv
    obtain ⟨u, h1, h2⟩ := e3.get hv
    refine ⟨u, h2, ?_⟩
    have hagg : (isAgg t).run P W = .ok false W := by
      unfold isAgg
      rw [Sem.run_bind, run_underlying hu W]
      cases d <;> simp_all
    have hc : W.cell? ⟨b', q, none⟩ = some u := by rw [cell_of e2, List.getElem?_append_left (List.getElem?_eq_some_iff.1 h1).1]; exact h1
    simp [loadVar, Sem.run_bind, hagg, hc]
theorem onA_some {α : Type} {v : Value} {f : List Value → Option α} {y : α} (e : onA v f = some y) : ∃ cs : Array Value, v = .agg cs ∧ f cs.toList = some y := by
  unfold onA at e
  split at e
  · exact ⟨_, rfl, e⟩
  · cases e
theorem part_ok {t : TypeId} {cs : List Value} {off : Nat} {v : Value} (e : oPart P t cs off = some v) {k : K} {us : List Value} (hl : LR (VX k) cs us) (W : World) : ∃ u, VX k v u ∧ (part t us.toArray off).run P W = .ok u W := by
  unfold oPart at e
  obtain ⟨row, hrow, e⟩ := bind_some e
  obtain ⟨d, hu, hd⟩ := isRow_some hrow
  have hagg : (isAgg t).run P W = .ok row W := by
    unfold isAgg
    rw [Sem.run_bind, run_underlying hu W]
    subst hd
    cases d <;> rfl
  cases row with
  | true =>
    obtain ⟨m, hm, e⟩ := bind_some (x := szOf P t) e
    obtain ⟨vs, hvs, e⟩ := bind_some e
    cases e
    obtain ⟨h1, h2⟩ := take'_some hvs
    rw [drop'_eq] at h1
    have h3 : LR (VX k) vs ((us.drop off).take m) := by rw [h1]; exact (hl.drop off).take m
    obtain ⟨i, hi, hs⟩ := szOf_info hm
    refine ⟨_, VX.agg h3, ?_⟩
    simp [part, Sem.run_bind, hagg, sizeOf, typeInfo, hi, hs]
  | false =>
    have e : nth off cs = some v := e
    rw [nth_get] at e
    obtain ⟨u, h1, h2⟩ := hl.get e
    refine ⟨u, h2, ?_⟩
    have h3 : us.toArray[off]? = some u := by simpa using h1
    simp only [part, Sem.run_bind, hagg, Result.andThen_ok, h3]
    rfl
theorem s_indV {t : TypeId} {y ix : Operand} (ho : o.op = .index t y ix) (e : oIndV P t y ix fr h n = some x) : Oo P o fr h n x := by
  unfold oIndV at e
  split at e
  · rename_i len e' hu
    obtain ⟨cs, hv, e⟩ := onA_some e
    obtain ⟨ki, i, hi, e⟩ := onI_some e
    obtain ⟨j, hj, e⟩ := bind_some e
    obtain ⟨m, hm, e⟩ := bind_some e
    obtain ⟨v, hp, e⟩ := bind_some e
    obtain ⟨hj1, hj2⟩ := idx_some hj
    refine Oo.val e fun k W a hop => ?_
    have h2 := hop y (by simp [ho, Op.operands])
    have h2' := hop ix (by simp [ho, Op.operands])
    rw [hv] at h2; rw [hi] at h2'
    obtain ⟨us, h3, h5⟩ := h2.agg_inv
    have h4 := h2'.int_inv
    obtain ⟨u, h6, h7⟩ := part_ok hp h5 W
    obtain ⟨inf, hinf, hsz⟩ := szOf_info hm
    refine ⟨u, h6, ?_⟩
    have h8 : (part e' us.toArray (j * m)).run P W = .ok u W := h7
    simp [execOp, ho, h3, h4, hj1, Instr.index, asIntOf, run_underlying hu, sizeOf, typeInfo, hinf, hsz, hj2, h8]
  · cases e
theorem s_ind2 {t : TypeId} {y ix : Operand} (ho : o.op = .index t y ix) (e : oInd2 P t y ix fr h n = some x) : Oo P o fr h n x := by
  unfold oInd2 at e
  cases hs : isStr P t with
  | true => rw [hs] at e; exact s_ind ho e
  | false => rw [hs] at e; exact s_indV ho e
theorem s_fieldV {s : TypeId} {y : Operand} {f : Nat} (ho : o.op = .field s y f) (e : oFieldV P s y f fr h n = some x) : Oo P o fr h n x := by
  unfold oFieldV at e
  split at e
  · rename_i fs hu
    split at e
    · rename_i fd hfd
      obtain ⟨cs, hv, e⟩ := onA_some e
      obtain ⟨v, hp, e⟩ := bind_some e
      refine Oo.val e fun k W a hop => ?_
      have h2 := hop y (by simp [ho, Op.operands])
      rw [hv] at h2
      obtain ⟨us, h3, h5⟩ := h2.agg_inv
      obtain ⟨u, h6, h7⟩ := part_ok hp h5 W
      refine ⟨u, h6, ?_⟩
      have hfd' : fs[f]? = some fd := by simpa using hfd
      simp [execOp, ho, h3, Instr.field, run_underlying hu, hfd', asAgg, h7]
    · cases e
  · cases e
theorem s_load {t : TypeId} {y : Operand} (ho : o.op = .load t y) (e : oLoad P t y fr h n = some x) : Oo P o fr h n x := by
  obtain ⟨b, q, hv, e⟩ := onP_some e
  obtain ⟨v, hh, nn, r, w⟩ := x
  obtain ⟨h1, h2, h3, h4, h5⟩ := ld_ok e
  simp only at h1 h2 h3 h4 h5
  subst h1 h2 h3 h4
  refine ⟨Ss.read _ _ _, fun k W a K' Q hop H _ hk => ?_⟩
  have h6 := hop y (by simp [ho, Op.operands])
  rw [hv] at h6
  obtain ⟨_, b', z, hkb, h7⟩ := h6.ptr_inv
  obtain ⟨u, h8, h9⟩ := h5 k W b' z H hkb
  unfold Oper.wp
  have : (execOp a.eval o).run P W = .ok (.value u) W := by simp [execOp, ho, h7, Instr.loadAt, Instr.sureAddr, h9]
  rw [this, Oper.upon_value]
  exact hk u W k (Sd.read H) h8
theorem s_store {t : TypeId} {y z : Operand} (ho : o.op = .store t y z) (nn : ∀ i, n ≤ i → hget h i = none) (e : oStore P t y z fr h n = some x) : Oo P o fr h n x := by
  obtain ⟨b, q, hv, e⟩ := onP_some e
  obtain ⟨cs, hcs, e⟩ := bind_some e
  obtain ⟨m, hm, e⟩ := bind_some e
  obtain ⟨hc, e⟩ := bif_some e
  simp only [Bool.and_eq_true, Nat.beq_eq] at hc
  obtain ⟨cs', hov, e⟩ := bind_some e
  cases e
  obtain ⟨h1, h2⟩ := over_some hov
  have hb := hget_lt hcs
  refine ⟨Ss.write nn hb hcs, fun k W a K' Q hop H _ hk => ?_⟩
  have h6 := hop y (by simp [ho, Op.operands])
  have h6' := hop z (by simp [ho, Op.operands])
  rw [hv] at h6
  obtain ⟨_, b', zz, hkb, h7⟩ := h6.ptr_inv
  obtain ⟨b2, us, sp, ty, e1, e2, e3⟩ := (H.rep b (tb_bit.2 rfl) cs hcs).cel hkb
  have hbb : b2 = b' ∧ us.length + sp.length = zz := by
    have hkb' : k b = some (b', zz + 1) := hkb
    rw [hkb'] at e1; cases e1; exact ⟨rfl, rfl⟩
  obtain ⟨rfl, hzz⟩ := hbb
  obtain ⟨r1, r2⟩ := cells_rel h6' hc.2
  have hlen := r1.len
  have hus := e3.len
  have hfit : q + (a.eval z).cells.toList.length ≤ us.length := by rw [hlen, hus]; exact h2
  have hst := run_storeCells_cells (P := P) b2 q (a.eval z).cells.toList 0 W (fun j hj => by
      rw [cell_of e2, List.getElem?_append_left (by omega), List.getElem?_eq_getElem (by omega)]; rfl) (fun j hj => fz_of e2 _) r2
  simp only [Nat.add_zero] at hst
  obtain ⟨i, hi, hs⟩ := szOf_info hm
  have hsz : (a.eval z).cells.size = i.size := by rw [hs, ← hc.1, ← hlen]; simp
  have hrun : (execOp a.eval o).run P W = .ok .skip (W.setCells b2 q (a.eval z).cells.toList) := by
    simp [execOp, ho, h7, Instr.storeAt, Instr.sureAddr, storeVar, sizeOf, typeInfo, hi, hsz, hst]
  unfold Oper.wp
  rw [hrun, Oper.upon_skip]
  have hset := heap_setCells (b := b2) (ty := ty) (a.eval z).cells.toList q W (us ++ sp) e2 (by simp; omega)
  have hshape : (us ++ sp).take q ++ (a.eval z).cells.toList ++ (us ++ sp).drop (q + (a.eval z).cells.toList.length) = (us.take q ++ (a.eval z).cells.toList ++ us.drop (q + (a.eval z).cells.toList.length)) ++ sp := by
    rw [List.take_append_of_le_length (by omega), List.drop_append_of_le_length hfit]
    simp
  rw [hshape] at hset
  refine hk undef _ k (Sd.write hb hcs hkb hset ?_ ?_ (fun c hc _ => heap_setCells_other hc _ _) ?_ (rest_setCells _ _ _ _).1 (rest_setCells _ _ _ _).2.1 (rest_setCells _ _ _ _).2.2 (fun a => World.frozen?_setCells _ _ _ _ _)) undef_vx
  · rw [← hzz]
    simp
    omega
  · rw [h1, ← hlen]
    exact ((e3.take q).app r1).app (e3.drop _)
  · rw [size_setCells]; exact Nat.le_refl _
/-- A block more: what the run does. -/
theorem alloc_ok {h' : HT} {r w : Nat} {cs us sp : List Value} {v : Value} {ty : TypeId} {k : K} {W W' : World} (hn4 : n < 4096) (nn : ∀ i, n ≤ i → hget h i = none) (hcs : hget h' n = some cs) (hwn : tb w n)
    (hd : ∀ i, i ≠ n → hget h' i = hget h i ∨ (tb w i ∧ hget h' i = none)) (hw : ∀ i, tb w i → i = n ∨ (tb r i ∧ i < n)) (hk : k n = none) (H : HR k h W r) (hl : LR (VX k) cs us)
    (hW : W'.heap = W.heap.push (.cells (us ++ sp).toArray ty (0, 0))) (h1 : W'.os = W.os) (h2 : Tp W' W) (h3 : W'.output = W.output) :
    Sd h n h' (n + 1) r w k W (upk k n W.heap.size (us.length + sp.length + 1)) W' := by
  have _ := hn4; have _ := hwn; have _ := v
  refine Sd.new (ty := ty) nn hcs hd hw hk H (Or.inl (Nat.le_refl _)) (by rw [hW]; simp) hl (fun b _ hb => by rw [hW, Array.getElem?_push, if_neg (by omega)]) (by rw [hW]; simp) h1 h2 h3 (fun a => ?_)
  unfold World.frozen?
  rw [hW, Array.getElem?_push]
  by_cases e : a.block = W.heap.size
  · rw [if_pos e, e]
    simp
  · rw [if_neg e]
theorem oNew_some {v : Value} {cs : List Value} {r w : Nat} {g : HT} (e : oNew g n v cs r w = some x) : n < 4096 ∧ x = ⟨v, hs12 g n (some cs), n + 1, r, Nat.lor w (bit n)⟩ := by
  obtain ⟨h1, e⟩ := bif_some e
  rw [Nat.blt_eq] at h1
  cases e
  exact ⟨h1, rfl⟩
theorem tb_n {w n : Nat} : tb (Nat.lor w (bit n)) n := tb_or.2 (Or.inr (tb_bit.2 rfl))
theorem tb_0n {n i : Nat} (h : tb (Nat.lor 0 (bit n)) i) : i = n := by
  rcases tb_or.1 h with h | h
  · exact absurd h tb_zero
  · exact (tb_bit.1 h).symm
/-- A block more, nothing let go. -/
theorem new_ok {v : Value} {cs : List Value} {r : Nat} (nn : ∀ i, n ≤ i → hget h i = none) (e : oNew h n v cs r 0 = some x)
    (hr : ∀ (k : K) (W : World) (a : Act), (∀ y ∈ o.op.operands.toList, VX k (evo fr y) (a.eval y)) → HR k h W r → ∃ us sp ty u W', LR (VX k) cs us ∧ (execOp a.eval o).run P W = .ok (.value u) W' ∧ W'.heap = W.heap.push (.cells (us ++ sp).toArray ty (0, 0)) ∧ W'.os = W.os ∧ Tp W' W ∧ W'.output = W.output ∧
      ∀ k' : K, (∀ i p, k i = some p → k' i = some p) → k' n = some (W.heap.size, us.length + sp.length + 1) → VX k' v u) : Oo P o fr h n x := by
  obtain ⟨hn, rfl⟩ := oNew_some e
  have hcs : hget (hs12 h n (some cs)) n = some cs := hget_same _ hn
  have hd : ∀ i, i ≠ n → hget (hs12 h n (some cs)) i = hget h i ∨ (tb (Nat.lor 0 (bit n)) i ∧ hget (hs12 h n (some cs)) i = none) := fun i hi => Or.inl (hget_ne _ hn (Ne.symm hi))
  have hw : ∀ i, tb (Nat.lor 0 (bit n)) i → i = n ∨ (tb r i ∧ i < n) := fun i hi => Or.inl (tb_0n hi)
  refine ⟨Ss.new tb_n hd hw, fun k W a K' Q hop H hnew hk => ?_⟩
  have hkn : k n = none := hnew n (Nat.le_refl _) (Nat.lt_succ_self _)
  obtain ⟨us, sp, ty, u, W', h1, h2, h3, h4, h5, h6, h7⟩ := hr k W a hop H
  have d := alloc_ok (v := v) hn nn hcs tb_n hd hw hkn H h1 h3 h4 h5 h6
  unfold Oper.wp
  rw [h2, Oper.upon_value]
  exact hk u W' _ d (h7 _ d.ext (if_pos rfl))
theorem s_alloc {t : TypeId} (ho : o.op = .alloc t) (nn : ∀ i, n ≤ i → hget h i = none) (e : oAlloc P t fr h n = some x) : Oo P o fr h n x := by
  obtain ⟨z, hz, e⟩ := bind_some e
  obtain ⟨hzo, e⟩ := bif_some e
  obtain ⟨i, hi, hzi⟩ := zeroOf_info hz
  refine new_ok nn e fun k W a _ _ => ⟨z.cells.toList, [], t, .pointer (some ⟨W.heap.size, 0, none⟩), W.alloc (.cells z.cells t), zok_rel hzo, ?_, by show W.heap.push _ = _; simp, rfl, ⟨rfl, Nat.le_refl _⟩, rfl, fun k' _ hk' => VX.of0 ⟨rfl, _, _, hk', rfl⟩⟩
  simp [execOp, ho, Instr.alloc, zeroValue, typeInfo, hi, hzi, newVar, newRow]
theorem s_box {t : TypeId} {y : Operand} (ho : o.op = .box t y) (nn : ∀ i, n ≤ i → hget h i = none) (e : oBox y fr h n = some x) : Oo P o fr h n x := by
  obtain ⟨hone, e⟩ := bif_some e
  refine new_ok nn e fun k W a hop _ => ?_
  have h1 := hop y (by simp [ho, Op.operands])
  refine ⟨(a.eval y).cells.toList, [], t, .pointer (some ⟨W.heap.size, 0, none⟩), W.alloc (.cells (a.eval y).cells t), (cells_rel h1 hone).1, ?_, by show W.heap.push _ = _; simp, rfl, ⟨rfl, Nat.le_refl _⟩, rfl, fun k' _ hk' => VX.of0 ⟨rfl, _, _, hk', rfl⟩⟩
  simp [execOp, ho, Instr.box, newVar, newRow]
/-! Parts laid over cells. -/
theorem fold_over (off : Nat) (l : List Value) (cs : List Value) (hl : off + l.length ≤ cs.length) :
    (l.toArray.zipIdx.foldl (fun cs (x : Value × Nat) => cs.setIfInBounds (off + x.2) x.1) cs.toArray) = (cs.take off ++ l ++ cs.drop (off + l.length)).toArray := by
  have e : l.toArray.zipIdx.foldl (fun cs (x : Value × Nat) => cs.setIfInBounds (off + x.2) x.1) cs.toArray = (l.zipIdx 0).foldl (fun cs (x : Value × Nat) => cs.setIfInBounds (off + x.2) x.1) cs.toArray := by
    rw [← Array.foldl_toList]; simp
  rw [e]
  obtain ⟨h1, h2⟩ := Go.Great.foldl_set off l 0 cs.toArray
  apply Array.ext_getElem?
  intro k
  rw [h2 k]
  simp only [Nat.add_zero, List.size_toArray, List.getElem?_toArray]
  by_cases a : k < off
  · rw [if_neg (by omega), List.append_assoc, List.getElem?_append_left (by simp; omega), List.getElem?_take_of_lt a]
  · by_cases b : k < off + l.length
    · rw [if_pos (by omega), List.append_assoc, List.getElem?_append_right (by simp; omega), List.getElem?_append_left (by simp; omega)]
      congr 1
      simp; omega
    · rw [if_neg (by omega), List.getElem?_append_right (by simp; omega), List.getElem?_drop]
      congr 1
      simp; omega
theorem fill_rel {k : K} {place : Nat → Option (Nat × Nat)} : ∀ (ps qs : List (Nat × Value)) (cs us r : List Value), LR (VX k) cs us → (∀ i : Nat, (ps[i]?).map Prod.fst = (qs[i]?).map Prod.fst) → LR (VX k) (ps.map Prod.snd) (qs.map Prod.snd) → fillL place ps cs = some r →
    ∃ r', Instr.fill place us.toArray qs = some r'.toArray ∧ LR (VX k) r r'
  | [], qs, cs, us, r, h1, _, h3, e => by
    cases e
    have : qs = [] := by cases qs with
      | nil => rfl
      | cons q qs => cases h3
    subst this
    exact ⟨us, rfl, h1⟩
  | p :: ps, qs, cs, us, r, h1, h2, h3, e => by
    cases qs with
    | nil => obtain ⟨_, _, e', _⟩ := h3; cases e'
    | cons q qs =>
      obtain ⟨y, ys, e', h4, h5⟩ := h3
      simp only [List.map_cons, List.cons.injEq] at e'
      obtain ⟨rfl, rfl⟩ := e'
      have h6 : p.1 = q.1 := by have := h2 0; simpa using this
      simp only [fillL] at e
      cases hp : place p.1 with
      | none => rw [hp] at e; cases e
      | some pl =>
        rw [hp] at e
        obtain ⟨hc, e⟩ := bif_some e
        simp only [Bool.and_eq_true, Nat.beq_eq] at hc
        obtain ⟨cs2, ho, e⟩ := bind_some e
        obtain ⟨o1, o2⟩ := over_some ho
        obtain ⟨r1, r2⟩ := cells_rel h4 hc.2
        have l1 := r1.len
        have l2 := h1.len
        obtain ⟨r', f1, f2⟩ := fill_rel ps qs cs2 (us.take pl.1 ++ q.2.cells.toList ++ us.drop (pl.1 + q.2.cells.toList.length)) r (by
          rw [o1, ← l1]
          exact ((h1.take _).app r1).app (h1.drop _)) (fun i => by have := h2 (i + 1); simpa using this) h5 e
        refine ⟨r', ?_, f2⟩
        obtain ⟨qi, qv⟩ := q
        simp only at h6 l1 r1 f1
        simp only [Instr.fill]
        rw [← h6, hp]
        obtain ⟨off, sz⟩ := pl
        simp only at hc o2 f1 ⊢
        have hs : qv.cells.size = sz := by rw [← hc.1, ← l1]; simp
        have hfit : off + qv.cells.size ≤ us.length := by rw [hs, l2]; omega
        rw [if_neg (by simp [hs]; omega)]
        have := fold_over off qv.cells.toList us (by simpa using hfit)
        simp only [Array.toArray_toList] at this
        rw [this]
        exact f1
theorem evp_rel {k : K} {a : Act} : ∀ l : List (Nat × Operand), (∀ y ∈ l, VX k (evo fr y.2) (a.eval y.2)) → LR (VX k) ((evp fr l).map Prod.snd) ((l.map fun p => (p.1, a.eval p.2)).map Prod.snd) ∧ ∀ i : Nat, ((evp fr l)[i]?).map Prod.fst = ((l.map fun p => (p.1, a.eval p.2))[i]?).map Prod.fst
  | [], _ => ⟨rfl, fun _ => rfl⟩
  | p :: l, hl => by
    obtain ⟨h1, h2⟩ := evp_rel l (fun y hy => hl y (by simp [hy]))
    refine ⟨⟨_, _, rfl, hl p (by simp), h1⟩, fun i => ?_⟩
    cases i with
    | zero => simp [evp]
    | succ i => simpa [evp] using h2 i
theorem parts_list (parts : Array (Nat × Operand)) (a : Act) : (parts.map fun (x : Nat × Operand) => (x.1, a.eval x.2)).toList = parts.toList.map fun p => (p.1, a.eval p.2) := by simp
theorem fplaces_some : ∀ {fs : List Field} {l : List (Nat × Nat)}, fplaces P fs = some l → fs.mapM (fun f => (P.info? f.type).map fun i => (f.offset, i.size)) = some l
  | [], l, e => by cases e; rfl
  | f :: fs, l, e => by
    simp only [fplaces] at e
    cases hs : szOf P f.type with
    | none => rw [hs] at e; cases e
    | some m =>
      rw [hs] at e
      cases hr : fplaces P fs with
      | none => rw [hr] at e; cases e
      | some l' =>
        rw [hr] at e
        cases e
        obtain ⟨i, hi, hsz⟩ := szOf_info hs
        simp [List.mapM_cons, hi, hsz, fplaces_some hr]
theorem s_build {t : TypeId} {parts : Array (Nat × Operand)} (ho : o.op = .build t parts) (e : oBuild P t parts fr h n = some x) : Oo P o fr h n x := by
  obtain ⟨z, hz, e⟩ := bind_some e
  obtain ⟨hzo, e⟩ := bif_some e
  obtain ⟨i, hi, hzi⟩ := zeroOf_info hz
  have hopp : ∀ (k : K) (a : Act), (∀ y ∈ o.op.operands.toList, VX k (evo fr y) (a.eval y)) → ∀ y ∈ parts.toList, VX k (evo fr y.2) (a.eval y.2) := fun k a hop y hy => hop y.2 (by rw [ho]; simp only [Op.operands]; simpa using ⟨y.1, by simpa using hy⟩)
  split at e
  · rename_i fs hu
    obtain ⟨pl, hpl, e⟩ := bind_some e
    obtain ⟨cs, hcs, e⟩ := bind_some e
    refine Oo.val e fun k W a hop => ?_
    obtain ⟨r1, r2⟩ := evp_rel (k := k) (a := a) parts.toList (hopp k a hop)
    obtain ⟨us, h1, h2⟩ := fill_rel _ _ _ _ _ (zok_rel hzo) r2 r1 hcs
    refine ⟨_, VX.agg h2, ?_⟩
    rw [← parts_list] at h1
    have hb : P.built t (parts.map fun (x : Nat × Operand) => (x.1, a.eval x.2)).toList = some us.toArray := by
      unfold Program.built
      rw [hi, hu]
      simp only [hzi, fplaces_some hpl]
      simpa using h1
    have := run_build W t _ _ hb
    simp only [execOp, ho]
    rw [Sem.run_bind, this]
    rfl
  · rename_i m e' hu
    obtain ⟨sz, hsz, e⟩ := bind_some e
    obtain ⟨cs, hcs, e⟩ := bind_some e
    refine Oo.val e fun k W a hop => ?_
    obtain ⟨r1, r2⟩ := evp_rel (k := k) (a := a) parts.toList (hopp k a hop)
    obtain ⟨us, h1, h2⟩ := fill_rel _ _ _ _ _ (zok_rel hzo) r2 r1 hcs
    refine ⟨_, VX.agg h2, ?_⟩
    rw [← parts_list] at h1
    obtain ⟨ie, hie, hse⟩ := szOf_info hsz
    have hb : P.built t (parts.map fun (x : Nat × Operand) => (x.1, a.eval x.2)).toList = some us.toArray := by
      unfold Program.built
      rw [hi, hu]
      simp only [hzi, hie, hse]
      simpa using h1
    have := run_build W t _ _ hb
    simp only [execOp, ho]
    rw [Sem.run_bind, this]
    rfl
  · cases e
theorem times_len (z : List Value) : ∀ n, (times n z).length = n * z.length
  | 0 => by simp [times]
  | n + 1 => by simp [times, times_len z n, Nat.add_mul, Nat.add_comm]
theorem times_get (z : List Value) : ∀ (n i : Nat), i < n * z.length → (times n z)[i]? = z[i % z.length]?
  | 0, i, h => by simp at h
  | n + 1, i, h => by
    simp only [times]
    by_cases hi : i < z.length
    · rw [List.getElem?_append_left hi, Nat.mod_eq_of_lt hi]
    · have h1 : (n + 1) * z.length = n * z.length + z.length := Nat.succ_mul _ _
      have h2 : i % z.length = (i - z.length) % z.length := Nat.mod_eq_sub_mod (by omega)
      rw [List.getElem?_append_right (by omega), times_get z n (i - z.length) (by omega), h2]
theorem times_rel {k : K} {z : List Value} (h : LR (VX k) z z) : ∀ n, LR (VX k) (times n z) (times n z)
  | 0 => rfl
  | n + 1 => h.app (times_rel h n)
theorem times_arr {z : Value} {len n : Nat} (hz : z.cells.toList.length = n) (hn : 0 < n) : (Array.range (len * n)).map (z.cells[· % z.cells.size]!) = (times len z.cells.toList).toArray := by
  have hz' : z.cells.size = n := by rw [← hz]; simp
  apply Array.ext_getElem?
  intro i
  simp only [Array.getElem?_map, List.getElem?_toArray]
  by_cases hi : i < len * n
  · rw [times_get _ _ _ (by rw [hz]; exact hi), hz]
    have : i % n < z.cells.size := by rw [hz']; exact Nat.mod_lt _ hn
    simp only [Array.getElem?_range, hi, if_true, Option.map_some, hz']
    rw [getElem!_pos z.cells (i % n) this, Array.getElem?_toList, getElem?_pos z.cells (i % n) this]
  · have : (times len z.cells.toList).length ≤ i := by rw [times_len, hz]; omega
    rw [List.getElem?_eq_none this]
    simp [hi]
theorem s_buildS {t : TypeId} {len : Nat} {parts : Array (Nat × Operand)} (ho : o.op = .buildSlice t len parts) (nn : ∀ i, n ≤ i → hget h i = none) (e : oBuildS P t len parts fr h n = some x) : Oo P o fr h n x := by
  unfold oBuildS at e
  split at e
  · rename_i e' hu
    obtain ⟨sz, hsz, e⟩ := bind_some e
    obtain ⟨z, hz, e⟩ := bind_some e
    obtain ⟨hc, e⟩ := bif_some e
    simp only [Bool.and_eq_true, Nat.beq_eq, Nat.blt_eq, Nat.ble_eq] at hc
    obtain ⟨⟨⟨⟨c1, c2⟩, c3⟩, c4⟩, c5⟩ := hc
    obtain ⟨cs, hcs, e⟩ := bind_some e
    obtain ⟨ie, hie, hse⟩ := szOf_info hsz
    obtain ⟨ie', hie', hzi⟩ := zeroOf_info hz
    rw [hie] at hie'; cases hie'
    refine new_ok nn e fun k W a hop _ => ?_
    have hopp : ∀ y ∈ parts.toList, VX k (evo fr y.2) (a.eval y.2) := fun y hy => hop y.2 (by rw [ho]; simp only [Op.operands]; simpa using ⟨y.1, by simpa using hy⟩)
    obtain ⟨r1, r2⟩ := evp_rel (k := k) (a := a) parts.toList hopp
    obtain ⟨us, h1, h2⟩ := fill_rel _ _ _ _ _ (times_rel (zok_rel c5) len) r2 r1 hcs
    rw [← parts_list, ← times_arr c2 c3] at h1
    have hlen : us.length = len * sz := by
      rw [h2.len]
      have : ∀ (ps : List (Nat × Value)) (cs r : List Value), fillL (fun i => some (i * sz, sz)) ps cs = some r → r.length = cs.length := by
        intro ps
        induction ps with
        | nil => intro cs r e; cases e; rfl
        | cons p ps ih =>
          intro cs r e
          simp only [fillL] at e
          obtain ⟨_, e⟩ := bif_some e
          obtain ⟨c2, h5, e⟩ := bind_some e
          obtain ⟨h6, h7⟩ := over_some h5
          rw [ih _ _ e, h6]
          simp only [List.length_append, List.length_take, List.length_drop]
          omega
      rw [this _ _ _ hcs, times_len, c2]
    have hrun := run_buildSlice W t e' len (parts.map fun (x : Nat × Operand) => (x.1, a.eval x.2)) us.toArray ie z hu hie hzi (by rw [hse]; omega) (by rw [hse]; intro h0; rcases Nat.mul_eq_zero.1 h0 with h0 | h0 <;> omega) (by rw [hse]; exact h1)
    refine ⟨us, [], e', .slice (some ⟨W.heap.size, 0, none⟩) len len, W.alloc (.cells us.toArray e'), h2, ?_, by show W.heap.push _ = _; simp, rfl, ⟨rfl, Nat.le_refl _⟩, rfl, fun k' _ hk' => VX.of0 ⟨rfl, _, _, _, hk', rfl, Nat.le_refl _, by simp [hlen]⟩⟩
    simp only [execOp, ho]
    rw [Sem.run_bind, hrun]
    rfl
  · cases e
theorem s_make {t : TypeId} {l c : Operand} (ho : o.op = .makeSlice t l c) (nn : ∀ i, n ≤ i → hget h i = none) (e : oMake P t l c fr h n = some x) : Oo P o fr h n x := by
  unfold oMake oMkS at e
  split at e
  · rename_i e' hu
    obtain ⟨sz, hsz, e⟩ := bind_some e
    obtain ⟨z, hz, e⟩ := bind_some e
    obtain ⟨by', hby, e⟩ := bind_some e
    obtain ⟨kl, il, hl, e⟩ := onI_some e
    obtain ⟨kc, ic, hc, e⟩ := onI_some e
    obtain ⟨a', ha, e⟩ := bind_some e
    obtain ⟨b', hb, e⟩ := bind_some e
    obtain ⟨hcc, e9⟩ := bif_some e
    simp only [Bool.and_eq_true, Nat.beq_eq, Nat.blt_eq, Nat.ble_eq] at hcc
    obtain ⟨⟨⟨⟨c1, c2⟩, c3⟩, c4⟩, c5⟩ := hcc
    obtain ⟨i1, i2⟩ := idx_some ha
    obtain ⟨j1, j2⟩ := idx_some hb
    subst c1
    obtain ⟨ie, hie, hse⟩ := szOf_info hsz
    obtain ⟨ie', hie', hzi⟩ := zeroOf_info hz
    rw [hie] at hie'; cases hie'
    rw [hie] at hby
    simp only [Option.map_some, Option.some.injEq] at hby
    refine new_ok nn e9 fun k W a hop _ => ?_
    have h1 := hop l (by simp [ho, Op.operands])
    have h2 := hop c (by simp [ho, Op.operands])
    rw [hl] at h1; rw [hc] at h2
    have h3 := h1.int_inv
    have h4 := h2.int_inv
    rw [i1] at h3; rw [j1] at h4
    refine ⟨times a' z.cells.toList, [], e', .slice (some ⟨W.heap.size, 0, none⟩) a' a', W.alloc (.cells (times a' z.cells.toList).toArray e'), times_rel (zok_rel c5) _, ?_, by show W.heap.push _ = _; simp, rfl, ⟨rfl, Nat.le_refl _⟩, rfl, fun k' _ hk' => VX.of0 ⟨rfl, _, _, _, hk', rfl, Nat.le_refl _, by simp [times_len, c3]⟩⟩
    have hb1 : (ie.bytes : Int) * (a' : Int) ≤ 281474976710656 := by
      have : ie.bytes * a' ≤ 1000 * 1000 := Nat.mul_le_mul (by omega) (by omega)
      have h5 : ((ie.bytes * a' : Nat) : Int) ≤ 1000000 := by omega
      rw [Int.natCast_mul] at h5
      omega
    have hrun := run_make (P := P) W t e' ie z hu hie hzi kl kc (a' : Int) (a' : Int) (by omega) (Int.le_refl _) hb1 (by omega)
    have hcells : madeCells z.cells (a' * ie.size) = (times a' z.cells.toList).toArray := by
      rw [hse]; exact times_arr c3 c4
    simp only [execOp, ho, h3, h4]
    rw [Sem.run_bind, hrun]
    simp [hcells]
  · cases e
end
end E
end Go.Proofs.YtfmfeipeeedfpaaGreat
namespace Go.Proofs.YtfmfeipeeedfpaaGreat
namespace E
open Go.CheckFast (force force_eq)
section
variable {P : Program} {o : Oper} {fr : FT} {h : HT} {n : Nat} {x : R5}
theorem apOk_some {e m : Nat} (hh : apOk P e m = true) : ∃ i z, P.info? e = some i ∧ i.zero = some z ∧ i.bytes ≤ 100000 ∧ z.cells.size = m := by
  unfold apOk at hh
  split at hh
  · rename_i i hi
    split at hh
    · rename_i z hz
      simp only [Bool.and_eq_true, Nat.ble_eq, Nat.beq_eq] at hh
      exact ⟨i, z, hi, hz, hh.1, by rw [← hh.2]; simp⟩
    · cases hh
  · cases hh
theorem pair_inv {R : Value → Value → Prop} {a b : Value} {l : List Value} (h : LR R [a, b] l) : ∃ u v, l = [u, v] ∧ R a u ∧ R b v := by
  obtain ⟨u, _, rfl, h1, v, _, rfl, h2, rfl⟩ := h
  exact ⟨u, v, rfl, h1, h2⟩
theorem oAp2_some {sz b m : Nat} {zs : List Value} {v : Value} (e : oAp2 h n sz v b m zs = some x) : (v = .slice none 0 0 ∧ oNew h n (.slice (some ⟨n, 0, none⟩) m sz) zs (bit b) 0 = some x) ∨
    ∃ a len es cs, v = .slice (some ⟨a, 0, none⟩) len es ∧ hget h a = some cs ∧ cs.length = len * sz ∧ es = sz ∧ a ≠ b ∧ len ≤ 10000 ∧ oNew (hs12 h a none) n (.slice (some ⟨n, 0, none⟩) (len + m) sz) (cs ++ zs) (Nat.lor (bit a) (bit b)) (bit a) = some x := by
  unfold oAp2 at e
  split at e
  · exact Or.inl ⟨rfl, e⟩
  · rename_i a len es
    obtain ⟨cs, hcs, e⟩ := bind_some e
    obtain ⟨hc3, e⟩ := bif_some e
    simp only [Bool.and_eq_true, Nat.beq_eq, Nat.ble_eq, Bool.not_eq_true'] at hc3
    obtain ⟨⟨⟨d1, d2⟩, d3⟩, d4⟩ := hc3
    exact Or.inr ⟨a, len, es, cs, rfl, hcs, d1, d2, fun e => by subst e; simp at d3, d4, by rw [force_eq] at e; exact e⟩
  · cases e
theorem s_app {ts : Array TypeId} {xs : Array Operand} (ho : o.op = .call { callee := .builtin .append, args := xs, argTypes := ts }) (nn : ∀ i, n ≤ i → hget h i = none) (e : oApp P ts.toList (evl fr xs.toList) h n = some x) : Oo P o fr h n x := by
  unfold oApp at e
  split at e
  · rename_i t t' hts
    split at e
    · rename_i vx vy hvs
      split at e
      · rename_i e' hu
        obtain ⟨htt, e9⟩ := bif_some e
        clear e
        rw [Nat.beq_eq] at htt
        subst htt
        have e := e9
        obtain ⟨sz, hsz, e⟩ := bind_some e
        obtain ⟨b, q, m, bs, hy, e⟩ := onS_some e
        obtain ⟨hc, e⟩ := bif_some e
        simp only [Bool.and_eq_true, Nat.beq_eq, Nat.blt_eq] at hc
        obtain ⟨⟨c1, c2⟩, c3⟩ := hc
        obtain ⟨us, hus, e⟩ := bind_some e
        obtain ⟨zs, hzs, e⟩ := bind_some e
        obtain ⟨hc2, e⟩ := bif_some e
        simp only [Bool.and_eq_true, Nat.ble_eq] at hc2
        obtain ⟨⟨c4, c5⟩, c6⟩ := hc2
        obtain ⟨ie, z, hie, hzi, hby, hzsz⟩ := apOk_some c5
        obtain ⟨ie2, hie2, hse⟩ := szOf_info hsz
        rw [hie] at hie2; cases hie2
        obtain ⟨t1, t2⟩ := take'_some hzs
        rw [drop'_eq] at t1
        have hta : ts = #[t, t] := by apply Array.ext'; rw [hts]
        -- the operands
        have args : ∀ (k : K) (a : Act), (∀ y ∈ o.op.operands.toList, VX k (evo fr y) (a.eval y)) → ∃ u1 u2, xs.map a.eval = #[u1, u2] ∧ VX k vx u1 ∧ VX k vy u2 := by
          intro k a hop
          have h1 := evl_rel (fr := fr) (k := k) (a := a) xs.toList (fun y hy => hop y (by rw [ho]; simpa [Op.operands, Call.operands] using hy))
          rw [hvs] at h1
          obtain ⟨u, v, h2, h3, h4⟩ := pair_inv h1
          exact ⟨u, v, by apply Array.ext'; simpa using h2, h3, h4⟩
        -- what is put behind
        have srcs : ∀ (k : K) (W : World) (u2 : Value) (mm : Nat), HR k h W mm → tb mm b → VX k vy u2 → ∃ news, LR (VX k) zs news ∧ Src P ie.size t u2 m news W := by
          intro k W u2 mm H hb hv
          rw [hy] at hv
          obtain ⟨_, b', zz, c, hkb, h7, _⟩ := hv.slc_inv
          obtain ⟨b2, vs, sp, ty, e1, e2, e3⟩ := (H.rep b hb us hus).cel hkb
          have hkb' : k b = some (b', zz + 1) := hkb
          rw [hkb'] at e1; cases e1
          have h3 : LR (VX k) zs ((vs.drop q).take (m * sz)) := by rw [t1]; exact (e3.drop q).take _
          refine ⟨_, h3, ?_⟩
          rw [h7]
          refine Src.ofSlice W hu _ m c _ (by rw [h3.len, t2, hse]) (fun j u hu' => ?_) (ones_rel h3 c4)
          rw [Addr.add_mid, cell_of e2]
          rw [List.getElem?_take] at hu'
          split at hu'
          · rw [List.getElem?_drop] at hu'
            rw [List.getElem?_append_left (List.getElem?_eq_some_iff.1 hu').1]; exact hu'
          · cases hu'
        have exec : ∀ (a : Act) (W : World) (u1 u2 u : Value) (W' : World), xs.map a.eval = #[u1, u2] → (Builtin.append_ #[t, t] o.type #[u1, u2]).run P W = .ok u W' → (execOp a.eval o).run P W = .ok (.value u) W' := by
          intro a W u1 u2 u W' h1 h2
          simp only [execOp, ho, resolve, invoke, builtin, Sem.run_bind, Sem.run_pure, Result.andThen_ok, h1, hta, h2]
        have hbb : b < 4096 := hget_lt hus
        rcases oAp2_some e with ⟨hx, e⟩ | ⟨a, len, es, cs, hx, hcs, d1, d2, d3', d4, e⟩
        · -- nothing was there
          refine new_ok nn e fun k W a hop H => ?_
          obtain ⟨u1, u2, h1, h2, h3⟩ := args k a hop
          rw [hx] at h2
          have h4 := h2.nilslc_inv
          obtain ⟨news, h5, h6⟩ := srcs k W u2 _ H (tb_bit.2 rfl) h3
          have hfit : Builtin.nextslicecap (0 + m) 0 * ie.bytes ≤ 281474976710656 := growslice_fits (by omega) (by
            have : (0 + m) * ie.bytes ≤ 10000 * 100000 := Nat.mul_le_mul (by omega) hby
            omega)
          have hrun := run_append_grow_src (P := P) W t t o.type e' ie z hu hie hzi none 0 0 [] (by simp [Builtin.firstCells]) u2 m news h6 (by omega) (by omega) hfit
          rw [← h4] at hrun
          have hge := grownCap_ge W (0 + m) 0 e'
          have hsp : (Builtin.zeroCells z.cells (grownCap W (0 + m) 0 e' - (0 + m))).toList.length = (grownCap W (0 + m) 0 e' - (0 + m)) * sz := by
            rw [Array.length_toList, size_zeroCells, hzsz]
          have hnl : news.length = m * sz := by rw [h6.newsLen, hse]
          refine ⟨news, (Builtin.zeroCells z.cells (grownCap W (0 + m) 0 e' - (0 + m))).toList, e', _, _, h5, exec a W u1 u2 _ _ h1 hrun, ?_, rfl, ⟨rfl, Nat.le_succ _⟩, rfl, fun k' _ hk' => ?_⟩
          · show W.heap.push _ = _
            congr 2
            apply Array.ext'
            simp
          · refine VX.of0 ⟨rfl, W.heap.size, _, grownCap W (0 + m) 0 e', hk', by rw [Nat.zero_add], by omega, ?_⟩
            rw [hsp, hnl]
            show 0 + grownCap W (0 + m) 0 e' * sz ≤ _
            have : m * sz + (grownCap W (0 + m) 0 e' - (0 + m)) * sz = grownCap W (0 + m) 0 e' * sz := by rw [← Nat.add_mul]; congr 1; omega
            omega
        · -- a slice that is let go
          obtain ⟨hn4, rfl⟩ := oNew_some e
          have ha4 := hget_lt hcs
          have han : a < n := by
            rcases Nat.lt_or_ge a n with h' | h'
            · exact h'
            · rw [nn a h'] at hcs; cases hcs
          have hcs' : hget (hs12 (hs12 h a none) n (some (cs ++ zs))) n = some (cs ++ zs) := hget_same _ hn4
          have hdead : hget (hs12 (hs12 h a none) n (some (cs ++ zs))) a = none := by rw [hget_ne _ hn4 (by omega), hget_same _ ha4]
          have hwa : tb (Nat.lor (bit a) (bit n)) a := tb_or.2 (Or.inl (tb_bit.2 rfl))
          have hd : ∀ i, i ≠ n → hget (hs12 (hs12 h a none) n (some (cs ++ zs))) i = hget h i ∨ (tb (Nat.lor (bit a) (bit n)) i ∧ hget (hs12 (hs12 h a none) n (some (cs ++ zs))) i = none) := fun i hi => by
            by_cases ea : i = a
            · subst ea; exact Or.inr ⟨hwa, hdead⟩
            · left; rw [hget_ne _ hn4 (Ne.symm hi), hget_ne _ ha4 (Ne.symm ea)]
          have hw : ∀ i, tb (Nat.lor (bit a) (bit n)) i → i = n ∨ (tb (Nat.lor (bit a) (bit b)) i ∧ i < n) := fun i hi => by
            rcases tb_or.1 hi with h' | h'
            · have := tb_bit.1 h'; subst this; exact Or.inr ⟨tb_or.2 (Or.inl (tb_bit.2 rfl)), han⟩
            · exact Or.inl (tb_bit.1 h').symm
          refine ⟨Ss.new tb_n hd hw, fun k W act K' Q hop H hnew hk => ?_⟩
          have hkn : k n = none := hnew n (Nat.le_refl _) (Nat.lt_succ_self _)
          obtain ⟨u1, u2, h1, h2, h3⟩ := args k act hop
          rw [hx] at h2
          obtain ⟨_, a', zz, cap, hka, h4, hcap, hfitz⟩ := h2.slc_inv
          obtain ⟨news, h5, h6⟩ := srcs k W u2 _ H (tb_or.2 (Or.inr (tb_bit.2 rfl))) h3
          obtain ⟨a2, vs, sp, ty, e1, e2, e3⟩ := (H.rep a (tb_or.2 (Or.inl (tb_bit.2 rfl))) cs hcs).cel hka
          have hka' : k a = some (a', zz + 1) := hka
          have haa : a2 = a' ∧ vs.length + sp.length = zz := by rw [hka'] at e1; cases e1; exact ⟨rfl, rfl⟩
          obtain ⟨rfl, hzz⟩ := haa
          have hvl : vs.length = len * sz := by rw [e3.len, d1]
          have hnl : news.length = m * sz := by rw [h6.newsLen, hse]
          have hes : es = sz := d2
          subst hes
          have hfit' : cap * es ≤ zz := by have : 0 + cap * es ≤ zz := hfitz; omega
          by_cases hroom : len + m ≤ cap
          · have hle : (len + m) * es ≤ cap * es := Nat.mul_le_mul_right _ hroom
            have hle2 : len * es + m * es = (len + m) * es := (Nat.add_mul _ _ _).symm
            have hrun := run_append_room_src (P := P) W t t o.type e' ie hu hie a2 0 len cap u2 m news h6 hroom (fun j hj => by
                rw [cell_of e2, hse, List.getElem?_eq_getElem (by simp; omega)]; rfl) (fun j _ => fz_of e2 _)
            rw [← h4] at hrun
            unfold Oper.wp
            rw [exec act W u1 u2 _ _ h1 hrun, Oper.upon_value]
            have hset := heap_setCells (b := a2) (ty := ty) news (0 + len * ie.size) W (vs ++ sp) e2 (by rw [hse]; simp; omega)
            rw [hse, Nat.zero_add] at hset
            have hshape : (vs ++ sp).take (len * es) ++ news ++ (vs ++ sp).drop (len * es + news.length) = (vs ++ news) ++ sp.drop (m * es) := by
              rw [← hvl, List.take_left, hnl, List.drop_append]
              simp
            rw [hshape] at hset
            have dd := Sd.new (h := h) (n := n) (k := k) (W := W) (W' := W.setCells a2 (len * es) news) (B := a2) (us := vs ++ news) (sp := sp.drop (m * es)) (ty := ty) nn hcs' hd hw hkn H
              (Or.inr ⟨a, zz + 1, hwa, han, ⟨cs, hcs⟩, not_live hdead, hka'⟩) hset (e3.app h5) (fun c hc _ => heap_setCells_other hc _ _) (by rw [size_setCells]; exact Nat.le_refl _) (rest_setCells _ _ _ _).1 (rest_setCells _ _ _ _).2.1 (rest_setCells _ _ _ _).2.2 (fun a => World.frozen?_setCells _ _ _ _ _)
            have hW : W.setCells a2 (0 + len * ie.size) news = W.setCells a2 (len * es) news := by rw [hse, Nat.zero_add]
            rw [hW]
            refine hk _ _ _ dd (VX.of0 ⟨rfl, a2, _, cap, if_pos rfl, rfl, hroom, ?_⟩)
            simp only [List.length_append, List.length_drop]
            show 0 + cap * es ≤ _
            omega
          · have hfit : Builtin.nextslicecap (len + m) cap * ie.bytes ≤ 281474976710656 := growslice_fits (by omega) (by
              have : (len + m) * ie.bytes ≤ 20000 * 100000 := Nat.mul_le_mul (by omega) hby
              omega)
            have hold : (Builtin.firstCells ie.size len (.slice (some ⟨a2, 0, none⟩) len cap)).run P W.drew = .ok vs.toArray W.drew :=
              run_firstCells_some W.drew ie.size len ⟨a2, 0, none⟩ len cap vs (by rw [hvl, hse]) (fun j v hv => by
                rw [Addr.add_mid]
                have := cell_of (W := W.drew) (b := a2) (cs := vs ++ sp) (ty := ty) e2 (0 + j)
                rw [this, Nat.zero_add, List.getElem?_append_left (List.getElem?_eq_some_iff.1 hv).1]; exact hv)
            have hrun := run_append_grow_src (P := P) W t t o.type e' ie z hu hie hzi (some ⟨a2, 0, none⟩) len cap vs hold u2 m news h6 (by omega) (by omega) hfit
            rw [← h4] at hrun
            unfold Oper.wp
            rw [exec act W u1 u2 _ _ h1 hrun, Oper.upon_value]
            have hge := grownCap_ge W (len + m) cap e'
            have hsp : (Builtin.zeroCells z.cells (grownCap W (len + m) cap e' - (len + m))).toList.length = (grownCap W (len + m) cap e' - (len + m)) * es := by
              rw [Array.length_toList, size_zeroCells, hzsz]
            have dd := alloc_ok (h := h) (n := n) (k := k) (W := W) (W' := W.drew.alloc (.cells ((vs ++ news).toArray ++ Builtin.zeroCells z.cells (grownCap W (len + m) cap e' - (len + m))) e')) (v := undef) (us := vs ++ news) (sp := (Builtin.zeroCells z.cells (grownCap W (len + m) cap e' - (len + m))).toList) (ty := e') hn4 nn hcs' tb_n hd hw hkn H (e3.app h5) (by
                show W.heap.push _ = _
                congr 2
                apply Array.ext'
                simp) rfl ⟨rfl, Nat.le_succ _⟩ rfl
            refine hk _ _ _ dd (VX.of0 ⟨rfl, W.heap.size, _, grownCap W (len + m) cap e', if_pos rfl, rfl, hge, ?_⟩)
            rw [hsp]
            simp only [List.length_append]
            show 0 + grownCap W (len + m) cap e' * es ≤ _
            have : (len + m) * es + (grownCap W (len + m) cap e' - (len + m)) * es = grownCap W (len + m) cap e' * es := by rw [← Nat.add_mul]; congr 1; omega
            have hle2 : len * es + m * es = (len + m) * es := (Nat.add_mul _ _ _).symm
            omega
      · cases e
    · cases e
  · cases e
theorem bytes'_some {k : K} : ∀ {l m : List Value} {r : List UInt8}, bytes' l = some r → LR (VX k) l m → ∃ ns : List Int, m = ns.map (Value.int .u8) ∧ r = ns.map fun n => UInt8.ofNat n.toNat
  | [], _, _, e, h => by cases e; rw [h]; exact ⟨[], rfl, rfl⟩
  | v :: l, _, r, e, ⟨y, ys, hm, h1, h2⟩ => by
    unfold bytes' at e
    split at e
    · rename_i n
      cases hb : bytes' l with
      | none => rw [hb] at e; cases e
      | some r' =>
        rw [hb] at e
        cases e
        obtain ⟨ns, e1, e2⟩ := bytes'_some hb h2
        exact ⟨n :: ns, by rw [hm, h1.int_inv, e1]; rfl, by rw [e2]; rfl⟩
    · cases e
theorem push_fold : ∀ (ns : List Int) (s : ByteArray), ns.foldl (fun r n => r.push (UInt8.ofNat n.toNat)) s = ⟨(s.data.toList ++ ns.map fun n => UInt8.ofNat n.toNat).toArray⟩
  | [], s => by simp
  | n :: ns, s => by
    rw [List.foldl_cons, push_fold ns]
    congr 1
    simp
theorem s_conv {s d : TypeId} {y : Operand} (ho : o.op = .convert s d y) (e : oConv P s d y fr h n = some x) : Oo P o fr h n x := by
  unfold oConv oCvV at e
  split at e
  · rename_i b q m c hv
    unfold oCvB at e
    split at e
    · rename_i e' hu hud
      split at e
      · rename_i hue
        obtain ⟨l, hl, e⟩ := bind_some e
        obtain ⟨cs, hcs, hl⟩ := bind_some hl
        obtain ⟨zs, hzs, hl⟩ := bind_some hl
        cases e
        obtain ⟨t1, t2⟩ := take'_some hzs
        rw [drop'_eq] at t1
        refine ⟨Ss.read _ _ _, fun k W a K' Q hop H _ hk => ?_⟩
        have h1 := hop y (by simp [ho, Op.operands])
        rw [hv] at h1
        obtain ⟨_, b', zz, cap, hkb, h7, _⟩ := h1.slc_inv
        obtain ⟨b2, vs, sp, ty, e1, e2, e3⟩ := (H.rep b (tb_bit.2 rfl) cs hcs).cel hkb
        have hkb' : k b = some (b', zz + 1) := hkb
        rw [hkb'] at e1; cases e1
        have h3 : LR (VX k) zs ((vs.drop q).take m) := by rw [t1]; exact (e3.drop q).take _
        obtain ⟨ns, n1, n2⟩ := bytes'_some hl h3
        have hload : (loadCells ⟨b', q, none⟩ m).run P W = .ok (ns.map (Value.int .u8)).toArray W := by
          have hlen : (ns.map (Value.int .u8)).length = m := by rw [← n1, h3.len, t2]
          have := run_loadCells_list (P := P) W ⟨b', q, none⟩ (ns.map (Value.int .u8)) (fun j u hu' => by
            rw [Addr.add_mid, cell_of e2]
            rw [← n1, List.getElem?_take] at hu'
            split at hu'
            · rw [List.getElem?_drop] at hu'
              rw [List.getElem?_append_left (List.getElem?_eq_some_iff.1 hu').1]; exact hu'
            · cases hu')
          rw [hlen] at this
          exact this
        have hrun := run_bytesToString (P := P) W ⟨b', q, none⟩ m cap ns hload
        rw [← run_convert_bytes_string W s d e' _ _ _ hu hue hud, push_fold] at hrun
        unfold Oper.wp
        have : (execOp a.eval o).run P W = .ok (.value (.string ⟨l.toArray⟩)) W := by
          simp only [execOp, ho, h7]
          rw [Sem.run_bind, hrun, n2]
          rfl
        rw [this, Oper.upon_value]
        exact hk _ W k (Sd.read H) (VX.of0 rfl)
      · cases e
    · cases e
  · obtain ⟨h1, e⟩ := bif_some e
    obtain ⟨v, h2, e⟩ := bind_some e
    obtain ⟨h3, e⟩ := bif_some e
    refine Oo.val e fun k W a hop => ⟨v, flat1_vx h3, ?_⟩
    have e1 := flat1_eq (hop y (by simp [ho, Op.operands])) h1
    simp only [execOp, ho, e1]
    rw [Sem.run_bind, pr_run _ _ h2]
    rfl
/-- A call: entered, or answered at once. -/
def CallS (P : Program) (f : FuncId) (args : Array Value) (W : World) (R : Ending → World → Prop) : Prop := ((callFunc f args).run P W = .ok (.enter f args) W ∧ Calls P f args W R) ∨ ∃ u, (callFunc f args).run P W = .ok (.value u) W ∧ R (.returned u) W
/-- What is said of calls. -/
def Cs (P : Program) (cf : Nat → List Value → HT → Nat → Option R5) : Prop := ∀ f vs h n x, (∀ i, n ≤ i → hget h i = none) → cf f vs h n = some x → Ss h n x.h x.n x.r x.w ∧
  ∀ (k : K) (W : World) (us : List Value), LR (VX k) vs us → HR k h W x.r → (∀ i, n ≤ i → i < x.n → k i = none) → CallS P f us.toArray W fun e W' => ∃ u k', e = .returned u ∧ Sd h n x.h x.n x.r x.w k W k' W' ∧ VX k' x.v u
theorem s_call {cf : Nat → List Value → HT → Nat → Option R5} {y : Operand} {xs : Array Operand} {ts : Array TypeId} (hcf : Cs P cf) (ho : o.op = .call { callee := .value y, args := xs, argTypes := ts }) (nn : ∀ i, n ≤ i → hget h i = none)
    (e : oCall cf (evo fr y) (evl fr xs.toList) h n = some x) : Oo P o fr h n x := by
  unfold oCall at e
  split at e
  · rename_i f first captured hv
    obtain ⟨h1, h3⟩ := hcf _ _ _ _ _ nn e
    refine ⟨h1, fun k W a K' Q hop H hnew hk => ?_⟩
    have h4 := hop y (by rw [ho]; simp [Op.operands, Call.operands])
    rw [hv] at h4
    obtain ⟨fi, ca, h5, h6, h7⟩ := h4.func_inv
    have h8 := evl_rel (fr := fr) (k := k) (a := a) xs.toList (fun y hy => hop y (by rw [ho]; simp [Op.operands, Call.operands]; right; simpa using hy))
    have h9 := h3 k W (fi ++ xs.toList.map a.eval ++ ca) ((h6.app h8).app h7) H hnew
    have hrun : (execOp a.eval o).run P W = (callFunc f (fi ++ xs.toList.map a.eval ++ ca).toArray).run P W := by
      simp only [execOp, ho, resolve, h5, Deferred.ofValue, invoke, Sem.run_bind, Sem.run_pure, Result.andThen_ok]
      congr 2
      apply Array.ext'
      simp
    unfold Oper.wp
    rw [hrun]
    rcases h9 with ⟨h2, h9⟩ | ⟨u, h2, u', k', e', hd, hvx⟩
    · rw [h2, Oper.upon_enter]
      refine h9.mono ?_
      rintro e W' ⟨u, k', rfl, hd, hvx⟩
      exact hk u W' k' hd hvx
    · cases e'
      rw [h2, Oper.upon_value]
      exact hk u W k' hd hvx
  · cases e
/-! Maps. -/
theorem mapT_some {t : TypeId} {p : TypeId × TypeId} (h : mapT P t = some p) : P.underlying t = some (.map p.1 p.2) := by
  unfold mapT at h
  split at h
  · rename_i a b hu; cases h; exact hu
  · cases h
theorem mkeq_ok {d : TypeDesc} {k a u : Value} {kk : K} {c : Bool} (hd : (d = .string ∧ ∃ s, k = .string s) ∨ (∃ j, d = .int j) ∧ ∃ j x, k = .int j x) (hu : VX kk a u) (e : mkeq k a = some c) : Instr.sameNow d k u = some c ∧ (c = true → u = k) := by
  rcases hd with ⟨rfl, s, rfl⟩ | ⟨⟨j0, rfl⟩, j, x, rfl⟩
  · unfold mkeq at e
    simp only at e
    split at e
    · rename_i t
      rw [hu.str_inv]
      cases e
      rw [beqL_eq]
      by_cases h : s = t
      · subst h; have := (MapKept.bytes_beq s s).2 rfl; simp [Instr.sameNow, this]
      · have h1 : ¬ s.data = t.data := fun e => h (by cases s; cases t; simp_all)
        have h2 : (s.data.toList == t.data.toList) = false := by
          rw [beq_eq_false_iff_ne]; intro e; exact h1 (Array.toList_inj.1 e)
        refine ⟨?_, fun e => by rw [h2] at e; cases e⟩
        have h3 : (s == t) = false := by cases e : (s == t) with
          | false => rfl
          | true => exact absurd ((MapKept.bytes_beq s t).1 e) h
        simp [Instr.sameNow, h2, h3]
    · cases e
  · unfold mkeq at e
    simp only at e
    split at e
    · rename_i j' y
      obtain ⟨h1, e2⟩ := bif_some e
      have h1 : j = j' := of_decide_eq_true h1
      subst h1
      rw [hu.int_inv]
      have h3 : ieq x y = c := Option.some.inj e2
      rw [ieq_eq] at h3
      refine ⟨by simp [Instr.sameNow, h3], fun e => ?_⟩
      subst e
      rw [beq_iff_eq.1 h3]
    · cases e
theorem isKey_some {t : TypeId} {k : Value} (h : isKey P t k = true) : ∃ d, P.underlying t = some d ∧ ((d = .string ∧ ∃ s, k = .string s) ∨ (∃ j, d = .int j) ∧ ∃ j x, k = .int j x) := by
  unfold isKey at h
  split at h
  · rename_i hu
    split at h
    · exact ⟨_, hu, Or.inl ⟨rfl, _, rfl⟩⟩
    · cases h
  · rename_i hu
    split at h
    · exact ⟨_, hu, Or.inr ⟨⟨_, rfl⟩, _, _, rfl⟩⟩
    · cases h
  · cases h
theorem mfd_ok {d : TypeDesc} {k : Value} {kk : K} (hd : (d = .string ∧ ∃ s, k = .string s) ∨ (∃ j, d = .int j) ∧ ∃ j x, k = .int j x) : ∀ (es : List MapEntry) (cs : List Value) (i : Nat) (r : Option (Nat × Value)), LR (VX kk) cs (es.flatMap fun e => [e.key, e.val]) → mfd k i cs = some r →
    match r with
    | none => Instr.findNow d k es i = some none
    | some (j, v) => i ≤ j ∧ (∃ u, VX kk v u ∧ Instr.findNow d k es i = some (some (j, u))) ∧ (∃ e, es[j - i]? = some e ∧ e.key = k) ∧ ∀ w x, VX kk w x → LR (VX kk) (mset k w (j - i) cs) ((es.modify (j - i) fun e => { e with key := k, val := x }).flatMap fun e => [e.key, e.val])
  | [], cs, i, r, h, e => by
    have : cs = [] := by
      cases cs with
      | nil => rfl
      | cons a l => obtain ⟨_, _, h, _⟩ := h; cases h
    subst this
    cases e
    rfl
  | en :: es, cs, i, r, h, e => by
    match cs, h, e with
    | [], h, e => cases h
    | [a], h, e => cases e
    | a :: v :: l, h, e =>
      obtain ⟨y, ys, h1, r1, z, zs, h2, r2, h3⟩ := h
      subst h2
      have h1' : [en.key, en.val] ++ es.flatMap (fun e => [e.key, e.val]) = y :: z :: zs := h1
      simp only [List.cons_append, List.nil_append, List.cons.injEq] at h1'
      obtain ⟨rfl, rfl, rfl⟩ := h1'
      unfold mfd at e
      split at e
      · rename_i hq
        cases e
        obtain ⟨q1, q2⟩ := mkeq_ok hd r1 hq
        refine ⟨Nat.le_refl _, ⟨_, r2, by unfold Instr.findNow; rw [q1]⟩, ⟨en, by simp, q2 rfl⟩, fun w x hw => ?_⟩
        simp only [Nat.sub_self, mset, List.modify_zero_cons, List.flatMap_cons, List.cons_append, List.nil_append]
        refine ⟨k, _, rfl, ?_, x, _, rfl, hw, h3⟩
        rcases hd with ⟨_, s, rfl⟩ | ⟨_, j, x', rfl⟩
        · exact VX.of0 rfl
        · exact VX.of0 rfl
      · rename_i hq
        obtain ⟨q1, _⟩ := mkeq_ok hd r1 hq
        have ih := mfd_ok hd es l (i + 1) r h3 e
        cases r with
        | none => show Instr.findNow d k (en :: es) i = _; unfold Instr.findNow; rw [q1]; exact ih
        | some p =>
          obtain ⟨j, v'⟩ := p
          obtain ⟨i1, ⟨u, i2, i3⟩, i4, i5⟩ := ih
          have hs : j - i = (j - (i + 1)) + 1 := by omega
          refine ⟨by omega, ⟨u, i2, by unfold Instr.findNow; rw [q1]; exact i3⟩, ?_, fun w x hw => ?_⟩
          · rw [hs, List.getElem?_cons_succ]; exact i4
          · rw [hs, List.modify_succ_cons]
            simp only [mset, List.flatMap_cons, List.cons_append, List.nil_append]
            exact ⟨_, _, rfl, r1, _, _, rfl, r2, i5 w x hw⟩
      · cases e
theorem ck_run {d : TypeDesc} {t : TypeId} {k : Value} (hu : P.underlying t = some d) (hd : (d = .string ∧ ∃ s, k = .string s) ∨ (∃ j, d = .int j) ∧ ∃ j x, k = .int j x) (b : Bool) (W : World) : (Instr.checkKey b 10000 t k).run P W = .ok () W := by
  unfold Instr.checkKey
  simp only [Sem.run_bind, run_underlying hu, Result.andThen]
  rcases hd with ⟨rfl, s, rfl⟩ | ⟨⟨j0, rfl⟩, j, x, rfl⟩ <;> rfl
theorem isKey_eq {k : K} {u v : Value} {d : TypeDesc} (hd : (d = .string ∧ ∃ s, v = .string s) ∨ (∃ j, d = .int j) ∧ ∃ j x, v = .int j x) (h : VX k v u) : u = v := by
  rcases hd with ⟨_, s, rfl⟩ | ⟨_, j, x, rfl⟩
  · exact h.str_inv
  · exact h.int_inv
theorem pack_vx {k : K} {ok : Bool} {v u : Value} {b : Bool} (h : VX k v u) : VX k (pack ok v b) (if ok then .tuple #[u, .bool b] else u) := by
  cases ok with
  | false => exact h
  | true => exact VX.tuple (cs := [v, .bool b]) (us := [u, .bool b]) ⟨_, _, rfl, h, _, _, rfl, VX.of0 rfl, rfl⟩
theorem s_map {t : TypeId} {r : Option Operand} (ho : o.op = .makeMap t r) (e : oMap r fr h n = some x) : Oo P o fr h n x := by
  obtain ⟨h0, e⟩ := bif_some e
  obtain ⟨hn, rfl⟩ := oNew_some e
  have hr : r = none := by cases r <;> simp_all
  subst hr
  have hcs : hget (hs12 h n (some [])) n = some [] := hget_same _ hn
  have hd : ∀ i, i ≠ n → hget (hs12 h n (some [])) i = hget h i := fun i hi => hget_ne _ hn (Ne.symm hi)
  have hl0 : Nat.lor 0 (bit n) = bit n := by show 0 ||| bit n = bit n; simp
  rw [hl0]
  refine ⟨Ss.new (tb_bit.2 rfl) (fun i hi => Or.inl (hd i hi)) (fun i hi => Or.inl (tb_bit.1 hi).symm), fun k W a K' Q hop H hnew hk => ?_⟩
  have hkn : k n = none := hnew n (Nat.le_refl _) (Nat.lt_succ_self _)
  have hrun : (execOp a.eval o).run P W = .ok (.value (.map (some W.heap.size))) (W.alloc (.map #[] 0)) := by
    have : (Instr.makeMap t none).run P W = .ok (.map (some W.heap.size)) (W.alloc (.map #[] 0)) := rfl
    simp [execOp, ho, this]
  unfold Oper.wp
  rw [hrun, Oper.upon_value]
  refine hk _ _ _ (Sd.newM (B := W.heap.size) (es := #[]) hcs hd hkn (Nat.le_refl _) ⟨by show (W.heap.push _)[_]? = _; simp, fun j e h => (by simp at h)⟩ rfl (fun b hb => by show (W.heap.push _)[b]? = _; rw [Array.getElem?_push, if_neg (by omega)]) (by show _ ≤ (W.heap.push _).size; simp) rfl ⟨rfl, Nat.le_refl _⟩ rfl (fun a => by
    unfold World.frozen?
    by_cases e : a.block = W.heap.size
    · rw [e, (MapKept.heap_alloc W _).1]; simp
    · rw [show (W.alloc (.map #[] 0)).heap[a.block]? = W.heap[a.block]? by show (W.heap.push _)[a.block]? = _; rw [Array.getElem?_push, if_neg e]])) (VX.of0 ⟨_, if_pos rfl, rfl⟩)
theorem s_get {t : TypeId} {y i : Operand} {ok : Bool} (ho : o.op = .lookup t y i ok) (e : oGet P t y i ok fr h n = some x) : Oo P o fr h n x := by
  obtain ⟨p, hp, e⟩ := bind_some e
  obtain ⟨hk, e⟩ := bif_some e
  have hmt := mapT_some hp
  obtain ⟨d, hd1, hd2⟩ := isKey_some hk
  have zero : ∀ r, oGet0 P p.2 ok h n r = some x → ∃ z, x = ⟨pack ok z false, h, n, r, 0⟩ ∧ (∀ k : K, VX k z z) ∧ ∀ W, (zeroValue p.2).run P W = .ok z W := by
    intro r e
    obtain ⟨z, hz, e⟩ := bind_some e
    obtain ⟨hc, e⟩ := bif_some e
    cases e
    obtain ⟨inf, hi, hzi⟩ := zeroOf_info hz
    exact ⟨z, rfl, fun k => cok_vx hc, fun W => by simp [zeroValue, typeInfo, hi, hzi]⟩
  unfold oGetV at e
  split at e
  · rename_i hv
    obtain ⟨z, rfl, hz1, hz2⟩ := zero _ e
    refine Oo.val rfl fun k W a hop => ⟨_, pack_vx (hz1 k), ?_⟩
    have h1 := hop y (by simp [ho, Op.operands])
    have h2 := isKey_eq hd2 (hop i (by simp [ho, Op.operands]))
    rw [hv] at h1
    have h3 : a.eval y = .map none := h1.v0 trivial
    cases ok <;> simp [execOp, ho, h2, h3, Instr.lookup, run_underlying hmt, ck_run hd1 hd2, Instr.findKey, run_underlying hd1, Instr.findNow, hz2, Result.andThen]
  · rename_i j hv
    obtain ⟨cs, hcs, e⟩ := bind_some e
    obtain ⟨r, hr, e⟩ := bind_some e
    have key : ∀ v, (∀ (k : K) (W : World) (b : Nat) (es : Array MapEntry), MapAt W b es → LR (VX k) cs (kvs es) → ∃ u, VX k v u ∧ (Instr.lookup t (.map (some b)) (evo fr i) ok).run P W = .ok u W) → Oo P o fr h n ⟨v, h, n, bit j, 0⟩ := by
      intro v hl
      refine ⟨Ss.read _ _ _, fun k W a K' Q hop H _ hk => ?_⟩
      have h1 := hop y (by simp [ho, Op.operands])
      have h2 := isKey_eq hd2 (hop i (by simp [ho, Op.operands]))
      rw [hv] at h1
      obtain ⟨b, hb, h3⟩ := h1.map_inv
      obtain ⟨es, e1, e2⟩ := (H.rep j (tb_bit.2 rfl) cs hcs).map hb
      obtain ⟨u, h4, h5⟩ := hl k W b es e1 e2
      unfold Oper.wp
      have : (execOp a.eval o).run P W = .ok (.value u) W := by simp [execOp, ho, h2, h3, h5]
      rw [this, Oper.upon_value]
      exact hk u W k (Sd.read H) h4
    cases r with
    | none =>
      obtain ⟨z, rfl, hz1, hz2⟩ := zero _ e
      refine key _ fun k W b es e1 e2 => ⟨_, pack_vx (hz1 k), ?_⟩
      have h6 := mfd_ok hd2 es.toList cs 0 none e2 hr
      have h6 : Instr.findNow d (evo fr i) es.toList 0 = some none := h6
      cases ok <;> simp [Instr.lookup, run_underlying hmt, MapKept.run_getObj_map e1.1, ck_run hd1 hd2, Instr.findKey, run_underlying hd1, h6, hz2, Result.andThen]
    | some q =>
      obtain ⟨jj, v⟩ := q
      cases e
      refine key _ fun k W b es e1 e2 => ?_
      obtain ⟨_, ⟨u, h7, h8⟩, _⟩ := mfd_ok hd2 es.toList cs 0 (some (jj, v)) e2 hr
      refine ⟨_, pack_vx h7, ?_⟩
      cases ok <;> simp [Instr.lookup, run_underlying hmt, MapKept.run_getObj_map e1.1, ck_run hd1 hd2, Instr.findKey, run_underlying hd1, h8, Result.andThen]
  · cases e
theorem born_push {es : Array MapEntry} {k v : Value} (h : ∀ (j : Nat) (e : MapEntry), es[j]? = some e → e.born = j) (j : Nat) (e : MapEntry) (he : (es.push { key := k, val := v, born := es.size })[j]? = some e) : e.born = j := by
  rw [Array.getElem?_push] at he
  split at he
  · rename_i hj; cases he; exact hj.symm
  · exact h j e he
theorem born_mod {es : Array MapEntry} {i : Nat} {f : MapEntry → MapEntry} (h : ∀ (j : Nat) (e : MapEntry), es[j]? = some e → e.born = j) (hf : ∀ e, (f e).born = e.born) (j : Nat) (e : MapEntry) (he : (es.modify i f)[j]? = some e) : e.born = j := by
  rw [Array.getElem?_modify] at he
  cases hj : es[j]? with
  | none => rw [hj] at he; split at he <;> cases he
  | some e0 =>
    rw [hj] at he
    have := h j e0 hj
    split at he
    · simp at he; rw [← he, hf]; exact this
    · cases he; exact this
theorem s_put {t : TypeId} {m y z : Operand} (ho : o.op = .mapUpdate t m y z ∨ o.op = .insert t m y z) (nn : ∀ i, n ≤ i → hget h i = none) (e : oPut P t m y z fr h n = some x) : Oo P o fr h n x := by
  obtain ⟨p, hp, e⟩ := bind_some e
  obtain ⟨hk, e⟩ := bif_some e
  have hmt := mapT_some hp
  obtain ⟨d, hd1, hd2⟩ := isKey_some hk
  unfold oPutV at e
  split at e
  · rename_i j hv
    obtain ⟨cs, hcs, e⟩ := bind_some e
    obtain ⟨r, hr, e⟩ := bind_some e
    have hj := hget_lt hcs
    have key : ∀ cs', (∀ (k : K) (W : World) (b : Nat) (es : Array MapEntry) (u : Value), VX k (evo fr z) u → MapAt W b es → LR (VX k) cs (kvs es) → ∃ es', LR (VX k) cs' (kvs es') ∧ (∀ (j : Nat) (e : MapEntry), es'[j]? = some e → e.born = j) ∧ (Instr.mapUpdate t (.map (some b)) (evo fr y) u).run P W = .ok () { W with heap := W.heap.setIfInBounds b (.map es' es'.size) }) → Oo P o fr h n ⟨undef, hs12 h j (some cs'), n, bit j, bit j⟩ := by
      intro cs' hl
      refine ⟨Ss.write nn hj hcs, fun k W a K' Q hop H _ hk => ?_⟩
      have h1 := hop m (by rcases ho with ho | ho <;> simp [ho, Op.operands])
      have h2 := isKey_eq hd2 (hop y (by rcases ho with ho | ho <;> simp [ho, Op.operands]))
      have h9 := hop z (by rcases ho with ho | ho <;> simp [ho, Op.operands])
      rw [hv] at h1
      obtain ⟨b, hb, h3⟩ := h1.map_inv
      obtain ⟨es, e1, e2⟩ := (H.rep j (tb_bit.2 rfl) cs hcs).map hb
      obtain ⟨es', h4, hbo, h5⟩ := hl k W b es _ h9 e1 e2
      have hlt := (Array.getElem?_eq_some_iff.1 e1.1).1
      unfold Oper.wp
      have : (execOp a.eval o).run P W = .ok .skip { W with heap := W.heap.setIfInBounds b (.map es' es'.size) } := by rcases ho with ho | ho <;> simp [execOp, ho, h2, h3, h5]
      rw [this, Oper.upon_skip]
      refine hk undef _ k (Sd.writeM (B := b) (es := es') hj hcs hb ⟨by show (W.heap.setIfInBounds b _)[b]? = _; simp [hlt], hbo⟩ h4 (fun b' hne _ => by show (W.heap.setIfInBounds b _)[b']? = _; rw [Array.getElem?_setIfInBounds_ne (Ne.symm hne)]) (by show _ ≤ (W.heap.setIfInBounds b _).size; simp) rfl ⟨rfl, Nat.le_refl _⟩ rfl (fun ad => by
        by_cases eb : ad.block = b
        · have h9 : (W.heap.setIfInBounds b (.map es' es'.size))[b]? = some (.map es' es'.size) := by simp [hlt]
          simp only [World.frozen?, eb, h9, e1.1]
        · refine World.frozen?_of_block ?_
          show (W.heap.setIfInBounds b _)[ad.block]? = _
          rw [Array.getElem?_setIfInBounds_ne (fun e2 => eb e2.symm)])) undef_vx
    cases r with
    | none =>
      cases e
      refine key _ fun k W b es u hu e1 e2 => ⟨es.push { key := evo fr y, val := u, born := es.size }, ?_, born_push e1.2, ?_⟩
      · have : kvs (es.push { key := evo fr y, val := u, born := es.size }) = kvs es ++ [evo fr y, u] := by simp [kvs]
        rw [this]
        refine e2.app ⟨_, _, rfl, ?_, _, _, rfl, hu, rfl⟩
        rcases hd2 with ⟨_, s, hs⟩ | ⟨_, j', x', hs⟩ <;> rw [hs] <;> exact VX.of0 rfl
      · have h6 : Instr.findNow d (evo fr y) es.toList 0 = some none := mfd_ok hd2 es.toList cs 0 none e2 hr
        unfold Instr.mapUpdate
        simp [run_underlying hmt, MapKept.run_getObj_map e1.1, ck_run hd1 hd2, Instr.findKey, run_underlying hd1, h6, MapKept.run_setObj_map _ e1.1, Result.andThen, Array.size_push]
    | some q =>
      obtain ⟨jj, v⟩ := q
      cases e
      refine key _ fun k W b es u hu e1 e2 => ?_
      obtain ⟨_, ⟨u', h7, h8⟩, ⟨en, h9, h10⟩, h11⟩ := mfd_ok hd2 es.toList cs 0 (some (jj, v)) e2 hr
      rw [Nat.sub_zero] at h9 h11
      refine ⟨es.modify jj fun e => { e with key := evo fr y, val := u }, ?_, born_mod e1.2 (fun _ => rfl), ?_⟩
      · have := h11 (evo fr z) u hu
        unfold kvs
        rw [Array.toList_modify]; exact this
      · have h12 : (es[jj]?).map (·.key) = some (evo fr y) := by rw [← Array.getElem?_toList, h9, Option.map_some, h10]
        have h13 : Instr.sameBits 10000 (evo fr y) (evo fr y) = true := by
          rcases hd2 with ⟨_, s, hs⟩ | ⟨_, j', x', hs⟩
          · rw [hs]; exact (MapKept.bytes_beq s s).2 rfl
          · rw [hs]; simp [Instr.sameBits]
        unfold Instr.mapUpdate
        simp only [Sem.run_bind, run_underlying hmt, MapKept.run_getObj_map e1.1, ck_run hd1 hd2, Instr.findKey, run_underlying hd1, h8, Result.andThen_ok, Sem.run_pure, h12, Option.getD_some, Instr.keyThatStays, h13, if_true, MapKept.run_setObj_map _ e1.1, Array.size_modify]
  · cases e
theorem s_min {ts : Array TypeId} {xs : Array Operand} (ho : o.op = .call { callee := .builtin .min, args := xs, argTypes := ts }) (e : oMin P (evl fr xs.toList) h n = some x) : Oo P o fr h n x := by
  obtain ⟨h1, e⟩ := bif_some e
  obtain ⟨v, h2, e⟩ := bind_some e
  obtain ⟨h3, e⟩ := bif_some e
  refine Oo.val e fun k W a hop => ⟨v, flat1_vx h3, ?_⟩
  have h4 := evl_rel (fr := fr) (k := k) (a := a) xs.toList (fun y hy => hop y (by rw [ho]; simpa [Op.operands, Call.operands] using hy))
  have h5 := flatL_eq h4 h1
  have h6 : xs.map a.eval = (evl fr xs.toList).toArray := by apply Array.ext'; rw [← h5]; simp
  have h7 := pr_run _ _ h2 W
  simp only [execOp, ho, resolve, invoke, builtin, Sem.run_bind, Sem.run_pure, Result.andThen_ok, h6]
  rw [show Builtin.min_ ts o.type (evl fr xs.toList).toArray = Builtin.min_ #[] 0 (evl fr xs.toList).toArray from rfl, h7]
  rfl
/-- Every operation. -/
theorem s_op {cf : Nat → List Value → HT → Nat → Option R5} (hcf : Cs P cf) (nn : ∀ i, n ≤ i → hget h i = none) (e : op1 P cf o.op fr h n = some x) : Oo P o fr h n x := by
  cases hop : o.op with
  | move y => rw [hop] at e; exact s_move (Or.inl hop) e
  | assign y => rw [hop] at e; exact s_move (Or.inr hop) e
  | pick c y z => rw [hop] at e; exact s_pick hop e
  | extract y i => rw [hop] at e; exact s_ext hop e
  | nilCheck y => rw [hop] at e; exact s_nil hop e
  | fieldAddr t y f => rw [hop] at e; exact s_field hop e
  | indexAddr t y i => rw [hop] at e; exact s_indA hop e
  | index t y i => rw [hop] at e; exact s_ind2 hop e
  | field s y f => rw [hop] at e; exact s_fieldV hop e
  | slice t y l i m => rw [hop] at e; exact s_slice hop e
  | build t ps => rw [hop] at e; exact s_build hop e
  | buildSlice t l ps => rw [hop] at e; exact s_buildS hop nn e
  | load t y => rw [hop] at e; exact s_load hop e
  | store t y z => rw [hop] at e; exact s_store hop nn e
  | alloc t => rw [hop] at e; exact s_alloc hop nn e
  | box t y => rw [hop] at e; exact s_box hop nn e
  | binOp p t y z u => rw [hop] at e; exact s_bin hop e
  | unOp p t y => rw [hop] at e; exact s_un hop e
  | convert s d y => rw [hop] at e; exact s_conv hop e
  | makeSlice t l c => rw [hop] at e; exact s_make hop nn e
  | makeFunc f a c => rw [hop] at e; exact s_func hop e
  | makeMap t r => rw [hop] at e; exact s_map hop e
  | lookup t y i ok => rw [hop] at e; exact s_get hop e
  | mapUpdate t m y z => rw [hop] at e; exact s_put (Or.inl hop) nn e
  | insert t m y z => rw [hop] at e; exact s_put (Or.inr hop) nn e
  | call c =>
    rw [hop] at e
    obtain ⟨cal, xs, ts⟩ := c
    cases cal with
    | value y => exact s_call hcf hop nn e
    | builtin b => cases b with
      | len => exact s_len hop e
      | append => exact s_app hop nn e
      | min => exact s_min hop e
      | _ => cases e
    | invoke r m => cases e
  | _ => rw [hop] at e; cases e
end
end E
end Go.Proofs.YtfmfeipeeedfpaaGreat
