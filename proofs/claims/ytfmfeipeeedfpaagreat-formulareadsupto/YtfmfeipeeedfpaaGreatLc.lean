/-
  Loads, stores, new blocks, slices, appends: each is what the run does. Appends, bytes as a text, calls; every operation. Frames; a region's operations one behind the other.
-/
import Derived.Test.YtfmfeipeeedfpaaGreatLb
import Derived.Laws.MakeOwn
import Derived.MapKept
namespace Go.Proofs.YtfmfeipeeedfpaaGreat
namespace S
open Go.CheckFast (force force_eq)
section
variable {P : Program} {o : Oper} {fr : FT} {h : HT} {n : Nat} {x : R5}
theorem isRow_some {t : TypeId} {b : Bool} (e : isRow P t = some b) : ∃ d, P.underlying t = some d ∧ d.isRow = b := by
  unfold isRow at e
  split at e
  · rename_i hu; cases e; exact ⟨_, hu, rfl⟩
  · rename_i hu; cases e; exact ⟨_, hu, rfl⟩
  · rename_i d h1 h2 hu
    cases e
    refine ⟨d, hu, ?_⟩
    cases d <;> first | rfl | exact (h1 _ rfl).elim | exact (h2 _ _ rfl).elim
  · cases e
/-- What a load yields. -/
theorem ld_ok {t : TypeId} {b q : Nat} (e : oLd P t h n b q = some x) : x.h = h ∧ x.n = n ∧ x.r = bit b ∧ x.w = 0 ∧
    ∀ (k : K) (W : World) (b' z : Nat), HR k h W (bit b) → k b = some (b', z + 1) → ∃ u, VX k x.v u ∧ (loadVar t ⟨b', q, none⟩).run P W = .ok u W := by
  obtain ⟨cs, hcs, e⟩ := bind_some e
  obtain ⟨row, hrow, e⟩ := bind_some e
  obtain ⟨d, hu, hd⟩ := isRow_some hrow
  have rep : ∀ (k : K) (W : World) (b' z : Nat), HR k h W (bit b) → k b = some (b', z + 1) → ∃ us sp ty, W.heap[b']? = some (.cells (us ++ sp).toArray ty (0, 0)) ∧ LR (VX k) cs us := by
    intro k W b' z H hk
    obtain ⟨b2, us, sp, ty, e1, e2, e3⟩ := (H.rep b (tb_bit.2 rfl) cs hcs).cel hk
    rw [hk] at e1; cases e1
    exact ⟨us, sp, ty, e2, e3⟩
  cases row with
  | true =>
    obtain ⟨m, hm, e⟩ := bind_some (x := szOf P t) e
    obtain ⟨vs, hvs, e⟩ := bind_some e
    cases e
    refine ⟨rfl, rfl, rfl, rfl, fun k W b' z H hk => ?_⟩
    obtain ⟨us, sp, ty, e2, e3⟩ := rep k W b' z H hk
    obtain ⟨h1, h2⟩ := take'_some hvs
    rw [drop'_eq] at h1
    have h3 : LR (VX k) vs ((us.drop q).take m) := by rw [h1]; exact (e3.drop q).take m
    refine ⟨_, VX.agg h3, run_loadVar_mid W b' q t _ d (fun j v hv => ?_) hu hd ?_⟩
    · rw [cell_of e2, List.getElem?_append_left]
      · rw [List.getElem?_take] at hv
        split at hv
        · rw [List.getElem?_drop] at hv; exact hv
        · cases hv
      · rw [List.getElem?_take] at hv
        split at hv
        · rw [List.getElem?_drop] at hv; exact (List.getElem?_eq_some_iff.1 hv).1
        · cases hv
    · obtain ⟨i, hi, hs⟩ := szOf_info hm
      rw [hi]
      simp only [Option.map_some, Option.some.injEq]
      rw [hs, h3.len, h2]
  | false =>
    obtain ⟨v, hv, e⟩ := bind_some (x := nth q cs) e
    cases e
    refine ⟨rfl, rfl, rfl, rfl, fun k W b' z H hk => ?_⟩
    obtain ⟨us, sp, ty, e2, e3⟩ := rep k W b' z H hk
    rw [nth_get] at hv
    obtain ⟨u, h1, h2⟩ := e3.get hv
    refine ⟨u, h2, ?_⟩
    have hagg : (isAgg t).run P W = .ok false W := by
      unfold isAgg
      rw [Sem.run_bind, run_underlying hu W]
      cases d <;> simp_all
    have hc : W.cell? ⟨b', q, none⟩ = some u := by rw [cell_of e2, List.getElem?_append_left (List.getElem?_eq_some_iff.1 h1).1]; exact h1
    simp [loadVar, Sem.run_bind, hagg, hc]
theorem onA_some {α : Type} {v : Value} {f : List Value → Option α} {y : α} (e : onA v f = some y) : ∃ cs : Array Value, v = .agg cs ∧ f cs.toList = some y := by
  unfold onA at e
  split at e
  · exact ⟨_, rfl, e⟩
  · cases e
theorem part_ok {t : TypeId} {cs : List Value} {off : Nat} {v : Value} (e : oPart P t cs off = some v) {k : K} {us : List Value} (hl : LR (VX k) cs us) (W : World) : ∃ u, VX k v u ∧ (part t us.toArray off).run P W = .ok u W := by
  unfold oPart at e
  obtain ⟨row, hrow, e⟩ := bind_some e
  obtain ⟨d, hu, hd⟩ := isRow_some hrow
  have hagg : (isAgg t).run P W = .ok row W := by
    unfold isAgg
    rw [Sem.run_bind, run_underlying hu W]
    subst hd
    cases d <;> rfl
  cases row with
  | true =>
    obtain ⟨m, hm, e⟩ := bind_some (x := szOf P t) e
    obtain ⟨vs, hvs, e⟩ := bind_some e
    cases e
    obtain ⟨h1, h2⟩ := take'_some hvs
    rw [drop'_eq] at h1
    have h3 : LR (VX k) vs ((us.drop off).take m) := by rw [h1]; exact (hl.drop off).take m
    obtain ⟨i, hi, hs⟩ := szOf_info hm
    refine ⟨_, VX.agg h3, ?_⟩
    simp [part, Sem.run_bind, hagg, sizeOf, typeInfo, hi, hs]
  | false =>
    have e : nth off cs = some v := e
    rw [nth_get] at e
    obtain ⟨u, h1, h2⟩ := hl.get e
    refine ⟨u, h2, ?_⟩
    have h3 : us.toArray[off]? = some u := by simpa using h1
    simp only [part, Sem.run_bind, hagg, Result.andThen_ok, h3]
    rfl
theorem s_indV {t : TypeId} {y ix : Operand} (ho : o.op = .index t y ix) (e : oIndV P t y ix fr h n = some x) : Oo P o fr h n x := by
  unfold oIndV at e
  split at e
  · rename_i len e' hu
    obtain ⟨cs, hv, e⟩ := onA_some e
    obtain ⟨ki, i, hi, e⟩ := onI_some e
    obtain ⟨j, hj, e⟩ := bind_some e
    obtain ⟨m, hm, e⟩ := bind_some e
    obtain ⟨v, hp, e⟩ := bind_some e
    obtain ⟨hj1, hj2⟩ := idx_some hj
    refine Oo.val e fun k W a hop => ?_
    have h2 := hop y (by simp [ho, Op.operands])
    have h2' := hop ix (by simp [ho, Op.operands])
    rw [hv] at h2; rw [hi] at h2'
    obtain ⟨us, h3, h5⟩ := h2.agg_inv
    have h4 := h2'.int_inv
    obtain ⟨u, h6, h7⟩ := part_ok hp h5 W
    obtain ⟨inf, hinf, hsz⟩ := szOf_info hm
    refine ⟨u, h6, ?_⟩
    have h8 : (part e' us.toArray (j * m)).run P W = .ok u W := h7
    simp [execOp, ho, h3, h4, hj1, Instr.index, asIntOf, run_underlying hu, sizeOf, typeInfo, hinf, hsz, hj2, h8]
  · cases e
theorem s_ind2 {t : TypeId} {y ix : Operand} (ho : o.op = .index t y ix) (e : oInd2 P t y ix fr h n = some x) : Oo P o fr h n x := by
  unfold oInd2 at e
  cases hs : isStr P t with
  | true => rw [hs] at e; exact s_ind ho e
  | false => rw [hs] at e; exact s_indV ho e
theorem s_fieldV {s : TypeId} {y : Operand} {f : Nat} (ho : o.op = .field s y f) (e : oFieldV P s y f fr h n = some x) : Oo P o fr h n x := by
  unfold oFieldV at e
  split at e
  · rename_i fs hu
    split at e
    · rename_i fd hfd
      obtain ⟨cs, hv, e⟩ := onA_some e
      obtain ⟨v, hp, e⟩ := bind_some e
      refine Oo.val e fun k W a hop => ?_
      have h2 := hop y (by simp [ho, Op.operands])
      rw [hv] at h2
      obtain ⟨us, h3, h5⟩ := h2.agg_inv
      obtain ⟨u, h6, h7⟩ := part_ok hp h5 W
      refine ⟨u, h6, ?_⟩
      have hfd' : fs[f]? = some fd := by simpa using hfd
      simp [execOp, ho, h3, Instr.field, run_underlying hu, hfd', asAgg, h7]
    · cases e
  · cases e
theorem s_load {t : TypeId} {y : Operand} (ho : o.op = .load t y) (e : oLoad P t y fr h n = some x) : Oo P o fr h n x := by
  obtain ⟨b, q, hv, e⟩ := onP_some e
  obtain ⟨v, hh, nn, r, w⟩ := x
  obtain ⟨h1, h2, h3, h4, h5⟩ := ld_ok e
  simp only at h1 h2 h3 h4 h5
  subst h1 h2 h3 h4
  refine ⟨Ss.read _ _ _, fun k W a K' Q hop H _ hk => ?_⟩
  have h6 := hop y (by simp [ho, Op.operands])
  rw [hv] at h6
  obtain ⟨_, b', z, hkb, h7⟩ := h6.ptr_inv
  obtain ⟨u, h8, h9⟩ := h5 k W b' z H hkb
  unfold Oper.wp
  have : (execOp a.eval o).run P W = .ok (.value u) W := by simp [execOp, ho, h7, Instr.loadAt, Instr.sureAddr, h9]
  rw [this, Oper.upon_value]
  exact hk u W k (Sd.read H) h8
theorem s_store {t : TypeId} {y z : Operand} (ho : o.op = .store t y z) (nn : ∀ i, n ≤ i → hget h i = none) (e : oStore P t y z fr h n = some x) : Oo P o fr h n x := by
  obtain ⟨b, q, hv, e⟩ := onP_some e
  obtain ⟨cs, hcs, e⟩ := bind_some e
  obtain ⟨m, hm, e⟩ := bind_some e
  obtain ⟨hc, e⟩ := bif_some e
  simp only [Bool.and_eq_true, Nat.beq_eq] at hc
  obtain ⟨cs', hov, e⟩ := bind_some e
  cases e
  obtain ⟨h1, h2⟩ := over_some hov
  have hb := hget_lt hcs
  refine ⟨Ss.write nn hb hcs, fun k W a K' Q hop H _ hk => ?_⟩
  have h6 := hop y (by simp [ho, Op.operands])
  have h6' := hop z (by simp [ho, Op.operands])
  rw [hv] at h6
  obtain ⟨_, b', zz, hkb, h7⟩ := h6.ptr_inv
  obtain ⟨b2, us, sp, ty, e1, e2, e3⟩ := (H.rep b (tb_bit.2 rfl) cs hcs).cel hkb
  have hbb : b2 = b' ∧ us.length + sp.length = zz := by
    have hkb' : k b = some (b', zz + 1) := hkb
    rw [hkb'] at e1; cases e1; exact ⟨rfl, rfl⟩
  obtain ⟨rfl, hzz⟩ := hbb
  obtain ⟨r1, r2⟩ := cells_rel h6' hc.2
  have hlen := r1.len
  have hus := e3.len
  have hfit : q + (a.eval z).cells.toList.length ≤ us.length := by rw [hlen, hus]; exact h2
  have hst := run_storeCells_cells (P := P) b2 q (a.eval z).cells.toList 0 W (fun j hj => by
      rw [cell_of e2, List.getElem?_append_left (by omega), List.getElem?_eq_getElem (by omega)]; rfl) (fun j hj => fz_of e2 _) r2
  simp only [Nat.add_zero] at hst
  obtain ⟨i, hi, hs⟩ := szOf_info hm
  have hsz : (a.eval z).cells.size = i.size := by rw [hs, ← hc.1, ← hlen]; simp
  have hrun : (execOp a.eval o).run P W = .ok .skip (W.setCells b2 q (a.eval z).cells.toList) := by
    simp [execOp, ho, h7, Instr.storeAt, Instr.sureAddr, storeVar, sizeOf, typeInfo, hi, hsz, hst]
  unfold Oper.wp
  rw [hrun, Oper.upon_skip]
  have hset := heap_setCells (b := b2) (ty := ty) (a.eval z).cells.toList q W (us ++ sp) e2 (by simp; omega)
  have hshape : (us ++ sp).take q ++ (a.eval z).cells.toList ++ (us ++ sp).drop (q + (a.eval z).cells.toList.length) = (us.take q ++ (a.eval z).cells.toList ++ us.drop (q + (a.eval z).cells.toList.length)) ++ sp := by
    rw [List.take_append_of_le_length (by omega), List.drop_append_of_le_length hfit]
    simp
  rw [hshape] at hset
  refine hk undef _ k (Sd.write hb hcs hkb hset ?_ ?_ (fun c hc _ => heap_setCells_other hc _ _) ?_ (rest_setCells _ _ _ _).1 (rest_setCells _ _ _ _).2.1 (rest_setCells _ _ _ _).2.2) undef_vx
  · rw [← hzz]
    simp
    omega
  · rw [h1, ← hlen]
    exact ((e3.take q).app r1).app (e3.drop _)
  · rw [size_setCells]; exact Nat.le_refl _
/-- A block more: what the run does. -/
theorem alloc_ok {h' : HT} {r w : Nat} {cs us sp : List Value} {v : Value} {ty : TypeId} {k : K} {W W' : World} (hn4 : n < 4096) (nn : ∀ i, n ≤ i → hget h i = none) (hcs : hget h' n = some cs) (hwn : tb w n)
    (hd : ∀ i, i ≠ n → hget h' i = hget h i ∨ (tb w i ∧ hget h' i = none)) (hw : ∀ i, tb w i → i = n ∨ (tb r i ∧ i < n)) (hk : k n = none) (H : HR k h W r) (hl : LR (VX k) cs us)
    (hW : W'.heap = W.heap.push (.cells (us ++ sp).toArray ty (0, 0))) (h1 : W'.os = W.os) (h2 : Tp W' W) (h3 : W'.output = W.output) :
    Sd h n h' (n + 1) r w k W (upk k n W.heap.size (us.length + sp.length + 1)) W' := by
  have _ := hn4; have _ := hwn; have _ := v
  refine Sd.new (ty := ty) nn hcs hd hw hk H (Or.inl (Nat.le_refl _)) (by rw [hW]; simp) hl (fun b _ hb => by rw [hW, Array.getElem?_push, if_neg (by omega)]) (by rw [hW]; simp) h1 h2 h3
theorem oNew_some {v : Value} {cs : List Value} {r w : Nat} {g : HT} (e : oNew g n v cs r w = some x) : n < 4096 ∧ x = ⟨v, hs12 g n (some cs), n + 1, r, Nat.lor w (bit n)⟩ := by
  obtain ⟨h1, e⟩ := bif_some e
  rw [Nat.blt_eq] at h1
  cases e
  exact ⟨h1, rfl⟩
theorem tb_n {w n : Nat} : tb (Nat.lor w (bit n)) n := tb_or.2 (Or.inr (tb_bit.2 rfl))
theorem tb_0n {n i : Nat} (h : tb (Nat.lor 0 (bit n)) i) : i = n := by
  rcases tb_or.1 h with h | h
  · exact absurd h tb_zero
  · exact (tb_bit.1 h).symm
/-- A block more, nothing let go. -/
theorem new_ok {v : Value} {cs : List Value} {r : Nat} (nn : ∀ i, n ≤ i → hget h i = none) (e : oNew h n v cs r 0 = some x)
    (hr : ∀ (k : K) (W : World) (a : Act), (∀ y ∈ o.op.operands.toList, VX k (evo fr y) (a.eval y)) → HR k h W r → ∃ us sp ty u W', LR (VX k) cs us ∧ (execOp a.eval o).run P W = .ok (.value u) W' ∧ W'.heap = W.heap.push (.cells (us ++ sp).toArray ty (0, 0)) ∧ W'.os = W.os ∧ Tp W' W ∧ W'.output = W.output ∧
      ∀ k' : K, (∀ i p, k i = some p → k' i = some p) → k' n = some (W.heap.size, us.length + sp.length + 1) → VX k' v u) : Oo P o fr h n x := by
  obtain ⟨hn, rfl⟩ := oNew_some e
  have hcs : hget (hs12 h n (some cs)) n = some cs := hget_same _ hn
  have hd : ∀ i, i ≠ n → hget (hs12 h n (some cs)) i = hget h i ∨ (tb (Nat.lor 0 (bit n)) i ∧ hget (hs12 h n (some cs)) i = none) := fun i hi => Or.inl (hget_ne _ hn (Ne.symm hi))
  have hw : ∀ i, tb (Nat.lor 0 (bit n)) i → i = n ∨ (tb r i ∧ i < n) := fun i hi => Or.inl (tb_0n hi)
  refine ⟨Ss.new tb_n hd hw, fun k W a K' Q hop H hnew hk => ?_⟩
  have hkn : k n = none := hnew n (Nat.le_refl _) (Nat.lt_succ_self _)
  obtain ⟨us, sp, ty, u, W', h1, h2, h3, h4, h5, h6, h7⟩ := hr k W a hop H
  have d := alloc_ok (v := v) hn nn hcs tb_n hd hw hkn H h1 h3 h4 h5 h6
  unfold Oper.wp
  rw [h2, Oper.upon_value]
  exact hk u W' _ d (h7 _ d.ext (if_pos rfl))
theorem s_alloc {t : TypeId} (ho : o.op = .alloc t) (nn : ∀ i, n ≤ i → hget h i = none) (e : oAlloc P t fr h n = some x) : Oo P o fr h n x := by
  obtain ⟨z, hz, e⟩ := bind_some e
  obtain ⟨hzo, e⟩ := bif_some e
  obtain ⟨i, hi, hzi⟩ := zeroOf_info hz
  refine new_ok nn e fun k W a _ _ => ⟨z.cells.toList, [], t, .pointer (some ⟨W.heap.size, 0, none⟩), W.alloc (.cells z.cells t), zok_rel hzo, ?_, by show W.heap.push _ = _; simp, rfl, ⟨rfl, Nat.le_refl _⟩, rfl, fun k' _ hk' => VX.of0 ⟨trivial, _, _, hk', rfl⟩⟩
  simp [execOp, ho, Instr.alloc, zeroValue, typeInfo, hi, hzi, newVar, newRow]
theorem s_box {t : TypeId} {y : Operand} (ho : o.op = .box t y) (nn : ∀ i, n ≤ i → hget h i = none) (e : oBox y fr h n = some x) : Oo P o fr h n x := by
  obtain ⟨hone, e⟩ := bif_some e
  refine new_ok nn e fun k W a hop _ => ?_
  have h1 := hop y (by simp [ho, Op.operands])
  refine ⟨(a.eval y).cells.toList, [], t, .pointer (some ⟨W.heap.size, 0, none⟩), W.alloc (.cells (a.eval y).cells t), (cells_rel h1 hone).1, ?_, by show W.heap.push _ = _; simp, rfl, ⟨rfl, Nat.le_refl _⟩, rfl, fun k' _ hk' => VX.of0 ⟨trivial, _, _, hk', rfl⟩⟩
  simp [execOp, ho, Instr.box, newVar, newRow]
/-! Parts laid over cells. -/
theorem fold_over (off : Nat) (l : List Value) (cs : List Value) (hl : off + l.length ≤ cs.length) :
    (l.toArray.zipIdx.foldl (fun cs (x : Value × Nat) => cs.setIfInBounds (off + x.2) x.1) cs.toArray) = (cs.take off ++ l ++ cs.drop (off + l.length)).toArray := by
  have e : l.toArray.zipIdx.foldl (fun cs (x : Value × Nat) => cs.setIfInBounds (off + x.2) x.1) cs.toArray = (l.zipIdx 0).foldl (fun cs (x : Value × Nat) => cs.setIfInBounds (off + x.2) x.1) cs.toArray := by
    rw [← Array.foldl_toList]; simp
  rw [e]
  obtain ⟨h1, h2⟩ := Go.Great.foldl_set off l 0 cs.toArray
  apply Array.ext_getElem?
  intro k
  rw [h2 k]
  simp only [Nat.add_zero, List.size_toArray, List.getElem?_toArray]
  by_cases a : k < off
  · rw [if_neg (by omega), List.append_assoc, List.getElem?_append_left (by simp; omega), List.getElem?_take_of_lt a]
  · by_cases b : k < off + l.length
    · rw [if_pos (by omega), List.append_assoc, List.getElem?_append_right (by simp; omega), List.getElem?_append_left (by simp; omega)]
      congr 1
      simp; omega
    · rw [if_neg (by omega), List.getElem?_append_right (by simp; omega), List.getElem?_drop]
      congr 1
      simp; omega
theorem fill_rel {k : K} {place : Nat → Option (Nat × Nat)} : ∀ (ps qs : List (Nat × Value)) (cs us r : List Value), LR (VX k) cs us → (∀ i : Nat, (ps[i]?).map Prod.fst = (qs[i]?).map Prod.fst) → LR (VX k) (ps.map Prod.snd) (qs.map Prod.snd) → fillL place ps cs = some r →
    ∃ r', Instr.fill place us.toArray qs = some r'.toArray ∧ LR (VX k) r r'
  | [], qs, cs, us, r, h1, _, h3, e => by
    cases e
    have : qs = [] := by cases qs with
      | nil => rfl
      | cons q qs => cases h3
    subst this
    exact ⟨us, rfl, h1⟩
  | p :: ps, qs, cs, us, r, h1, h2, h3, e => by
    cases qs with
    | nil => obtain ⟨_, _, e', _⟩ := h3; cases e'
    | cons q qs =>
      obtain ⟨y, ys, e', h4, h5⟩ := h3
      simp only [List.map_cons, List.cons.injEq] at e'
      obtain ⟨rfl, rfl⟩ := e'
      have h6 : p.1 = q.1 := by have := h2 0; simpa using this
      simp only [fillL] at e
      cases hp : place p.1 with
      | none => rw [hp] at e; cases e
      | some pl =>
        rw [hp] at e
        obtain ⟨hc, e⟩ := bif_some e
        simp only [Bool.and_eq_true, Nat.beq_eq] at hc
        obtain ⟨cs2, ho, e⟩ := bind_some e
        obtain ⟨o1, o2⟩ := over_some ho
        obtain ⟨r1, r2⟩ := cells_rel h4 hc.2
        have l1 := r1.len
        have l2 := h1.len
        obtain ⟨r', f1, f2⟩ := fill_rel ps qs cs2 (us.take pl.1 ++ q.2.cells.toList ++ us.drop (pl.1 + q.2.cells.toList.length)) r (by
          rw [o1, ← l1]
          exact ((h1.take _).app r1).app (h1.drop _)) (fun i => by have := h2 (i + 1); simpa using this) h5 e
        refine ⟨r', ?_, f2⟩
        obtain ⟨qi, qv⟩ := q
        simp only at h6 l1 r1 f1
        simp only [Instr.fill]
        rw [← h6, hp]
        obtain ⟨off, sz⟩ := pl
        simp only at hc o2 f1 ⊢
        have hs : qv.cells.size = sz := by rw [← hc.1, ← l1]; simp
        have hfit : off + qv.cells.size ≤ us.length := by rw [hs, l2]; omega
        rw [if_neg (by simp [hs]; omega)]
        have := fold_over off qv.cells.toList us (by simpa using hfit)
        simp only [Array.toArray_toList] at this
        rw [this]
        exact f1
theorem evp_rel {k : K} {a : Act} : ∀ l : List (Nat × Operand), (∀ y ∈ l, VX k (evo fr y.2) (a.eval y.2)) → LR (VX k) ((evp fr l).map Prod.snd) ((l.map fun p => (p.1, a.eval p.2)).map Prod.snd) ∧ ∀ i : Nat, ((evp fr l)[i]?).map Prod.fst = ((l.map fun p => (p.1, a.eval p.2))[i]?).map Prod.fst
  | [], _ => ⟨rfl, fun _ => rfl⟩
  | p :: l, hl => by
    obtain ⟨h1, h2⟩ := evp_rel l (fun y hy => hl y (by simp [hy]))
    refine ⟨⟨_, _, rfl, hl p (by simp), h1⟩, fun i => ?_⟩
    cases i with
    | zero => simp [evp]
    | succ i => simpa [evp] using h2 i
theorem parts_list (parts : Array (Nat × Operand)) (a : Act) : (parts.map fun (x : Nat × Operand) => (x.1, a.eval x.2)).toList = parts.toList.map fun p => (p.1, a.eval p.2) := by simp
theorem fplaces_some : ∀ {fs : List Field} {l : List (Nat × Nat)}, fplaces P fs = some l → fs.mapM (fun f => (P.info? f.type).map fun i => (f.offset, i.size)) = some l
  | [], l, e => by cases e; rfl
  | f :: fs, l, e => by
    simp only [fplaces] at e
    cases hs : szOf P f.type with
    | none => rw [hs] at e; cases e
    | some m =>
      rw [hs] at e
      cases hr : fplaces P fs with
      | none => rw [hr] at e; cases e
      | some l' =>
        rw [hr] at e
        cases e
        obtain ⟨i, hi, hsz⟩ := szOf_info hs
        simp [List.mapM_cons, hi, hsz, fplaces_some hr]
theorem s_build {t : TypeId} {parts : Array (Nat × Operand)} (ho : o.op = .build t parts) (e : oBuild P t parts fr h n = some x) : Oo P o fr h n x := by
  obtain ⟨z, hz, e⟩ := bind_some e
  obtain ⟨hzo, e⟩ := bif_some e
  obtain ⟨i, hi, hzi⟩ := zeroOf_info hz
  have hopp : ∀ (k : K) (a : Act), (∀ y ∈ o.op.operands.toList, VX k (evo fr y) (a.eval y)) → ∀ y ∈ parts.toList, VX k (evo fr y.2) (a.eval y.2) := fun k a hop y hy => hop y.2 (by rw [ho]; simp only [Op.operands]; simpa using ⟨y.1, by simpa using hy⟩)
  split at e
  · rename_i fs hu
    obtain ⟨pl, hpl, e⟩ := bind_some e
    obtain ⟨cs, hcs, e⟩ := bind_some e
    refine Oo.val e fun k W a hop => ?_
    obtain ⟨r1, r2⟩ := evp_rel (k := k) (a := a) parts.toList (hopp k a hop)
    obtain ⟨us, h1, h2⟩ := fill_rel _ _ _ _ _ (zok_rel hzo) r2 r1 hcs
    refine ⟨_, VX.agg h2, ?_⟩
    rw [← parts_list] at h1
    have hb : P.built t (parts.map fun (x : Nat × Operand) => (x.1, a.eval x.2)).toList = some us.toArray := by
      unfold Program.built
      rw [hi, hu]
      simp only [hzi, fplaces_some hpl]
      simpa using h1
    have := run_build W t _ _ hb
    simp only [execOp, ho]
    rw [Sem.run_bind, this]
    rfl
  · rename_i m e' hu
    obtain ⟨sz, hsz, e⟩ := bind_some e
    obtain ⟨cs, hcs, e⟩ := bind_some e
    refine Oo.val e fun k W a hop => ?_
    obtain ⟨r1, r2⟩ := evp_rel (k := k) (a := a) parts.toList (hopp k a hop)
    obtain ⟨us, h1, h2⟩ := fill_rel _ _ _ _ _ (zok_rel hzo) r2 r1 hcs
    refine ⟨_, VX.agg h2, ?_⟩
    rw [← parts_list] at h1
    obtain ⟨ie, hie, hse⟩ := szOf_info hsz
    have hb : P.built t (parts.map fun (x : Nat × Operand) => (x.1, a.eval x.2)).toList = some us.toArray := by
      unfold Program.built
      rw [hi, hu]
      simp only [hzi, hie, hse]
      simpa using h1
    have := run_build W t _ _ hb
    simp only [execOp, ho]
    rw [Sem.run_bind, this]
    rfl
  · cases e
theorem times_len (z : List Value) : ∀ n, (times n z).length = n * z.length
  | 0 => by simp [times]
  | n + 1 => by simp [times, times_len z n, Nat.add_mul, Nat.add_comm]
theorem times_get (z : List Value) : ∀ (n i : Nat), i < n * z.length → (times n z)[i]? = z[i % z.length]?
  | 0, i, h => by simp at h
  | n + 1, i, h => by
    simp only [times]
    by_cases hi : i < z.length
    · rw [List.getElem?_append_left hi, Nat.mod_eq_of_lt hi]
    · have h1 : (n + 1) * z.length = n * z.length + z.length := Nat.succ_mul _ _
      have h2 : i % z.length = (i - z.length) % z.length := Nat.mod_eq_sub_mod (by omega)
      rw [List.getElem?_append_right (by omega), times_get z n (i - z.length) (by omega), h2]
theorem times_rel {k : K} {z : List Value} (h : LR (VX k) z z) : ∀ n, LR (VX k) (times n z) (times n z)
  | 0 => rfl
  | n + 1 => h.app (times_rel h n)
theorem times_arr {z : Value} {len n : Nat} (hz : z.cells.toList.length = n) (hn : 0 < n) : (Array.range (len * n)).map (z.cells[· % z.cells.size]!) = (times len z.cells.toList).toArray := by
  have hz' : z.cells.size = n := by rw [← hz]; simp
  apply Array.ext_getElem?
  intro i
  simp only [Array.getElem?_map, List.getElem?_toArray]
  by_cases hi : i < len * n
  · rw [times_get _ _ _ (by rw [hz]; exact hi), hz]
    have : i % n < z.cells.size := by rw [hz']; exact Nat.mod_lt _ hn
    simp only [Array.getElem?_range, hi, if_true, Option.map_some, hz']
    rw [getElem!_pos z.cells (i % n) this, Array.getElem?_toList, getElem?_pos z.cells (i % n) this]
  · have : (times len z.cells.toList).length ≤ i := by rw [times_len, hz]; omega
    rw [List.getElem?_eq_none this]
    simp [hi]
theorem s_buildS {t : TypeId} {len : Nat} {parts : Array (Nat × Operand)} (ho : o.op = .buildSlice t len parts) (nn : ∀ i, n ≤ i → hget h i = none) (e : oBuildS P t len parts fr h n = some x) : Oo P o fr h n x := by
  unfold oBuildS at e
  split at e
  · rename_i e' hu
    obtain ⟨sz, hsz, e⟩ := bind_some e
    obtain ⟨z, hz, e⟩ := bind_some e
    obtain ⟨hc, e⟩ := bif_some e
    simp only [Bool.and_eq_true, Nat.beq_eq, Nat.blt_eq, Nat.ble_eq] at hc
    obtain ⟨⟨⟨⟨c1, c2⟩, c3⟩, c4⟩, c5⟩ := hc
    obtain ⟨cs, hcs, e⟩ := bind_some e
    obtain ⟨ie, hie, hse⟩ := szOf_info hsz
    obtain ⟨ie', hie', hzi⟩ := zeroOf_info hz
    rw [hie] at hie'; cases hie'
    refine new_ok nn e fun k W a hop _ => ?_
    have hopp : ∀ y ∈ parts.toList, VX k (evo fr y.2) (a.eval y.2) := fun y hy => hop y.2 (by rw [ho]; simp only [Op.operands]; simpa using ⟨y.1, by simpa using hy⟩)
    obtain ⟨r1, r2⟩ := evp_rel (k := k) (a := a) parts.toList hopp
    obtain ⟨us, h1, h2⟩ := fill_rel _ _ _ _ _ (times_rel (zok_rel c5) len) r2 r1 hcs
    rw [← parts_list, ← times_arr c2 c3] at h1
    have hlen : us.length = len * sz := by
      rw [h2.len]
      have : ∀ (ps : List (Nat × Value)) (cs r : List Value), fillL (fun i => some (i * sz, sz)) ps cs = some r → r.length = cs.length := by
        intro ps
        induction ps with
        | nil => intro cs r e; cases e; rfl
        | cons p ps ih =>
          intro cs r e
          simp only [fillL] at e
          obtain ⟨_, e⟩ := bif_some e
          obtain ⟨c2, h5, e⟩ := bind_some e
          obtain ⟨h6, h7⟩ := over_some h5
          rw [ih _ _ e, h6]
          simp only [List.length_append, List.length_take, List.length_drop]
          omega
      rw [this _ _ _ hcs, times_len, c2]
    have hrun := run_buildSlice W t e' len (parts.map fun (x : Nat × Operand) => (x.1, a.eval x.2)) us.toArray ie z hu hie hzi (by rw [hse]; omega) (by rw [hse]; intro h0; rcases Nat.mul_eq_zero.1 h0 with h0 | h0 <;> omega) (by rw [hse]; exact h1)
    refine ⟨us, [], e', .slice (some ⟨W.heap.size, 0, none⟩) len len, W.alloc (.cells us.toArray e'), h2, ?_, by show W.heap.push _ = _; simp, rfl, ⟨rfl, Nat.le_refl _⟩, rfl, fun k' _ hk' => VX.of0 ⟨trivial, _, _, _, hk', rfl, Nat.le_refl _, by simp [hlen]⟩⟩
    simp only [execOp, ho]
    rw [Sem.run_bind, hrun]
    rfl
  · cases e
theorem s_make {t : TypeId} {l c : Operand} (ho : o.op = .makeSlice t l c) (nn : ∀ i, n ≤ i → hget h i = none) (e : oMake P t l c fr h n = some x) : Oo P o fr h n x := by
  unfold oMake oMkS at e
  split at e
  · rename_i e' hu
    obtain ⟨sz, hsz, e⟩ := bind_some e
    obtain ⟨z, hz, e⟩ := bind_some e
    obtain ⟨by', hby, e⟩ := bind_some e
    obtain ⟨kl, il, hl, e⟩ := onI_some e
    obtain ⟨kc, ic, hc, e⟩ := onI_some e
    obtain ⟨a', ha, e⟩ := bind_some e
    obtain ⟨b', hb, e⟩ := bind_some e
    obtain ⟨hcc, e9⟩ := bif_some e
    simp only [Bool.and_eq_true, Nat.beq_eq, Nat.blt_eq, Nat.ble_eq] at hcc
    obtain ⟨⟨⟨⟨c1, c2⟩, c3⟩, c4⟩, c5⟩ := hcc
    obtain ⟨i1, i2⟩ := idx_some ha
    obtain ⟨j1, j2⟩ := idx_some hb
    subst c1
    obtain ⟨ie, hie, hse⟩ := szOf_info hsz
    obtain ⟨ie', hie', hzi⟩ := zeroOf_info hz
    rw [hie] at hie'; cases hie'
    rw [hie] at hby
    simp only [Option.map_some, Option.some.injEq] at hby
    refine new_ok nn e9 fun k W a hop _ => ?_
    have h1 := hop l (by simp [ho, Op.operands])
    have h2 := hop c (by simp [ho, Op.operands])
    rw [hl] at h1; rw [hc] at h2
    have h3 := h1.int_inv
    have h4 := h2.int_inv
    rw [i1] at h3; rw [j1] at h4
    refine ⟨times a' z.cells.toList, [], e', .slice (some ⟨W.heap.size, 0, none⟩) a' a', W.alloc (.cells (times a' z.cells.toList).toArray e'), times_rel (zok_rel c5) _, ?_, by show W.heap.push _ = _; simp, rfl, ⟨rfl, Nat.le_refl _⟩, rfl, fun k' _ hk' => VX.of0 ⟨trivial, _, _, _, hk', rfl, Nat.le_refl _, by simp [times_len, c3]⟩⟩
    have hb1 : (ie.bytes : Int) * (a' : Int) ≤ 281474976710656 := by
      have : ie.bytes * a' ≤ 1000 * 1000 := Nat.mul_le_mul (by omega) (by omega)
      have h5 : ((ie.bytes * a' : Nat) : Int) ≤ 1000000 := by omega
      rw [Int.natCast_mul] at h5
      omega
    have hrun := run_make (P := P) W t e' ie z hu hie hzi kl kc (a' : Int) (a' : Int) (by omega) (Int.le_refl _) hb1 (by omega)
    have hcells : madeCells z.cells (a' * ie.size) = (times a' z.cells.toList).toArray := by
      rw [hse]; exact times_arr c3 c4
    simp only [execOp, ho, h3, h4]
    rw [Sem.run_bind, hrun]
    simp [hcells]
  · cases e
end
end S
end Go.Proofs.YtfmfeipeeedfpaaGreat
namespace Go.Proofs.YtfmfeipeeedfpaaGreat
namespace S
open Go.CheckFast (force force_eq)
section
variable {P : Program} {o : Oper} {fr : FT} {h : HT} {n : Nat} {x : R5}
theorem apOk_some {e m : Nat} (hh : apOk P e m = true) : ∃ i z, P.info? e = some i ∧ i.zero = some z ∧ i.bytes ≤ 100000 ∧ z.cells.size = m := by
  unfold apOk at hh
  split at hh
  · rename_i i hi
    split at hh
    · rename_i z hz
      simp only [Bool.and_eq_true, Nat.ble_eq, Nat.beq_eq] at hh
      exact ⟨i, z, hi, hz, hh.1, by rw [← hh.2]; simp⟩
    · cases hh
  · cases hh
theorem pair_inv {R : Value → Value → Prop} {a b : Value} {l : List Value} (h : LR R [a, b] l) : ∃ u v, l = [u, v] ∧ R a u ∧ R b v := by
  obtain ⟨u, _, rfl, h1, v, _, rfl, h2, rfl⟩ := h
  exact ⟨u, v, rfl, h1, h2⟩
theorem oAp2_some {sz b m : Nat} {zs : List Value} {v : Value} (e : oAp2 h n sz v b m zs = some x) : (v = .slice none 0 0 ∧ oNew h n (.slice (some ⟨n, 0, none⟩) m sz) zs (bit b) 0 = some x) ∨
    ∃ a len es cs, v = .slice (some ⟨a, 0, none⟩) len es ∧ hget h a = some cs ∧ cs.length = len * sz ∧ es = sz ∧ a ≠ b ∧ len ≤ 10000 ∧ oNew (hs12 h a none) n (.slice (some ⟨n, 0, none⟩) (len + m) sz) (cs ++ zs) (Nat.lor (bit a) (bit b)) (bit a) = some x := by
  unfold oAp2 at e
  split at e
  · exact Or.inl ⟨rfl, e⟩
  · rename_i a len es
    obtain ⟨cs, hcs, e⟩ := bind_some e
    obtain ⟨hc3, e⟩ := bif_some e
    simp only [Bool.and_eq_true, Nat.beq_eq, Nat.ble_eq, Bool.not_eq_true'] at hc3
    obtain ⟨⟨⟨d1, d2⟩, d3⟩, d4⟩ := hc3
    exact Or.inr ⟨a, len, es, cs, rfl, hcs, d1, d2, fun e => by subst e; simp at d3, d4, by rw [force_eq] at e; exact e⟩
  · cases e
theorem s_app {ts : Array TypeId} {xs : Array Operand} (ho : o.op = .call { callee := .builtin .append, args := xs, argTypes := ts }) (nn : ∀ i, n ≤ i → hget h i = none) (e : oApp P ts.toList (evl fr xs.toList) h n = some x) : Oo P o fr h n x := by
  unfold oApp at e
  split at e
  · rename_i t t' hts
    split at e
    · rename_i vx vy hvs
      split at e
      · rename_i e' hu
        obtain ⟨htt, e9⟩ := bif_some e
        clear e
        rw [Nat.beq_eq] at htt
        subst htt
        have e := e9
        obtain ⟨sz, hsz, e⟩ := bind_some e
        obtain ⟨b, q, m, bs, hy, e⟩ := onS_some e
        obtain ⟨hc, e⟩ := bif_some e
        simp only [Bool.and_eq_true, Nat.beq_eq, Nat.blt_eq] at hc
        obtain ⟨⟨c1, c2⟩, c3⟩ := hc
        obtain ⟨us, hus, e⟩ := bind_some e
        obtain ⟨zs, hzs, e⟩ := bind_some e
        obtain ⟨hc2, e⟩ := bif_some e
        simp only [Bool.and_eq_true, Nat.ble_eq] at hc2
        obtain ⟨⟨c4, c5⟩, c6⟩ := hc2
        obtain ⟨ie, z, hie, hzi, hby, hzsz⟩ := apOk_some c5
        obtain ⟨ie2, hie2, hse⟩ := szOf_info hsz
        rw [hie] at hie2; cases hie2
        obtain ⟨t1, t2⟩ := take'_some hzs
        rw [drop'_eq] at t1
        have hta : ts = #[t, t] := by apply Array.ext'; rw [hts]
        -- the operands
        have args : ∀ (k : K) (a : Act), (∀ y ∈ o.op.operands.toList, VX k (evo fr y) (a.eval y)) → ∃ u1 u2, xs.map a.eval = #[u1, u2] ∧ VX k vx u1 ∧ VX k vy u2 := by
          intro k a hop
          have h1 := evl_rel (fr := fr) (k := k) (a := a) xs.toList (fun y hy => hop y (by rw [ho]; simpa [Op.operands, Call.operands] using hy))
          rw [hvs] at h1
          obtain ⟨u, v, h2, h3, h4⟩ := pair_inv h1
          exact ⟨u, v, by apply Array.ext'; simpa using h2, h3, h4⟩
        -- what is put behind
        have srcs : ∀ (k : K) (W : World) (u2 : Value) (mm : Nat), HR k h W mm → tb mm b → VX k vy u2 → ∃ news, LR (VX k) zs news ∧ Src P ie.size t u2 m news W := by
          intro k W u2 mm H hb hv
          rw [hy] at hv
          obtain ⟨_, b', zz, c, hkb, h7, _⟩ := hv.slc_inv
          obtain ⟨b2, vs, sp, ty, e1, e2, e3⟩ := (H.rep b hb us hus).cel hkb
          have hkb' : k b = some (b', zz + 1) := hkb
          rw [hkb'] at e1; cases e1
          have h3 : LR (VX k) zs ((vs.drop q).take (m * sz)) := by rw [t1]; exact (e3.drop q).take _
          refine ⟨_, h3, ?_⟩
          rw [h7]
          refine Src.ofSlice W hu _ m c _ (by rw [h3.len, t2, hse]) (fun j u hu' => ?_) (ones_rel h3 c4)
          rw [Addr.add_mid, cell_of e2]
          rw [List.getElem?_take] at hu'
          split at hu'
          · rw [List.getElem?_drop] at hu'
            rw [List.getElem?_append_left (List.getElem?_eq_some_iff.1 hu').1]; exact hu'
          · cases hu'
        have exec : ∀ (a : Act) (W : World) (u1 u2 u : Value) (W' : World), xs.map a.eval = #[u1, u2] → (Builtin.append_ #[t, t] o.type #[u1, u2]).run P W = .ok u W' → (execOp a.eval o).run P W = .ok (.value u) W' := by
          intro a W u1 u2 u W' h1 h2
          simp only [execOp, ho, resolve, invoke, builtin, Sem.run_bind, Sem.run_pure, Result.andThen_ok, h1, hta, h2]
        have hbb : b < 4096 := hget_lt hus
        rcases oAp2_some e with ⟨hx, e⟩ | ⟨a, len, es, cs, hx, hcs, d1, d2, d3', d4, e⟩
        · -- nothing was there
          refine new_ok nn e fun k W a hop H => ?_
          obtain ⟨u1, u2, h1, h2, h3⟩ := args k a hop
          rw [hx] at h2
          have h4 := h2.nilslc_inv
          obtain ⟨news, h5, h6⟩ := srcs k W u2 _ H (tb_bit.2 rfl) h3
          have hfit : Builtin.nextslicecap (0 + m) 0 * ie.bytes ≤ 281474976710656 := growslice_fits (by omega) (by
            have : (0 + m) * ie.bytes ≤ 10000 * 100000 := Nat.mul_le_mul (by omega) hby
            omega)
          have hrun := run_append_grow_src (P := P) W t t o.type e' ie z hu hie hzi none 0 0 [] (by simp [Builtin.firstCells]) u2 m news h6 (by omega) (by omega) hfit
          rw [← h4] at hrun
          have hge := grownCap_ge W (0 + m) 0 e'
          have hsp : (Builtin.zeroCells z.cells (grownCap W (0 + m) 0 e' - (0 + m))).toList.length = (grownCap W (0 + m) 0 e' - (0 + m)) * sz := by
            rw [Array.length_toList, size_zeroCells, hzsz]
          have hnl : news.length = m * sz := by rw [h6.newsLen, hse]
          refine ⟨news, (Builtin.zeroCells z.cells (grownCap W (0 + m) 0 e' - (0 + m))).toList, e', _, _, h5, exec a W u1 u2 _ _ h1 hrun, ?_, rfl, ⟨rfl, Nat.le_succ _⟩, rfl, fun k' _ hk' => ?_⟩
          · show W.heap.push _ = _
            congr 2
            apply Array.ext'
            simp
          · refine VX.of0 ⟨trivial, W.heap.size, _, grownCap W (0 + m) 0 e', hk', by rw [Nat.zero_add], by omega, ?_⟩
            rw [hsp, hnl]
            show 0 + grownCap W (0 + m) 0 e' * sz ≤ _
            have : m * sz + (grownCap W (0 + m) 0 e' - (0 + m)) * sz = grownCap W (0 + m) 0 e' * sz := by rw [← Nat.add_mul]; congr 1; omega
            omega
        · -- a slice that is let go
          obtain ⟨hn4, rfl⟩ := oNew_some e
          have ha4 := hget_lt hcs
          have han : a < n := by
            rcases Nat.lt_or_ge a n with h' | h'
            · exact h'
            · rw [nn a h'] at hcs; cases hcs
          have hcs' : hget (hs12 (hs12 h a none) n (some (cs ++ zs))) n = some (cs ++ zs) := hget_same _ hn4
          have hdead : hget (hs12 (hs12 h a none) n (some (cs ++ zs))) a = none := by rw [hget_ne _ hn4 (by omega), hget_same _ ha4]
          have hwa : tb (Nat.lor (bit a) (bit n)) a := tb_or.2 (Or.inl (tb_bit.2 rfl))
          have hd : ∀ i, i ≠ n → hget (hs12 (hs12 h a none) n (some (cs ++ zs))) i = hget h i ∨ (tb (Nat.lor (bit a) (bit n)) i ∧ hget (hs12 (hs12 h a none) n (some (cs ++ zs))) i = none) := fun i hi => by
            by_cases ea : i = a
            · subst ea; exact Or.inr ⟨hwa, hdead⟩
            · left; rw [hget_ne _ hn4 (Ne.symm hi), hget_ne _ ha4 (Ne.symm ea)]
          have hw : ∀ i, tb (Nat.lor (bit a) (bit n)) i → i = n ∨ (tb (Nat.lor (bit a) (bit b)) i ∧ i < n) := fun i hi => by
            rcases tb_or.1 hi with h' | h'
            · have := tb_bit.1 h'; subst this; exact Or.inr ⟨tb_or.2 (Or.inl (tb_bit.2 rfl)), han⟩
            · exact Or.inl (tb_bit.1 h').symm
          refine ⟨Ss.new tb_n hd hw, fun k W act K' Q hop H hnew hk => ?_⟩
          have hkn : k n = none := hnew n (Nat.le_refl _) (Nat.lt_succ_self _)
          obtain ⟨u1, u2, h1, h2, h3⟩ := args k act hop
          rw [hx] at h2
          obtain ⟨_, a', zz, cap, hka, h4, hcap, hfitz⟩ := h2.slc_inv
          obtain ⟨news, h5, h6⟩ := srcs k W u2 _ H (tb_or.2 (Or.inr (tb_bit.2 rfl))) h3
          obtain ⟨a2, vs, sp, ty, e1, e2, e3⟩ := (H.rep a (tb_or.2 (Or.inl (tb_bit.2 rfl))) cs hcs).cel hka
          have hka' : k a = some (a', zz + 1) := hka
          have haa : a2 = a' ∧ vs.length + sp.length = zz := by rw [hka'] at e1; cases e1; exact ⟨rfl, rfl⟩
          obtain ⟨rfl, hzz⟩ := haa
          have hvl : vs.length = len * sz := by rw [e3.len, d1]
          have hnl : news.length = m * sz := by rw [h6.newsLen, hse]
          have hes : es = sz := d2
          subst hes
          have hfit' : cap * es ≤ zz := by have : 0 + cap * es ≤ zz := hfitz; omega
          by_cases hroom : len + m ≤ cap
          · have hle : (len + m) * es ≤ cap * es := Nat.mul_le_mul_right _ hroom
            have hle2 : len * es + m * es = (len + m) * es := (Nat.add_mul _ _ _).symm
            have hrun := run_append_room_src (P := P) W t t o.type e' ie hu hie a2 0 len cap u2 m news h6 hroom (fun j hj => by
                rw [cell_of e2, hse, List.getElem?_eq_getElem (by simp; omega)]; rfl) (fun j _ => fz_of e2 _)
            rw [← h4] at hrun
            unfold Oper.wp
            rw [exec act W u1 u2 _ _ h1 hrun, Oper.upon_value]
            have hset := heap_setCells (b := a2) (ty := ty) news (0 + len * ie.size) W (vs ++ sp) e2 (by rw [hse]; simp; omega)
            rw [hse, Nat.zero_add] at hset
            have hshape : (vs ++ sp).take (len * es) ++ news ++ (vs ++ sp).drop (len * es + news.length) = (vs ++ news) ++ sp.drop (m * es) := by
              rw [← hvl, List.take_left, hnl, List.drop_append]
              simp
            rw [hshape] at hset
            have dd := Sd.new (h := h) (n := n) (k := k) (W := W) (W' := W.setCells a2 (len * es) news) (B := a2) (us := vs ++ news) (sp := sp.drop (m * es)) (ty := ty) nn hcs' hd hw hkn H
              (Or.inr ⟨a, zz + 1, hwa, han, ⟨cs, hcs⟩, not_live hdead, hka'⟩) hset (e3.app h5) (fun c hc _ => heap_setCells_other hc _ _) (by rw [size_setCells]; exact Nat.le_refl _) (rest_setCells _ _ _ _).1 (rest_setCells _ _ _ _).2.1 (rest_setCells _ _ _ _).2.2
            have hW : W.setCells a2 (0 + len * ie.size) news = W.setCells a2 (len * es) news := by rw [hse, Nat.zero_add]
            rw [hW]
            refine hk _ _ _ dd (VX.of0 ⟨trivial, a2, _, cap, if_pos rfl, rfl, hroom, ?_⟩)
            simp only [List.length_append, List.length_drop]
            show 0 + cap * es ≤ _
            omega
          · have hfit : Builtin.nextslicecap (len + m) cap * ie.bytes ≤ 281474976710656 := growslice_fits (by omega) (by
              have : (len + m) * ie.bytes ≤ 20000 * 100000 := Nat.mul_le_mul (by omega) hby
              omega)
            have hold : (Builtin.firstCells ie.size len (.slice (some ⟨a2, 0, none⟩) len cap)).run P W.drew = .ok vs.toArray W.drew :=
              run_firstCells_some W.drew ie.size len ⟨a2, 0, none⟩ len cap vs (by rw [hvl, hse]) (fun j v hv => by
                rw [Addr.add_mid]
                have := cell_of (W := W.drew) (b := a2) (cs := vs ++ sp) (ty := ty) e2 (0 + j)
                rw [this, Nat.zero_add, List.getElem?_append_left (List.getElem?_eq_some_iff.1 hv).1]; exact hv)
            have hrun := run_append_grow_src (P := P) W t t o.type e' ie z hu hie hzi (some ⟨a2, 0, none⟩) len cap vs hold u2 m news h6 (by omega) (by omega) hfit
            rw [← h4] at hrun
            unfold Oper.wp
            rw [exec act W u1 u2 _ _ h1 hrun, Oper.upon_value]
            have hge := grownCap_ge W (len + m) cap e'
            have hsp : (Builtin.zeroCells z.cells (grownCap W (len + m) cap e' - (len + m))).toList.length = (grownCap W (len + m) cap e' - (len + m)) * es := by
              rw [Array.length_toList, size_zeroCells, hzsz]
            have dd := alloc_ok (h := h) (n := n) (k := k) (W := W) (W' := W.drew.alloc (.cells ((vs ++ news).toArray ++ Builtin.zeroCells z.cells (grownCap W (len + m) cap e' - (len + m))) e')) (v := undef) (us := vs ++ news) (sp := (Builtin.zeroCells z.cells (grownCap W (len + m) cap e' - (len + m))).toList) (ty := e') hn4 nn hcs' tb_n hd hw hkn H (e3.app h5) (by
                show W.heap.push _ = _
                congr 2
                apply Array.ext'
                simp) rfl ⟨rfl, Nat.le_succ _⟩ rfl
            refine hk _ _ _ dd (VX.of0 ⟨trivial, W.heap.size, _, grownCap W (len + m) cap e', if_pos rfl, rfl, hge, ?_⟩)
            rw [hsp]
            simp only [List.length_append]
            show 0 + grownCap W (len + m) cap e' * es ≤ _
            have : (len + m) * es + (grownCap W (len + m) cap e' - (len + m)) * es = grownCap W (len + m) cap e' * es := by rw [← Nat.add_mul]; congr 1; omega
            have hle2 : len * es + m * es = (len + m) * es := (Nat.add_mul _ _ _).symm
            omega
      · cases e
    · cases e
  · cases e
theorem bytes'_some {k : K} : ∀ {l m : List Value} {r : List UInt8}, bytes' l = some r → LR (VX k) l m → ∃ ns : List Int, m = ns.map (Value.int .u8) ∧ r = ns.map fun n => UInt8.ofNat n.toNat
  | [], _, _, e, h => by cases e; rw [h]; exact ⟨[], rfl, rfl⟩
  | v :: l, _, r, e, ⟨y, ys, hm, h1, h2⟩ => by
    unfold bytes' at e
    split at e
    · rename_i n
      cases hb : bytes' l with
      | none => rw [hb] at e; cases e
      | some r' =>
        rw [hb] at e
        cases e
        obtain ⟨ns, e1, e2⟩ := bytes'_some hb h2
        exact ⟨n :: ns, by rw [hm, h1.int_inv, e1]; rfl, by rw [e2]; rfl⟩
    · cases e
theorem push_fold : ∀ (ns : List Int) (s : ByteArray), ns.foldl (fun r n => r.push (UInt8.ofNat n.toNat)) s = ⟨(s.data.toList ++ ns.map fun n => UInt8.ofNat n.toNat).toArray⟩
  | [], s => by simp
  | n :: ns, s => by
    rw [List.foldl_cons, push_fold ns]
    congr 1
    simp
theorem s_convB {s d : TypeId} {y : Operand} {b q m c : Nat} (ho : o.op = .convert s d y) (hv : evo fr y = .slice (some ⟨b, q, none⟩) m c) (e : oCvB P s d h n b q m = some x) : Oo P o fr h n x := by
  unfold oCvB at e
  split at e
  · rename_i e' hu hud
    split at e
    · rename_i hue
      obtain ⟨l, hl, e⟩ := bind_some e
      obtain ⟨cs, hcs, hl⟩ := bind_some hl
      obtain ⟨zs, hzs, hl⟩ := bind_some hl
      cases e
      obtain ⟨t1, t2⟩ := take'_some hzs
      rw [drop'_eq] at t1
      refine ⟨Ss.read _ _ _, fun k W a K' Q hop H _ hk => ?_⟩
      have h1 := hop y (by simp [ho, Op.operands])
      rw [hv] at h1
      obtain ⟨_, b', zz, cap, hkb, h7, _⟩ := h1.slc_inv
      obtain ⟨b2, vs, sp, ty, e1, e2, e3⟩ := (H.rep b (tb_bit.2 rfl) cs hcs).cel hkb
      have hkb' : k b = some (b', zz + 1) := hkb
      rw [hkb'] at e1; cases e1
      have h3 : LR (VX k) zs ((vs.drop q).take m) := by rw [t1]; exact (e3.drop q).take _
      obtain ⟨ns, n1, n2⟩ := bytes'_some hl h3
      have hload : (loadCells ⟨b', q, none⟩ m).run P W = .ok (ns.map (Value.int .u8)).toArray W := by
        have hlen : (ns.map (Value.int .u8)).length = m := by rw [← n1, h3.len, t2]
        have := run_loadCells_list (P := P) W ⟨b', q, none⟩ (ns.map (Value.int .u8)) (fun j u hu' => by
          rw [Addr.add_mid, cell_of e2]
          rw [← n1, List.getElem?_take] at hu'
          split at hu'
          · rw [List.getElem?_drop] at hu'
            rw [List.getElem?_append_left (List.getElem?_eq_some_iff.1 hu').1]; exact hu'
          · cases hu')
        rw [hlen] at this
        exact this
      have hrun := run_bytesToString (P := P) W ⟨b', q, none⟩ m cap ns hload
      rw [← run_convert_bytes_string W s d e' _ _ _ hu hue hud, push_fold] at hrun
      unfold Oper.wp
      have : (execOp a.eval o).run P W = .ok (.value (.string ⟨l.toArray⟩)) W := by
        simp only [execOp, ho, h7]
        rw [Sem.run_bind, hrun, n2]
        rfl
      rw [this, Oper.upon_value]
      exact hk _ W k (Sd.read H) (VX.of0 rfl)
    · cases e
  · cases e
end
end S
end Go.Proofs.YtfmfeipeeedfpaaGreat
namespace Go.Proofs.YtfmfeipeeedfpaaGreat
namespace S
open Go.CheckFast (force force_eq)
/-- A frame that was reckoned against one of the run. -/
structure FR (k : K) (f : FT) (a : Act) : Prop where
  m : f.m = a.tmps.size
  get : ∀ t, VX k (fget f t) (a.tmps.getD t undef)
  df : a.defers = []
theorem ev_of {k : K} {f : FT} {a : Act} (y : Operand) (h : ∀ t, y = .tmp t → VX k (fget f t) (a.tmps.getD t undef)) : VX k (evo f y) (a.eval y) := by
  cases y with
  | tmp t => exact h t rfl
  | const v =>
    exact cst_vx
  | global g => exact VX.raw
  | func g => exact VX.func (cs := []) (us := []) rfl
theorem FR.ev {k : K} {f : FT} {a : Act} (h : FR k f a) (y : Operand) : VX k (evo f y) (a.eval y) := ev_of y fun t _ => h.get t
theorem FR.mono {k k' : K} {f : FT} {a : Act} (h : FR k f a) (e : ∀ i p, k i = some p → k' i = some p) : FR k' f a := ⟨h.m, fun t => (h.get t).mono e, h.df⟩
theorem put_m (f : FT) (d : Option Tmp) (v : Value) : (put f d v).m = f.m := by
  cases d with
  | none => rfl
  | some t => exact fput_m f t v
theorem put_sz (a : Act) (d : Option Tmp) (u : Value) : (a.put d u).tmps.size = a.tmps.size := by
  cases d with
  | none => rfl
  | some t => simp [Act.put]
theorem put_df (a : Act) (d : Option Tmp) (u : Value) : (a.put d u).defers = a.defers := by
  cases d with
  | none => rfl
  | some t => rfl
/-- One slot after it was written. -/
theorem put_get {k : K} {f : FT} {a : Act} {d : Option Tmp} {v u : Value} (hm : f.m = a.tmps.size) (hv : VX k v u) (t : Nat) (h : VX k (fget f t) (a.tmps.getD t undef)) : VX k (fget (put f d v) t) ((a.put d u).tmps.getD t undef) := by
  cases d with
  | none => exact h
  | some s =>
    simp only [put, Act.put]
    by_cases e : s = t
    · subst e
      by_cases hs : s < f.m
      · rw [fget_same v hs]
        have : s < a.tmps.size := hm ▸ hs
        simpa [this] using hv
      · have h1 : fput f s v = f := by unfold fput; rw [blt_f hs]; rfl
        rw [h1]
        have : ¬ s < a.tmps.size := hm ▸ hs
        simpa [this] using h
    · rw [fget_ne v e]
      have : (a.tmps.setIfInBounds s u).getD t undef = a.tmps.getD t undef := by
        simp [Array.getD_eq_getD_getElem?, Array.getElem?_setIfInBounds_ne e]
      rw [this]
      exact h
theorem FR.put {k : K} {f : FT} {a : Act} {v u : Value} (h : FR k f a) (d : Option Tmp) (hv : VX k v u) : FR k (S.put f d v) (a.put d u) :=
  ⟨by rw [put_m, put_sz]; exact h.m, fun t => put_get h.m hv t (h.get t), by rw [put_df]; exact h.df⟩
/-- Whether an operation is wanted, as far as it is known. -/
def wantP (fr : FT) (ops : Array Oper) (g : Option (Nat × Bool)) (b : Bool) : Prop := match g with
  | none => b = true
  | some (j, w) => match (ops[j]?).bind (·.dst) with
    | some t => match fget fr t with
      | .complex _ re _ => b = (Nat.beq re 1 == w)
      | .bool c => b = (c == w)
      | .tuple _ => b = false
      | _ => False
    | none => False
theorem want_of {k : K} {f : FT} {a : Act} {ops : Array Oper} {o : Oper} {b : Bool} (e : wantP f ops o.guard b)
    (h : ∀ j w t, o.guard = some (j, w) → (ops[j]?).bind (·.dst) = some t → VX k (fget f t) (a.tmps.getD t undef)) : Region.wanted o (yielded ops a.tmps) = b := by
  unfold wantP at e
  unfold Region.wanted
  split at e
  · rename_i hg; subst e; rw [hg]
  · rename_i j w hg
    rw [hg]
    simp only
    split at e
    · rename_i t ht
      have h1 := h j w t hg ht
      unfold yielded
      rw [ht]
      simp only [Option.bind_some]
      have key : ∀ c : Bool, a.tmps.getD t undef = .bool c → b = (c == w) → ((match a.tmps[t]? with | some (.bool b) => some b | _ => none) == some w) = b := by
        intro c h2 e
        rw [Array.getD_eq_getD_getElem?] at h2
        cases h3 : a.tmps[t]? with
        | none => rw [h3] at h2; cases h2
        | some u => rw [h3] at h2; simp at h2; subst h2; subst e; cases c <;> cases w <;> rfl
      split at e
      · rename_i hc; rw [hc] at h1; exact key _ h1.lit_inv e
      · rename_i hc; rw [hc] at h1; exact key _ h1.bool_inv e
      · rename_i vs hc
        subst e
        rw [hc] at h1
        obtain ⟨us, h2, _⟩ := h1.tuple_inv
        rw [Array.getD_eq_getD_getElem?] at h2
        cases h3 : a.tmps[t]? with
        | none => cases w <;> rfl
        | some u => rw [h3] at h2; simp at h2; subst h2; cases w <;> rfl
      · exact e.elim
    · exact e.elim
/-- What is said of an operation where something is known of all worlds that are met. -/
structure Oa (A : K → World → Prop) (P : Program) (o : Oper) (fr : FT) (h : HT) (n : Nat) (x : R5) : Prop where
  ss : Ss h n x.h x.n x.r x.w
  ok : ∀ (k : K) (W : World) (a : Act) (K' : Act → World → Prop) (Q : Exit → Act → World → Prop), A k W → (∀ y ∈ o.op.operands.toList, VX k (evo fr y) (a.eval y)) → HR k h W x.r → (∀ i, n ≤ i → i < x.n → k i = none) →
    (∀ u W' k', Sd h n x.h x.n x.r x.w k W k' W' → VX k' x.v u → K' (a.put o.dst u) W') → o.wp P a W K' Q
theorem Oo.to {A : K → World → Prop} {P : Program} {o : Oper} {fr : FT} {h : HT} {n : Nat} {x : R5} (e : Oo P o fr h n x) : Oa A P o fr h n x := ⟨e.ss, fun k W a K' Q _ => e.ok k W a K' Q⟩
/-- What is known stays known. -/
def Stable (A : K → World → Prop) : Prop := ∀ h n h' n' r w k W k' W', A k W → Sd h n h' n' r w k W k' W' → A k' W'
/-- One operation of a region. -/
def StepR (A : K → World → Prop) (P : Program) (ops : Array Oper) (s : RL) (o : Oper) (s1 : RL) : Prop :=
  (wantP s.f ops o.guard true ∧ ∃ x, Oa A P o s.f s.h s.n x ∧ s1 = ⟨put s.f o.dst x.v, x.h, x.n, Nat.lor s.r x.r, Nat.lor s.w x.w, (x.r, x.w) :: s.l⟩) ∨
  (wantP s.f ops o.guard false ∧ s1 = ⟨put s.f o.dst undef, s.h, s.n, s.r, s.w, (0, 0) :: s.l⟩)
def EvL (A : K → World → Prop) (P : Program) (ops : Array Oper) : List Oper → RL → RL → Prop
  | [], s, s' => s = s'
  | o :: l, s, s' => ∃ s1, StepR A P ops s o s1 ∧ EvL A P ops l s1 s'
theorem Ss.congr {h h' : HT} {n n' r w r' w' : Nat} (s : Ss h n h' n' r w) (hr : ∀ i, tb r i ↔ tb r' i) (hw : ∀ i, tb w i ↔ tb w' i) : Ss h n h' n' r' w' :=
  ⟨s.le, s.nn, fun i hi => s.same i (fun h => hi ((hw i).1 h)), fun i hi hn => (hr i).1 (s.old i ((hw i).2 hi) hn), fun i hi => s.lt i ((hw i).2 hi), s.back⟩
theorem Sd.congr {h h' : HT} {n n' r w r' w' : Nat} {k k' : K} {W W' : World} (d : Sd h n h' n' r w k W k' W') (hr : ∀ i, tb r i ↔ tb r' i) (hw : ∀ i, tb w i ↔ tb w' i) : Sd h n h' n' r' w' k W k' W' :=
  ⟨d.ext, d.dom, d.rep.sub (fun i hi => by rw [tb_or] at hi ⊢; exact hi.imp (hr i).2 (hw i).2), fun b hb hj => d.frm b hb (fun j z hj' => hj j z ((hw j).1 hj')),
    fun i b z h1 h2 h3 h4 => (d.fresh i b z h1 h2 h3 h4).imp id (fun ⟨j, z', a, b⟩ => ⟨j, z', (hw j).1 a, b⟩), d.own, d.size, d.os, d.tape, d.output⟩
/-- What is said of a step. -/
theorem step_ok {A : K → World → Prop} {P : Program} {ops : Array Oper} {o : Oper} {s s1 : RL} (e : StepR A P ops s o s1) :
    ∃ r w v, s1.l = (r, w) :: s.l ∧ s1.f = put s.f o.dst v ∧ (∀ i, tb s1.r i ↔ tb s.r i ∨ tb r i) ∧ (∀ i, tb s1.w i ↔ tb s.w i ∨ tb w i) ∧ Ss s.h s.n s1.h s1.n r w ∧
      ∀ (k : K) (W : World) (a : Act) (K' : Act → World → Prop) (Q : Exit → Act → World → Prop), A k W → (∀ y ∈ o.op.operands.toList, VX k (evo s.f y) (a.eval y)) → (∀ j w t, o.guard = some (j, w) → (ops[j]?).bind (·.dst) = some t → VX k (fget s.f t) (a.tmps.getD t undef)) →
        HR k s.h W r → (∀ i, s.n ≤ i → i < s1.n → k i = none) → (∀ u W' k', Sd s.h s.n s1.h s1.n r w k W k' W' → VX k' v u → K' (a.put o.dst u) W') →
        if Region.wanted o (yielded ops a.tmps) = true then o.wp P a W K' Q else K' (a.put o.dst undef) W := by
  rcases e with ⟨hw, x, hx, rfl⟩ | ⟨hw, rfl⟩
  · refine ⟨x.r, x.w, x.v, rfl, rfl, fun i => tb_or, fun i => tb_or, hx.ss, fun k W a K' Q hA hop hg H hnew hk => ?_⟩
    rw [want_of hw hg, if_pos rfl]
    exact hx.ok k W a K' Q hA hop H hnew hk
  · refine ⟨0, 0, undef, rfl, rfl, fun i => ⟨Or.inl, fun h => h.resolve_right tb_zero⟩, fun i => ⟨Or.inl, fun h => h.resolve_right tb_zero⟩, Ss.refl _ _, fun k W a K' Q _ hop hg H hnew hk => ?_⟩
    rw [want_of hw hg, if_neg (by simp)]
    exact hk undef W k (Sd.refl _ _ _ _) undef_vx
/-- One behind the other. -/
theorem list_ok {A : K → World → Prop} (hSt : Stable A) {P : Program} {ops : Array Oper} : ∀ (l : List Oper) (s s' : RL), (∀ i, s.n ≤ i → hget s.h i = none) → EvL A P ops l s s' →
    ∃ r w, (∀ i, tb s'.r i ↔ tb s.r i ∨ tb r i) ∧ (∀ i, tb s'.w i ↔ tb s.w i ∨ tb w i) ∧ Ss s.h s.n s'.h s'.n r w ∧
      ∀ (k : K) (W : World) (a : Act) (Q : Exit → Act → World → Prop), A k W → FR k s.f a → HR k s.h W r → (∀ i, s.n ≤ i → i < s'.n → k i = none) → (∀ k' W' a', Sd s.h s.n s'.h s'.n r w k W k' W' → FR k' s'.f a' → Q .normal a' W') → wpList P ops Q l a W
  | [], s, s', nn, e => by
    cases e
    exact ⟨0, 0, fun i => ⟨Or.inl, fun h => h.resolve_right tb_zero⟩, fun i => ⟨Or.inl, fun h => h.resolve_right tb_zero⟩, Ss.refl _ _, fun k W a Q _ hf _ _ hk => wpList_nil (hk k W a (Sd.refl _ _ _ _) hf)⟩
  | o :: l, s, s', nn, e => by
    obtain ⟨s1, h1, e⟩ := e
    obtain ⟨r1, w1, v, _, hf1, hr1, hw1, ss1, ok1⟩ := step_ok h1
    obtain ⟨r2, w2, hr2, hw2, ss2, ok2⟩ := list_ok hSt l s1 s' (ss1.nn nn) e
    refine ⟨Nat.lor r1 r2, Nat.lor w1 w2, fun i => by rw [hr2, hr1, tb_or, or_assoc], fun i => by rw [hw2, hw1, tb_or, or_assoc], ss1.trans ss2, fun k W a Q hA hf H hnew hk => ?_⟩
    refine wpList_step fun K hK => ?_
    refine ok1 k W a K Q hA (fun y _ => hf.ev y) (fun j w t _ _ => hf.get t) (H.sub fun i hi => tb_or.2 (Or.inl hi)) (fun i h1 h2 => hnew i h1 (Nat.lt_of_lt_of_le h2 ss2.le)) (fun u W' k' hd hv => hK _ _ ?_)
    have H2 := Sd.next ss1 hd nn H
    refine ok2 k' W' _ Q (hSt _ _ _ _ _ _ _ _ _ _ hA hd) (by rw [hf1]; exact (hf.mono hd.ext).put o.dst hv) (H2.sub fun i hi => tb_or.2 (Or.inr hi)) (fun i h1 h2 => by rw [hd.dom i (Or.inr h1)]; exact hnew i (Nat.le_trans ss1.le h1) h2) (fun k2 W2 a2 hd2 hf2 => hk k2 W2 a2 (Sd.trans ss1 hd ss2 hd2 nn H) hf2)
end S
end Go.Proofs.YtfmfeipeeedfpaaGreat
