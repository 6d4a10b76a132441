/-
  What is left to be shown of code, step by step. What is left to be shown of code is enough; results; entering a function; loops; calls. Functions of values; calls; loops.
-/
import Derived.Test.YtfmfeipeeedfpaaGreatLe
import Derived.Scope
import Derived.KernelRfl
namespace Go.Proofs.YtfmfeipeeedfpaaGreat
namespace S
open Go.CheckFast (force force_eq)
open Go.RowKit (Below)
/-! Blocks of which the cells are not told one by one: a mark beside them. -/
def msk (h : HT) (b : Nat) : HT := (b + 4096, none) :: h
def hsym : HT → Nat → Bool
  | [], _ => false
  | x :: l, b => bif Nat.beq x.1 (b + 4096) then true else hsym l b
theorem hget_msk (h : HT) (b i : Nat) : hget (msk h b) i = hget h i := by
  unfold hget msk
  by_cases hi : i < 4096
  · rw [blt_t hi]; simp only [cond_true, hlook, beq_f (show b + 4096 ≠ i by omega), cond_false]
  · rw [blt_f hi]; rfl
theorem hget_mskf (h : HT) (b : Nat) : hget (msk h b) = hget h := funext (hget_msk h b)
theorem Ss.mask {h h' : HT} {n n' r w : Nat} (b : Nat) (s : Ss h n h' n' r w) : Ss h n (msk h' b) n' r w where
  le := s.le
  nn := fun nn i hi => by rw [hget_msk]; exact s.nn nn i hi
  same := fun i hi => by rw [hget_msk]; exact s.same i hi
  old := s.old
  lt := s.lt
  back := fun i hi ⟨cs, e⟩ => s.back i hi ⟨cs, by rw [← hget_msk h' b]; exact e⟩
theorem Sd.unmask {h h' : HT} {n n' r w : Nat} {k k' : K} {W W' : World} (b : Nat) (s : Sd h n h' n' r w k W k' W') : Sd h n (msk h' b) n' r w k W k' W' where
  ext := s.ext
  dom := s.dom
  rep := ⟨fun i hi cs e => s.rep.rep i hi cs (by rw [← hget_msk h' b]; exact e), fun i j hi hj ⟨c1, e1⟩ ⟨c2, e2⟩ => s.rep.inj i j hi hj ⟨c1, by rw [← hget_msk h' b]; exact e1⟩ ⟨c2, by rw [← hget_msk h' b]; exact e2⟩⟩
  frm := s.frm
  fresh := fun i b' z h1 h2 ⟨cs, e⟩ h4 => by
    rcases s.fresh i b' z h1 h2 ⟨cs, by rw [← hget_msk h' b]; exact e⟩ h4 with h | ⟨j, z', a1, a2, a3, a4, a5⟩
    · exact Or.inl h
    · exact Or.inr ⟨j, z', a1, a2, a3, fun ⟨c, e⟩ => a4 ⟨c, by rw [← hget_msk h' b]; exact e⟩, a5⟩
  own := s.own
  size := s.size
  os := s.os
  tape := s.tape
  output := s.output
theorem Oa.mask {A : K → World → Prop} {P : Program} {o : Oper} {fr : FT} {h h' : HT} {n n' r w : Nat} {v : Value} (b : Nat) (e : Oa A P o fr h n ⟨v, h', n', r, w⟩) : Oa A P o fr h n ⟨v, msk h' b, n', r, w⟩ :=
  ⟨e.ss.mask b, fun k W a K' Q hA hop H hn hk => e.ok k W a K' Q hA hop H hn fun u W' k' hd hv => hk u W' k' (hd.unmask b) hv⟩
/-! Places of one's own that are no literals. -/
/-- A place, told shortly. -/
def ofsK (q i z : Nat) (D : Nat → Prop) : Prop := bif Nat.beq q 0 then bif Nat.beq z 1 then D i else D (i * z) else D (q + i * z)
theorem ofsK_eq (q i z : Nat) (D : Nat → Prop) : ofsK q i z D = D (q + i * z) := by
  unfold ofsK
  cases hq : Nat.beq q 0 with
  | false => rfl
  | true =>
    have := Nat.eq_of_beq_eq_true hq
    subst this
    cases hz : Nat.beq z 1 with
    | false => simp
    | true => have := Nat.eq_of_beq_eq_true hz; subst this; simp
def ixoK (P : Program) (t : TypeId) (x i : Value) (D : Value → Prop) : Option Prop := match x with
  | .slice (some ⟨b, q, _⟩) m es => match i with
    | .int _ j => match P.underlying t with
      | some (.slice e) => match szOf P e with
        | some z => bif Nat.beq z es then some (∃ i : Nat, (i : Int) = j ∧ i < m ∧ ofsK q i z fun p => D (.pointer (some ⟨b, p, some 1⟩))) else none
        | none => none
      | _ => none
    | _ => none
  | .pointer (some ⟨b, q, none⟩) => match i with
    | .int _ j => match P.underlying t with
      | some (.array m e) => match szOf P e with
        | some z => some (∃ i : Nat, (i : Int) = j ∧ i < m ∧ ofsK q i z fun p => D (.pointer (some ⟨b, p, some 1⟩)))
        | none => none
      | _ => none
    | _ => none
  | .pointer (some ⟨b, q, some _⟩) => match i with
    | .int _ j => match P.underlying t with
      | some (.array m e) => match szOf P e with
        | some z => some (∃ i : Nat, (i : Int) = j ∧ i < m ∧ D (.pointer (some ⟨b, q + i * z, some 1⟩)))
        | none => none
      | _ => none
    | _ => none
  | _ => none
def ldoK (P : Program) (h : HT) (n : Nat) (t : TypeId) (x : Value) (C : R5 → Prop) : Option Prop := match x with
  | .pointer (some ⟨b, q, _⟩) => match hget h b with
    | some cs => match isRow P t with
      | some true => match szOf P t with
        | some z => some (∃ us : List Value, (cs.drop q).take z = us ∧ us.length = z ∧ (C ⟨.agg us.toArray, h, n, bit b, 0⟩ ∨ ∃ vs : List Value, us = vs.map rel1 ∧ C ⟨raw (.agg vs.toArray), h, n, bit b, 0⟩))
        | none => none
      | some false => some (∃ v, cs[q]? = some v ∧ C ⟨v, h, n, bit b, 0⟩)
      | none => none
    | none => none
  | _ => none
def stoK (P : Program) (h : HT) (n : Nat) (t : TypeId) (x y : Value) (C : R5 → Prop) : Option Prop := match x with
  | .pointer (some ⟨b, q, _⟩) => match hget h b with
    | some cs => match szOf P t with
      | some z => bif Nat.beq y.cells.toList.length z && allOne y.cells.toList then some (q + z ≤ cs.length ∧ ∃ cs', cs' = cs.take q ++ y.cells.toList ++ cs.drop (q + z) ∧ C ⟨undef, msk (hs12 h b (some cs')) b, n, bit b, bit b⟩) else none
      | none => none
    | none => none
  | _ => none
/-- A slice with nothing in it: told by itself. -/
def isEmp (v : Value) : Bool := match v with
  | .float _ _ => true
  | _ => false
def appK (A : K → World → Prop) (P : Program) (ts : List TypeId) (vs : List Value) (h : HT) (n : Nat) (C : R5 → Prop) : Option Prop := match ts with
  | [t, t'] => match vs with
    | [x, y] => match P.underlying t with
      | some (.slice e) => match szOf P e with
        | some sz => bif apOk P e sz && Nat.blt n 4096 && !isEmp y then match x with
            | .slice none 0 0 => some (∃ m zs rb, Put A P h t' sz y m zs rb ∧ 0 < m ∧ m ≤ 1407374883 ∧ C ⟨.slice (some ⟨n, 0, none⟩) m sz, msk (hs12 h n (some zs)) n, n + 1, rb, bit n⟩)
            | .slice (some ⟨a, 0, none⟩) len es => match hget h a with
              | some cs => bif Nat.beq es sz then some (cs.length = len * sz ∧ ∃ m zs rb, Put A P h t' sz y m zs rb ∧ len + m ≤ 1407374883 ∧ ∃ cs', cs' = cs ++ zs ∧ C ⟨.slice (some ⟨n, 0, none⟩) (len + m) sz, msk (hs12 (hs12 h a none) n (some cs')) n, n + 1, Nat.lor (bit a) rb, Nat.lor (bit a) (bit n)⟩) else none
              | none => none
            | _ => none
          else none
        | none => none
      | _ => none
    | _ => none
  | _ => none
def cvK (P : Program) (d : TypeId) (x : Value) (D : Value → Prop) : Option Prop := match x with
  | .int _ a => match P.underlying d with
    | some (.int k) => some (∃ z, k.wrap a = z ∧ D (.int k z))
    | _ => none
  | _ => none
/-- A row as it came put into a block of one's own. -/
def boxK (x : Value) (h : HT) (n : Nat) (C : R5 → Prop) : Option Prop := match x with
  | .iface 0 y => bif Nat.blt n 4096 then some (∃ us : List Value, y = .agg us.toArray ∧ (∀ u ∈ us, u.oneCell' = true) ∧ C ⟨.pointer (some ⟨n, 0, none⟩), msk (hs12 h n (some (us.map rel1))) n, n + 1, 0, bit n⟩) else none
  | _ => none
def unK (op : UnOp) (x : Value) (D : Value → Prop) : Option Prop := match x with
  | .int k a => match op with
    | .neg => some (∃ z, k.wrap (0 - a) = z ∧ D (.int k z))
    | .xor => some (∃ z, k.wrap ((BitVec.ofInt k.bits (if k.signed then -1 else k.max) ^^^ BitVec.ofInt k.bits a).toNat : Int) = z ∧ D (.int k z))
    | _ => none
  | _ => none
section
variable {P : Program} {o : Oper} {fr : FT} {h : HT} {n : Nat}
theorem boxK_ok {t : TypeId} {y : Operand} {C : R5 → Prop} {R : Prop} (nn : ∀ i, n ≤ i → hget h i = none) (ho : o.op = .box t y) (he : boxK (evo fr y) h n C = some R) (e : R) {A : K → World → Prop} : ∃ x, Oa A P o fr h n x ∧ C x := by
  unfold boxK at he
  split at he
  · rename_i y' hv
    obtain ⟨hn, he⟩ := bif_some he
    cases he
    obtain ⟨us, hy, _, hC⟩ := e
    refine ⟨_, Oa.mask n (Oo.to ?_), hC⟩
    have hnew : oNew h n (.pointer (some ⟨n, 0, none⟩)) (us.map rel1) 0 0 = some ⟨.pointer (some ⟨n, 0, none⟩), hs12 h n (some (us.map rel1)), n + 1, 0, Nat.lor 0 (bit n)⟩ := by unfold oNew; rw [hn]; rfl
    have key := new_ok (P := P) (o := o) (fr := fr) nn hnew fun k W a hop _ => by
      have h1 := hop y (by simp [ho, Op.operands])
      rw [hv] at h1
      have h2 := h1.raw_inv
      rw [hy] at h2
      refine ⟨us, [], t, .pointer (some ⟨W.heap.size, 0, none⟩), W.alloc (.cells us.toArray t), rels_vx us, ?_, by show W.heap.push _ = _; simp, rfl, ⟨rfl, Nat.le_refl _⟩, rfl, fun k' _ hk' => VX.of0 ⟨trivial, _, _, hk', rfl⟩⟩
      simp [execOp, ho, h2, Instr.box, newVar, newRow, Value.cells]
    have hz : Nat.lor 0 (bit n) = bit n := by show 0 ||| bit n = bit n; simp
    rw [hz] at key
    exact key
  · cases he
theorem unK_ok {op : UnOp} {t : TypeId} {y : Operand} {D : Value → Prop} {R : Prop} (ho : o.op = .unOp op t y) (he : unK op (evo fr y) D = some R) (e : R) : ∃ v, Oo P o fr h n ⟨v, h, n, 0, 0⟩ ∧ D v := by
  unfold unK at he
  split at he
  · rename_i k a hv
    have key : ∀ z : Int, (Op.unary op (.int k a) = pure (.int k z)) → Oo P o fr h n ⟨.int k z, h, n, 0, 0⟩ := fun z hz => Oo.val rfl fun kk W ac hop => ⟨.int k z, VX.of0 rfl, by
      have h2 := hop y (by simp [ho, Op.operands])
      rw [hv] at h2
      have h3 := h2.int_inv
      simp [execOp, ho, h3, hz]⟩
    split at he
    · cases he; obtain ⟨z, h1, hD⟩ := e; exact ⟨_, key z (by rw [← h1]; rfl), hD⟩
    · cases he; obtain ⟨z, h1, hD⟩ := e; exact ⟨_, key z (by rw [← h1]; rfl), hD⟩
    · cases he
  · cases he
theorem ixoK_ok {t : TypeId} {y ix : Operand} {D : Value → Prop} {R : Prop} (ho : o.op = .indexAddr t y ix) (he : ixoK P t (evo fr y) (evo fr ix) D = some R) (e : R) : ∃ v, Oo P o fr h n ⟨v, h, n, 0, 0⟩ ∧ D v := by
  unfold ixoK at he
  split at he
  · rename_i b q sp m es hv
    split at he
    · rename_i ki j hi
      split at he
      · rename_i e' hu
        split at he
        · rename_i z hz
          obtain ⟨_, he⟩ := bif_some he
          cases he
          obtain ⟨i, h0, h1, hD⟩ := e
          rw [ofsK_eq] at hD
          subst h0
          refine ⟨_, Oo.val rfl fun k W a hop => ?_, hD⟩
          have h2 := hop y (by simp [ho, Op.operands])
          have h2' := hop ix (by simp [ho, Op.operands])
          rw [hv] at h2; rw [hi] at h2'
          obtain ⟨_, b', zz, c, hk, h3, _⟩ := h2.slc_inv
          have h4 := h2'.int_inv
          obtain ⟨inf, hinf, hsz⟩ := szOf_info hz
          refine ⟨.pointer (some ⟨b', q + i * z, none⟩), VX.of0 ⟨trivial, b', zz, hk, rfl⟩, ?_⟩
          simp [execOp, ho, h3, h4, Instr.indexAt, asIntOf, run_underlying hu, sizeOf, typeInfo, hinf, hsz, Addr.add_mid, h1]
        · cases he
      · cases he
    · cases he
  · rename_i b q hv
    split at he
    · rename_i ki j hi
      split at he
      · rename_i m e' hu
        split at he
        · rename_i z hz
          cases he
          obtain ⟨i, h0, h1, hD⟩ := e
          rw [ofsK_eq] at hD
          subst h0
          refine ⟨_, Oo.val rfl fun k W a hop => ?_, hD⟩
          have h2 := hop y (by simp [ho, Op.operands])
          have h2' := hop ix (by simp [ho, Op.operands])
          rw [hv] at h2; rw [hi] at h2'
          obtain ⟨_, b', zz, hk, h3⟩ := h2.ptr_inv
          have h4 := h2'.int_inv
          obtain ⟨inf, hinf, hsz⟩ := szOf_info hz
          refine ⟨.pointer (some ⟨b', q + i * z, none⟩), VX.of0 ⟨trivial, b', zz, hk, rfl⟩, ?_⟩
          simp [execOp, ho, h3, h4, Instr.indexAt, asIntOf, Instr.sureAddr, run_underlying hu, sizeOf, typeInfo, hinf, hsz, Addr.add_mid, h1]
        · cases he
      · cases he
    · cases he
  · rename_i b q sp hv
    split at he
    · rename_i ki j hi
      split at he
      · rename_i m e' hu
        split at he
        · rename_i z hz
          cases he
          obtain ⟨i, h0, h1, hD⟩ := e
          subst h0
          refine ⟨_, Oo.val rfl fun k W a hop => ?_, hD⟩
          have h2 := hop y (by simp [ho, Op.operands])
          have h2' := hop ix (by simp [ho, Op.operands])
          rw [hv] at h2; rw [hi] at h2'
          obtain ⟨_, b', zz, hk, h3⟩ := h2.ptr_inv
          have h4 := h2'.int_inv
          obtain ⟨inf, hinf, hsz⟩ := szOf_info hz
          refine ⟨.pointer (some ⟨b', q + i * z, none⟩), VX.of0 ⟨trivial, b', zz, hk, rfl⟩, ?_⟩
          simp [execOp, ho, h3, h4, Instr.indexAt, asIntOf, Instr.sureAddr, run_underlying hu, sizeOf, typeInfo, hinf, hsz, Addr.add_mid, h1]
        · cases he
      · cases he
    · cases he
  · cases he
theorem ldoK_ok {t : TypeId} {y : Operand} {C : R5 → Prop} {R : Prop} (ho : o.op = .load t y) (he : ldoK P h n t (evo fr y) C = some R) (e : R) : ∃ x, Oo P o fr h n x ∧ C x := by
  unfold ldoK at he
  split at he
  · rename_i b q s hv
    split at he
    · rename_i cs hcs
      have key : ∀ v, (∀ (k : K) (W : World) (b' : Nat) (us sp : List Value) (ty : TypeId), W.heap[b']? = some (.cells (us ++ sp).toArray ty (0, 0)) → LR (VX k) cs us → ∃ u, VX k v u ∧ (loadVar t ⟨b', q, none⟩).run P W = .ok u W) → Oo P o fr h n ⟨v, h, n, bit b, 0⟩ := by
        intro v hl
        refine ⟨Ss.read _ _ _, fun k W a K' Q hop H _ hk => ?_⟩
        have h6 := hop y (by simp [ho, Op.operands])
        rw [hv] at h6
        obtain ⟨_, b', z, hkb, h7⟩ := h6.ptr_inv
        obtain ⟨b2, us, sp, ty, e1, e2, e3⟩ := (H.rep b (tb_bit.2 rfl) cs hcs).cel hkb
        have hkb' : k b = some (b', z + 1) := hkb
        rw [hkb'] at e1; cases e1
        obtain ⟨u, h8, h9⟩ := hl k W b' us sp ty e2 e3
        unfold Oper.wp
        have : (execOp a.eval o).run P W = .ok (.value u) W := by simp [execOp, ho, h7, Instr.loadAt, Instr.sureAddr, h9]
        rw [this, Oper.upon_value]
        exact hk u W k (Sd.read H) h8
      split at he
      · rename_i hrow
        obtain ⟨d, hu, hd⟩ := isRow_some hrow
        split at he
        · rename_i z hz
          cases he
          obtain ⟨vs, h1, h2, hC⟩ := e
          have ld : ∀ (k : K) (W : World) (b' : Nat) (us sp : List Value) (ty : TypeId), W.heap[b']? = some (.cells (us ++ sp).toArray ty (0, 0)) → LR (VX k) cs us → ∃ us', LR (VX k) vs us' ∧ (loadVar t ⟨b', q, none⟩).run P W = .ok (.agg us'.toArray) W := by
            intro k W b' us sp ty e2 e3
            have h3 : LR (VX k) vs ((us.drop q).take z) := by rw [← h1]; exact (e3.drop q).take z
            refine ⟨_, h3, run_loadVar_mid W b' q t _ d (fun j v hv => ?_) hu hd ?_⟩
            · rw [List.getElem?_take] at hv
              split at hv
              · rw [List.getElem?_drop] at hv
                rw [cell_of e2, List.getElem?_append_left (List.getElem?_eq_some_iff.1 hv).1]; exact hv
              · cases hv
            · obtain ⟨i, hi, hs⟩ := szOf_info hz
              rw [hi]
              simp only [Option.map_some, Option.some.injEq]
              rw [hs, h3.len, h2]
          rcases hC with hC | ⟨ws, hws, hC⟩
          · refine ⟨_, key _ fun k W b' us sp ty e2 e3 => ?_, hC⟩
            obtain ⟨us', h4, h5⟩ := ld k W b' us sp ty e2 e3
            exact ⟨_, VX.agg h4, h5⟩
          · refine ⟨_, key _ fun k W b' us sp ty e2 e3 => ?_, hC⟩
            obtain ⟨us', h4, h5⟩ := ld k W b' us sp ty e2 e3
            rw [hws] at h4
            have := LR.map (p := pur1) (d := den1) (fun _ _ h => pur1_eq h) h4 (by simp [pur_rel1])
            rw [List.map_map, show den1 ∘ rel1 = id from funext den_rel1, List.map_id] at this
            subst this
            exact ⟨_, VX.raw, h5⟩
        · cases he
      · rename_i hrow
        obtain ⟨d, hu, hd⟩ := isRow_some hrow
        cases he
        obtain ⟨v, h1, hC⟩ := e
        refine ⟨_, key _ fun k W b' us sp ty e2 e3 => ?_, hC⟩
        obtain ⟨u, h4, h5⟩ := e3.get h1
        refine ⟨u, h5, ?_⟩
        have hagg : (isAgg t).run P W = .ok false W := by
          unfold isAgg
          rw [Sem.run_bind, run_underlying hu W]
          cases d <;> simp_all
        have hc : W.cell? ⟨b', q, none⟩ = some u := by rw [cell_of e2, List.getElem?_append_left (List.getElem?_eq_some_iff.1 h4).1]; exact h4
        simp [loadVar, Sem.run_bind, hagg, hc]
      · cases he
    · cases he
  · cases he
theorem stoK_ok {t : TypeId} {y z : Operand} {C : R5 → Prop} {R : Prop} (ho : o.op = .store t y z) (nn : ∀ i, n ≤ i → hget h i = none) (he : stoK P h n t (evo fr y) (evo fr z) C = some R) (e : R) {A : K → World → Prop} : ∃ x, Oa A P o fr h n x ∧ C x := by
  unfold stoK at he
  split at he
  · rename_i b q s hv
    split at he
    · rename_i cs hcs
      split at he
      · rename_i m hm
        obtain ⟨hc, he⟩ := bif_some he
        simp only [Bool.and_eq_true, Nat.beq_eq] at hc
        cases he
        obtain ⟨h2, cs', h1, hC⟩ := e
        refine ⟨_, Oa.mask b (Oo.to ?_), hC⟩
        rw [← hc.1] at h2 h1
        have hb := hget_lt hcs
        refine ⟨Ss.write nn hb hcs, fun k W a K' Q hop H _ hk => ?_⟩
        have h6 := hop y (by simp [ho, Op.operands])
        have h6' := hop z (by simp [ho, Op.operands])
        rw [hv] at h6
        obtain ⟨_, b', zz, hkb, h7⟩ := h6.ptr_inv
        obtain ⟨b2, us, sp, ty, e1, e2, e3⟩ := (H.rep b (tb_bit.2 rfl) cs hcs).cel hkb
        have hbb : b2 = b' ∧ us.length + sp.length = zz := by
          have hkb' : k b = some (b', zz + 1) := hkb
          rw [hkb'] at e1; cases e1; exact ⟨rfl, rfl⟩
        obtain ⟨rfl, hzz⟩ := hbb
        obtain ⟨r1, r2⟩ := cells_rel h6' hc.2
        have hlen := r1.len
        have hus := e3.len
        have hfit : q + (a.eval z).cells.toList.length ≤ us.length := by rw [hlen, hus]; exact h2
        have hst := run_storeCells_cells (P := P) b2 q (a.eval z).cells.toList 0 W (fun j hj => by
            rw [cell_of e2, List.getElem?_append_left (by omega), List.getElem?_eq_getElem (by omega)]; rfl) (fun j hj => fz_of e2 _) r2
        simp only [Nat.add_zero] at hst
        obtain ⟨i, hi, hs⟩ := szOf_info hm
        have hsz : (a.eval z).cells.size = i.size := by rw [hs, ← hc.1, ← hlen]; simp
        have hrun : (execOp a.eval o).run P W = .ok .skip (W.setCells b2 q (a.eval z).cells.toList) := by
          simp [execOp, ho, h7, Instr.storeAt, Instr.sureAddr, storeVar, sizeOf, typeInfo, hi, hsz, hst]
        unfold Oper.wp
        rw [hrun, Oper.upon_skip]
        have hset := heap_setCells (b := b2) (ty := ty) (a.eval z).cells.toList q W (us ++ sp) e2 (by simp; omega)
        have hshape : (us ++ sp).take q ++ (a.eval z).cells.toList ++ (us ++ sp).drop (q + (a.eval z).cells.toList.length) = (us.take q ++ (a.eval z).cells.toList ++ us.drop (q + (a.eval z).cells.toList.length)) ++ sp := by
          rw [List.take_append_of_le_length (by omega), List.drop_append_of_le_length hfit]
          simp
        rw [hshape] at hset
        refine hk undef _ k (Sd.write hb hcs hkb hset ?_ ?_ (fun c hc _ => heap_setCells_other hc _ _) ?_ (rest_setCells _ _ _ _).1 (rest_setCells _ _ _ _).2.1 (rest_setCells _ _ _ _).2.2) undef_vx
        · rw [← hzz]
          simp
          omega
        · rw [h1, ← hlen]
          exact ((e3.take q).app r1).app (e3.drop _)
        · rw [size_setCells]; exact Nat.le_refl _
      · cases he
    · cases he
  · cases he
theorem appK_ok {A : K → World → Prop} {ts : Array TypeId} {xs : Array Operand} {C : R5 → Prop} {R : Prop} (nn : ∀ i, n ≤ i → hget h i = none) (ho : o.op = .call { callee := .builtin .append, args := xs, argTypes := ts }) (he : appK A P ts.toList (evl fr xs.toList) h n C = some R) (e : R) : ∃ x, Oa A P o fr h n x ∧ C x := by
  unfold appK at he
  split at he
  · rename_i t t' hts
    have hta : ts = #[t, t'] := by apply Array.ext'; rw [hts]
    subst hta
    split at he
    · rename_i x y hvs
      split at he
      · rename_i e' hu
        split at he
        · rename_i sz hsz
          obtain ⟨hc, he⟩ := bif_some he
          simp only [Bool.and_eq_true, Nat.blt_eq] at hc
          obtain ⟨hc, _⟩ := hc
          split at he
          · cases he
            obtain ⟨m, zs, rb, h1, h2, h3, hC⟩ := e
            exact ⟨_, (r_app0 hc.2 nn ho hvs hu hsz hc.1 h1 h2 h3).mask _, hC⟩
          · split at he
            · rename_i cs hcs
              obtain ⟨hes, he⟩ := bif_some he
              cases he
              obtain ⟨hl, m, zs, rb, h1, h3, cs', h4, hC⟩ := e
              subst h4
              have hes := Nat.eq_of_beq_eq_true hes
              subst hes
              exact ⟨_, (r_app hc.2 nn ho hvs hu hsz hc.1 hcs hl h1 h3).mask _, hC⟩
            · cases he
          · cases he
        · cases he
      · cases he
    · cases he
  · cases he
theorem cvK_ok {s d : TypeId} {y : Operand} {D : Value → Prop} {R : Prop} (ho : o.op = .convert s d y) (hs : (P.underlying s).isSome = true) (he : cvK P d (evo fr y) D = some R) (e : R) : ∃ v, Oo P o fr h n ⟨v, h, n, 0, 0⟩ ∧ D v := by
  unfold cvK at he
  split at he
  · rename_i k0 a0 hv
    split at he
    · rename_i k hu
      cases he
      obtain ⟨z, h1, hD⟩ := e
      refine ⟨.int k z, Oo.val rfl fun kk W a hop => ⟨.int k z, VX.of0 rfl, ?_⟩, hD⟩
      have h2 := hop y (by simp [ho, Op.operands])
      rw [hv] at h2
      have h3 := h2.int_inv
      obtain ⟨ds, hds⟩ := Option.isSome_iff_exists.1 hs
      simp [execOp, ho, h3, convert, run_underlying hds, run_underlying hu, Conv.intToInt, h1]
    · cases he
  · cases he
end
/-- The address of a field: of one's own, or as it came. -/
def oFld (P : Program) (s : TypeId) (x : Operand) (f : Nat) (fr : FT) (h : HT) (n : Nat) : Option R5 := match evo fr x with
  | .iface 0 (.pointer (some ⟨b, o, none⟩)) => (fOff P s f).bind fun d => val h n (raw (.pointer (some ⟨b, o + d, none⟩)))
  | .pointer (some ⟨b, o, some c⟩) => (fOff P s f).bind fun d => val h n (.pointer (some ⟨b, o + d, some c⟩))
  | _ => oField P s x f fr h n
def oNilC (x : Operand) (fr : FT) (h : HT) (n : Nat) : Option R5 := match evo fr x with
  | .iface 0 (.pointer (some ⟨b, o, none⟩)) => val h n (raw (.pointer (some ⟨b, o, none⟩)))
  | _ => oNil x fr h n
def oNot (op : UnOp) (x : Operand) (fr : FT) (h : HT) (n : Nat) : Option R5 := match op with
  | .not => match evo fr x with
    | .complex _ re _ => val h n (bif Nat.beq re 1 then litF else litT)
    | .bool p => val h n (.bool (!p))
    | _ => none
  | _ => none
/-- What needs no word. -/
def op1 (P : Program) (o : Op) (fr : FT) (h : HT) (n : Nat) : Option R5 := match o with
  | .move x => oMove x fr h n
  | .assign x => oMove x fr h n
  | .extract x i => oExt x i fr h n
  | .nilCheck x => oNilC x fr h n
  | .fieldAddr s x f => oFld P s x f fr h n
  | .field s x f => oFieldV P s x f fr h n
  | .build t parts => oBuild P t parts fr h n
  | .buildSlice t len parts => oBuildS P t len parts fr h n
  | .load t x => oLoad P t x fr h n
  | .store t x y => oStore P t x y fr h n
  | .alloc t => oAlloc P t fr h n
  | .box _ x => oBox x fr h n
  | .makeFunc fn first captured => oFunc fn first captured fr h n
  | .unOp op _ x => oNot op x fr h n
  | _ => none
section
variable {P : Program} {o : Oper} {fr : FT} {h : HT} {n : Nat} {x : R5}
theorem s_fld {t : TypeId} {y : Operand} {f : Nat} (ho : o.op = .fieldAddr t y f) (e : oFld P t y f fr h n = some x) : Oo P o fr h n x := by
  unfold oFld at e
  split at e
  · rename_i b q hv
    obtain ⟨d, hd, e⟩ := bind_some e
    refine Oo.val e fun k W a hop => ⟨.pointer (some ⟨b, q + d, none⟩), VX.raw, ?_⟩
    have h2 := hop y (by simp [ho, Op.operands])
    rw [hv] at h2
    have h3 := h2.raw_inv
    unfold fOff at hd
    split at hd
    · rename_i fs hu
      split at hd
      · rename_i fd hf
        split at hd
        · rename_i m hs
          cases hd
          obtain ⟨i, hi, hsz⟩ := szOf_info hs
          have hf' : fs[f]? = some fd := by simpa using hf
          have hne : ¬ i.size = 0 := by omega
          simp [execOp, ho, h3, Instr.fieldAt, run_underlying hu, hf', Instr.sureAddr, fieldPlace, sizeOf, typeInfo, hi, hne, Addr.add_mid]
        · cases hd
      · cases hd
    · cases hd
  · rename_i b q c hv
    obtain ⟨d, hd, e⟩ := bind_some e
    refine Oo.val e fun k W a hop => ?_
    have h2 := hop y (by simp [ho, Op.operands])
    rw [hv] at h2
    obtain ⟨_, b', z, hk, h3⟩ := h2.ptr_inv
    refine ⟨.pointer (some ⟨b', q + d, none⟩), VX.of0 ⟨trivial, b', z, hk, rfl⟩, ?_⟩
    unfold fOff at hd
    split at hd
    · rename_i fs hu
      split at hd
      · rename_i fd hf
        split at hd
        · rename_i m hs
          cases hd
          obtain ⟨i, hi, hsz⟩ := szOf_info hs
          have hf' : fs[f]? = some fd := by simpa using hf
          have hne : ¬ i.size = 0 := by omega
          simp [execOp, ho, h3, Instr.fieldAt, run_underlying hu, hf', Instr.sureAddr, fieldPlace, sizeOf, typeInfo, hi, hne, Addr.add_mid]
        · cases hd
      · cases hd
    · cases hd
  · exact s_field ho e
theorem s_nilC {y : Operand} (ho : o.op = .nilCheck y) (e : oNilC y fr h n = some x) : Oo P o fr h n x := by
  unfold oNilC at e
  split at e
  · rename_i b q hv
    refine Oo.val e fun k W a hop => ⟨.pointer (some ⟨b, q, none⟩), VX.raw, ?_⟩
    have h2 := hop y (by simp [ho, Op.operands])
    rw [hv] at h2
    have h3 := h2.raw_inv
    simp [execOp, ho, h3]
  · exact s_nil ho e
theorem s_not {op : UnOp} {t : TypeId} {y : Operand} (ho : o.op = .unOp op t y) (e : oNot op y fr h n = some x) : Oo P o fr h n x := by
  unfold oNot at e
  split at e
  · split at e
    · rename_i kk re c hv
      refine Oo.val e fun k W a hop => ⟨.bool (!Nat.beq re 1), by cases Nat.beq re 1 <;> first | exact VX.litT | exact VX.litF, ?_⟩
      have h2 := hop y (by simp [ho, Op.operands])
      rw [hv] at h2
      have h3 := h2.lit_inv
      simp [execOp, ho, h3, Op.unary]
    · rename_i p hv
      refine Oo.val e fun k W a hop => ⟨.bool (!p), VX.of0 rfl, ?_⟩
      have h2 := hop y (by simp [ho, Op.operands])
      rw [hv] at h2
      have h3 := h2.bool_inv
      simp [execOp, ho, h3, Op.unary]
    · cases e
  · cases e
theorem s_op (nn : ∀ i, n ≤ i → hget h i = none) (e : op1 P o.op fr h n = some x) : Oo P o fr h n x := by
  cases hop : o.op with
  | move y => rw [hop] at e; exact s_move (Or.inl hop) e
  | assign y => rw [hop] at e; exact s_move (Or.inr hop) e
  | extract y i => rw [hop] at e; exact s_ext hop e
  | nilCheck y => rw [hop] at e; exact s_nilC hop e
  | fieldAddr t y f => rw [hop] at e; exact s_fld hop e
  | field s y f => rw [hop] at e; exact s_fieldV hop e
  | build t ps => rw [hop] at e; exact s_build hop e
  | buildSlice t l ps => rw [hop] at e; exact s_buildS hop nn e
  | load t y => rw [hop] at e; exact s_load hop e
  | store t y z => rw [hop] at e; exact s_store hop nn e
  | alloc t => rw [hop] at e; exact s_alloc hop nn e
  | box t y => rw [hop] at e; exact s_box hop nn e
  | makeFunc f a c => rw [hop] at e; exact s_func hop e
  | unOp p t y => rw [hop] at e; exact s_not hop e
  | _ => rw [hop] at e; cases e
end
/-! Values worked out before they are kept. -/
def fV1 (v : Value) (C : Value → Prop) : Prop := match v with
  | .bool b => C (.bool b)
  | .int k a => C (.int k a)
  | .string s => C (.string s)
  | .pointer a => match a with
    | none => C (.pointer none)
    | some a => match a with
      | ⟨b, q, s⟩ => C (.pointer (some ⟨b, q, s⟩))
  | .slice a m c => C (.slice a m c)
  | .complex k a b => C (.complex k a b)
  | .iface k x => C (.iface k x)
  | .map r => C (.map r)
  | .func f a b => C (.func f a b)
  | v => C v
def fL (g : Value → (Value → Prop) → Prop) : List Value → (List Value → Prop) → Prop
  | [], C => C []
  | v :: l, C => g v fun v => fL g l fun l => C (v :: l)
def fV2 (v : Value) (C : Value → Prop) : Prop := match v with
  | .agg cs => fL fV1 cs.toList fun l => C (.agg ⟨l⟩)
  | v => fV1 v C
def fV (v : Value) (C : Value → Prop) : Prop := match v with
  | .tuple cs => fL fV2 cs.toList fun l => C (.tuple ⟨l⟩)
  | v => fV2 v C
def fH (h : HT) (C : HT → Prop) : Prop := match h with
  | [] => C []
  | x :: l => match x with
    | ⟨i, c⟩ => match c with
      | none => C ((i, none) :: l)
      | some cs => fL fV1 cs fun cs => C ((i, some cs) :: l)
def fR (x : R5) (C : R5 → Prop) : Prop := match x with
  | ⟨v, h, n, r, w⟩ => fV v fun v => fH h fun h => C ⟨v, h, n, r, w⟩
def putK (f : FT) (d : Option Tmp) (v : Value) (C : FT → Prop) : Prop := match f with
  | ⟨m, l⟩ => match d with
    | none => C ⟨m, l⟩
    | some t => bif Nat.blt t m then C ⟨m, (t, v) :: l⟩ else C ⟨m, l⟩
theorem fV1_eq (v : Value) (C : Value → Prop) : fV1 v C = C v := by
  cases v with
  | pointer a => cases a <;> rfl
  | _ => rfl
theorem fL_eq {g : Value → (Value → Prop) → Prop} (hg : ∀ v C, g v C = C v) : ∀ (l : List Value) (C : List Value → Prop), fL g l C = C l
  | [], _ => rfl
  | v :: l, C => by rw [fL, hg, fL_eq hg l]
theorem fV2_eq (v : Value) (C : Value → Prop) : fV2 v C = C v := by
  cases v with
  | agg cs => rw [fV2, fL_eq fV1_eq]
  | _ => simp only [fV2]; exact fV1_eq _ C
theorem fV_eq (v : Value) (C : Value → Prop) : fV v C = C v := by
  cases v with
  | tuple cs => rw [fV, fL_eq fV2_eq]
  | _ => simp only [fV]; exact fV2_eq _ C
theorem fH_eq (h : HT) (C : HT → Prop) : fH h C = C h := by
  cases h with
  | nil => rfl
  | cons x l =>
    obtain ⟨i, c⟩ := x
    cases c with
    | none => rfl
    | some cs => rw [fH, fL_eq fV1_eq]
theorem fR_eq (x : R5) (C : R5 → Prop) : fR x C = C x := by rw [fR, fV_eq, fH_eq]
theorem putK_eq (f : FT) (d : Option Tmp) (v : Value) (C : FT → Prop) : putK f d v C = C (put f d v) := by
  obtain ⟨m, l⟩ := f
  cases d with
  | none => rfl
  | some t =>
    simp only [putK, put, fput]
    cases Nat.blt t m <;> rfl
/-- Whatever else. -/
def anyK (w0 : B0) (X : World) (P : Program) (o : Oper) (f : FT) (h : HT) (n : Nat) (C : R5 → Prop) : Prop := ∃ x, ((∀ i, n ≤ i → hget h i = none) → Oa (Am w0 X) P o f h n x) ∧ C x
def orK (x : Option Prop) (y : Prop) : Prop := match x with
  | some R => R
  | none => y
def cmpK (w0 : B0) (X : World) (P : Program) (o : Oper) (op : BinOp) (f : FT) (h : HT) (n : Nat) (C : R5 → Prop) : Prop := bif isCmp op then ∃ p : Bool, Oa (Am w0 X) P o f h n ⟨.bool p, h, n, 0, 0⟩ ∧ (p = true → C ⟨litT, h, n, 0, 0⟩) ∧ (p = false → C ⟨litF, h, n, 0, 0⟩) else anyK w0 X P o f h n C
def keq (a b : IntKind) : Bool := decide (a = b)
def binK (w0 : B0) (X : World) (P : Program) (o : Oper) (op : BinOp) (p q : Value) (f : FT) (h : HT) (n : Nat) (C : R5 → Prop) : Prop := match p with
  | .int k a => match q with
    | .int k' b => bif isSh op then shK op k a b fun v => C ⟨v, h, n, 0, 0⟩ else bif keq k k' then intK op k a b fun v => C ⟨v, h, n, 0, 0⟩ else False
    | _ => False
  | .string a => match q with
    | .string b => strK P op a b fun v => C ⟨v, h, n, 0, 0⟩
    | _ => False
  | _ => cmpK w0 X P o op f h n C
/-- Of a block that is told cell by cell. -/
def litO (p : Value) (h : HT) (x : Option R5) : Option R5 := match p with
  | .pointer (some ⟨b, _, none⟩) => bif hsym h b then none else x
  | _ => none
theorem litO_some {p : Value} {h : HT} {x : Option R5} {y : R5} (e : litO p h x = some y) : x = some y := by
  unfold litO at e
  split at e
  · rename_i b _
    cases hb : hsym h b <;> rw [hb] at e
    · exact e
    · cases e
  · cases e
def orB (p : Value) (x : Option R5) : Option R5 := match p with
  | .iface 0 (.agg _) => none
  | _ => x
theorem orB_some {p : Value} {x : Option R5} {y : R5} (e : orB p x = some y) : x = some y := by
  unfold orB at e
  split at e
  · cases e
  · exact e
def stepK (w0 : B0) (X : World) (P : Program) (o : Oper) (f : FT) (h : HT) (n : Nat) (B C : R5 → Prop) : Prop := match o.op with
  | .pick c y z => match evo f c with
    | .complex _ re _ => B ⟨evo f (bif Nat.beq re 1 then y else z), h, n, 0, 0⟩
    | .bool p => (p = true → C ⟨evo f y, h, n, 0, 0⟩) ∧ (p = false → C ⟨evo f z, h, n, 0, 0⟩)
    | _ => False
  | .binOp op _ y z _ => binK w0 X P o op (evo f y) (evo f z) f h n C
  | .indexAddr t x i => match i with
    | .const _ => match oIndA P t x i f h n with
      | some x => fR x B
      | none => orK (ixK P t (evo f x) (evo f i) fun v => C ⟨v, h, n, 0, 0⟩) (anyK w0 X P o f h n C)
    | _ => orK (ixK P t (evo f x) (evo f i) fun v => C ⟨v, h, n, 0, 0⟩) (orK (ixoK P t (evo f x) (evo f i) fun v => C ⟨v, h, n, 0, 0⟩) (anyK w0 X P o f h n C))
  | .index t x i => orK (sixK P t (evo f x) (evo f i) fun v => C ⟨v, h, n, 0, 0⟩) (anyK w0 X P o f h n C)
  | .slice t x l hi m => match m with
    | none => orK (slcK P t (evo f x) (l.map (evo f)) (hi.map (evo f)) fun v => C ⟨v, h, n, 0, 0⟩) (anyK w0 X P o f h n C)
    | some _ => anyK w0 X P o f h n C
  | .load t x => match litO (evo f x) h (oLoad P t x f h n) with
    | some x => fR x B
    | none => orK (ldK P X t (evo f x) fun v => fV v fun v => C ⟨v, h, n, 0, 0⟩) (orK (ldoK P h n t (evo f x) C) (anyK w0 X P o f h n C))
  | .store t x y => match litO (evo f x) h (oStore P t x y f h n) with
    | some x => fR x B
    | none => orK (stoK P h n t (evo f x) (evo f y) C) (anyK w0 X P o f h n C)
  | .box _ x => match orB (evo f x) (oBox x f h n) with
    | some x => fR x B
    | none => orK (boxK (evo f x) h n C) (anyK w0 X P o f h n C)
  | .unOp op _ x => match oNot op x f h n with
    | some x => B x
    | none => orK (unK op (evo f x) fun v => C ⟨v, h, n, 0, 0⟩) (anyK w0 X P o f h n C)
  | .convert s d x => bif (P.underlying s).isSome then orK (cvK P d (evo f x) fun v => C ⟨v, h, n, 0, 0⟩) (anyK w0 X P o f h n C) else False
  | .call c => match c.callee with
    | .builtin b => match b with
      | .len => orK (lenK P c.argTypes.toList (evl f c.args.toList) fun v => C ⟨v, h, n, 0, 0⟩) (anyK w0 X P o f h n C)
      | .append => orK (appK (Am w0 X) P c.argTypes.toList (evl f c.args.toList) h n C) (anyK w0 X P o f h n C)
      | _ => anyK w0 X P o f h n C
    | _ => anyK w0 X P o f h n C
  | op => match op1 P op f h n with
    | some x => fR x B
    | none => anyK w0 X P o f h n C
theorem Oa.lit {A : K → World → Prop} {P : Program} {o : Oper} {f : FT} {h h' : HT} {n n' r w : Nat} {p : Bool} (e : Oa A P o f h n ⟨.bool p, h', n', r, w⟩) : Oa A P o f h n ⟨bif p then litT else litF, h', n', r, w⟩ :=
  ⟨e.ss, fun k W a K' Q hA hop H hn hk => e.ok k W a K' Q hA hop H hn fun u W' k' hd hv => hk u W' k' hd (by
    rw [show u = .bool p from hv.bool_inv]; cases p <;> first | exact VX.litT | exact VX.litF)⟩
theorem orK_ok {x : Option Prop} {y T : Prop} (h1 : ∀ R, x = some R → R → T) (h2 : y → T) (e : orK x y) : T := by
  unfold orK at e
  split at e
  · exact h1 _ rfl e
  · exact h2 e
theorem stepK_ok {w0 : B0} {X : World} {P : Program} {o : Oper} {f : FT} {h : HT} {n : Nat} {B C : R5 → Prop} (nn : ∀ i, n ≤ i → hget h i = none) (e : stepK w0 X P o f h n B C) : ∃ x, Oa (Am w0 X) P o f h n x ∧ (B x ∨ C x) := by
  have anyL : anyK w0 X P o f h n C → ∃ x, Oa (Am w0 X) P o f h n x ∧ (B x ∨ C x) := fun ⟨x, h1, h2⟩ => ⟨x, h1 nn, Or.inr h2⟩
  have cr : (∃ x, Oa (Am w0 X) P o f h n x ∧ C x) → ∃ x, Oa (Am w0 X) P o f h n x ∧ (B x ∨ C x) := fun ⟨x, h1, h2⟩ => ⟨x, h1, Or.inr h2⟩
  have lift : (∃ v, Oo P o f h n ⟨v, h, n, 0, 0⟩ ∧ C ⟨v, h, n, 0, 0⟩) → ∃ x, Oa (Am w0 X) P o f h n x ∧ (B x ∨ C x) := fun ⟨v, h1, h2⟩ => ⟨_, h1.to, Or.inr h2⟩
  unfold stepK at e
  split at e
  · rename_i c y z ho
    split at e
    · rename_i kk re im hv
      exact ⟨_, (s_pick ho (Nat.beq re 1) (fun k u hu => by rw [hv] at hu; exact hu.lit_inv)).to, Or.inl e⟩
    · rename_i p hv
      have hh : ∀ k u, VX k (evo f c) u → u = .bool p := fun k u hu => by rw [hv] at hu; exact hu.bool_inv
      cases p with
      | true => exact ⟨_, (s_pick ho true hh).to, Or.inr (e.1 rfl)⟩
      | false => exact ⟨_, (s_pick ho false hh).to, Or.inr (e.2 rfl)⟩
    · exact e.elim
  · rename_i op t y z u ho
    unfold binK at e
    split at e
    · rename_i k a hy
      split at e
      · rename_i k' b hz
        cases hs : isSh op with
        | true => rw [hs] at e; exact lift (shK_ok ho hy hz e)
        | false =>
          rw [hs] at e
          cases hk : keq k k' with
          | true =>
            rw [hk] at e
            have : k = k' := of_decide_eq_true hk
            subst this
            exact lift (intK_ok ho hy hz e)
          | false => rw [hk] at e; exact e.elim
      · exact e.elim
    · rename_i a hy
      split at e
      · rename_i b hz; exact lift (strK_ok ho hy hz e)
      · exact e.elim
    · unfold cmpK at e
      cases hc : isCmp op with
      | true =>
        rw [hc] at e
        obtain ⟨p, h1, h2, h3⟩ := e
        cases p with
        | true => exact ⟨_, h1.lit, Or.inr (h2 rfl)⟩
        | false => exact ⟨_, h1.lit, Or.inr (h3 rfl)⟩
      | false => rw [hc] at e; exact anyL e
  · rename_i t x i ho
    split at e
    · split at e
      · rename_i x hx
        rw [fR_eq] at e
        exact ⟨x, (s_indA ho hx).to, Or.inl e⟩
      · exact orK_ok (fun R hR r => lift (ixK_ok ho hR r)) anyL e
    · exact orK_ok (fun R hR r => lift (ixK_ok ho hR r)) (orK_ok (fun R hR r => lift (ixoK_ok ho hR r)) anyL) e
  · rename_i t x i ho
    exact orK_ok (fun R hR r => lift (sixK_ok ho hR r)) anyL e
  · rename_i t x l hi m ho
    split at e
    · exact orK_ok (fun R hR r => lift (slcK_ok ho hR r)) anyL e
    · exact anyL e
  · rename_i t x ho
    split at e
    · rename_i x hx
      rw [fR_eq] at e
      exact ⟨x, (s_load ho (litO_some hx)).to, Or.inl e⟩
    · refine orK_ok (fun R hR r => ?_) (orK_ok (fun R hR r => ?_) anyL) e
      · obtain ⟨v, h1, h2⟩ := ldK_ok ho hR r
        rw [fV_eq] at h2
        exact ⟨_, h1, Or.inr h2⟩
      · obtain ⟨x, h1, h2⟩ := ldoK_ok ho hR r
        exact ⟨x, h1.to, Or.inr h2⟩
  · rename_i t x y ho
    split at e
    · rename_i x hx
      rw [fR_eq] at e
      exact ⟨x, (s_store ho nn (litO_some hx)).to, Or.inl e⟩
    · refine orK_ok (fun R hR r => ?_) anyL e
      exact cr (stoK_ok ho nn hR r)
  · rename_i t x ho
    split at e
    · rename_i x hx
      rw [fR_eq] at e
      exact ⟨x, (s_box ho nn (orB_some hx)).to, Or.inl e⟩
    · exact orK_ok (fun R hR r => cr (boxK_ok nn ho hR r)) anyL e
  · rename_i op t x ho
    split at e
    · rename_i x hx; exact ⟨x, (s_not ho hx).to, Or.inl e⟩
    · exact orK_ok (fun R hR r => lift (unK_ok ho hR r)) anyL e
  · rename_i s d x ho
    cases hs : (P.underlying s).isSome with
    | false => rw [hs] at e; exact e.elim
    | true => rw [hs] at e; exact orK_ok (fun R hR r => lift (cvK_ok ho hs hR r)) anyL e
  · rename_i c ho
    obtain ⟨cal, xs, ts⟩ := c
    simp only at e
    split at e
    · split at e
      · exact orK_ok (fun R hR r => lift (lenK_ok ho hR r)) anyL e
      · exact orK_ok (fun R hR r => cr (appK_ok nn ho hR r)) anyL e
      · exact anyL e
    · exact anyL e
  · split at e
    · rename_i x hx
      rw [fR_eq] at e
      exact ⟨x, (s_op nn hx).to, Or.inl e⟩
    · exact anyL e
/-- Is an operation wanted? -/
def wantK (fr : FT) (ops : Array Oper) (g : Option (Nat × Bool)) (B C : Bool → Prop) : Prop := match g with
  | none => B true
  | some (j, w) => match (ops[j]?).bind (·.dst) with
    | some t => match fget fr t with
      | .complex _ re _ => B (Nat.beq re 1 == w)
      | .bool c => (c = true → C (true == w)) ∧ (c = false → C (false == w))
      | .tuple _ => B false
      | _ => False
    | none => False
theorem wantK_ok {fr : FT} {ops : Array Oper} {g : Option (Nat × Bool)} {B C : Bool → Prop} (e : wantK fr ops g B C) : ∃ b, wantP fr ops g b ∧ (B b ∨ C b) := by
  unfold wantK at e
  unfold wantP
  split at e
  · exact ⟨true, rfl, Or.inl e⟩
  · split at e
    · rename_i t ht
      simp only [ht]
      split at e
      · rename_i hv; simp only [hv]; exact ⟨_, rfl, Or.inl e⟩
      · rename_i c hv; simp only [hv]
        cases c with
        | true => exact ⟨_, rfl, Or.inr (e.1 rfl)⟩
        | false => exact ⟨_, rfl, Or.inr (e.2 rfl)⟩
      · rename_i hv; simp only [hv]; exact ⟨_, rfl, Or.inl e⟩
      · exact e.elim
    · exact e.elim
/-- What is to be run: a region's operations that are left, and behind it codes and ends of blocks. -/
structure It where
  c : Code
  b : Option Nat
structure Cf where
  ops : Array Oper
  rest : List Oper
  draw : Bool
  s : RL
  X : World
  stk : List It
def co (c : Code) : It := ⟨c, none⟩
def bl (i : Nat) : It := ⟨.skip, some i⟩
/-- Codes alone. -/
def cf (s : St) (l : List It) : Cf := match s with
  | ⟨f, h, n, X⟩ => ⟨#[], [], false, ⟨f, h, n, 0, 0, []⟩, X, l⟩
def hasL : Code → Bool
  | .loop _ => true
  | .scope _ => true
  | .rangeFunc _ _ _ _ => true
  | .seq a b => hasL a || hasL b
  | .block _ c => hasL c
  | .cond _ x y => hasL x || hasL y
  | _ => false
/-- An exit that is no normal one goes out. -/
def exitK (P : Cf → Prop) (C : Exit → St → Prop) (e : Exit) (s : St) : List It → Prop
  | [] => C e s
  | i :: l => match i.b with
    | none => exitK P C e s l
    | some id => match e with
      | .exit j => bif Nat.beq j id then P (cf s l) else exitK P C e s l
      | e => exitK P C e s l
def outK (P : Cf → Prop) (C : Exit → St → Prop) (l : List It) (e : Exit) (s : St) : Prop := match e with
  | .normal => P (cf s l)
  | e => exitK P C e s l
/-- One step: what needs no word goes on by B, all else by R. -/
def oneK (P : Program) (w0 : B0) (C : Exit → St → Prop) (B R : Cf → Prop) (c : Cf) : Prop := match c with
  | ⟨ops, rest, draw, s, X, stk⟩ => match s with
    | ⟨f, h, n, r, w, l⟩ => match rest with
      | o :: rest => wantK f ops o.guard (fun b => bif b then
            stepK w0 X P o f h n (fun x => match x with
                | ⟨v, h', n', r', w'⟩ => putK f o.dst v fun f => B ⟨ops, rest, draw, ⟨f, h', n', Nat.lor r r', Nat.lor w w', (r', w') :: l⟩, X, stk⟩)
              (fun x => match x with
                | ⟨v, h', n', r', w'⟩ => putK f o.dst v fun f => R ⟨ops, rest, draw, ⟨f, h', n', Nat.lor r r', Nat.lor w w', (r', w') :: l⟩, X, stk⟩)
          else putK f o.dst undef fun f => B ⟨ops, rest, draw, ⟨f, h, n, r, w, (0, 0) :: l⟩, X, stk⟩)
        (fun b => bif b then
            stepK w0 X P o f h n (fun x => match x with
                | ⟨v, h', n', r', w'⟩ => putK f o.dst v fun f => R ⟨ops, rest, draw, ⟨f, h', n', Nat.lor r r', Nat.lor w w', (r', w') :: l⟩, X, stk⟩)
              (fun x => match x with
                | ⟨v, h', n', r', w'⟩ => putK f o.dst v fun f => R ⟨ops, rest, draw, ⟨f, h', n', Nat.lor r r', Nat.lor w w', (r', w') :: l⟩, X, stk⟩)
          else putK f o.dst undef fun f => R ⟨ops, rest, draw, ⟨f, h, n, r, w, (0, 0) :: l⟩, X, stk⟩)
      | [] => bif draw then ((drawOk ops && drawn (bef ops) ops.size l) = true ∧ R ⟨#[], [], false, ⟨f, h, n, 0, 0, []⟩, X, stk⟩) else match stk with
        | [] => C .normal ⟨f, h, n, X⟩
        | i :: stk => match i with
          | ⟨_, some _⟩ => B ⟨#[], [], false, ⟨f, h, n, 0, 0, []⟩, X, stk⟩
          | ⟨c, none⟩ => match c with
            | .skip => B ⟨#[], [], false, ⟨f, h, n, 0, 0, []⟩, X, stk⟩
            | .label _ => B ⟨#[], [], false, ⟨f, h, n, 0, 0, []⟩, X, stk⟩
            | .ret => exitK B C .ret ⟨f, h, n, X⟩ stk
            | .exit i => exitK B C (.exit i) ⟨f, h, n, X⟩ stk
            | .goto i => exitK B C (.goto i) ⟨f, h, n, X⟩ stk
            | .seq a b => bif hasL a then B ⟨#[], [], false, ⟨f, h, n, 0, 0, []⟩, X, co a :: co b :: stk⟩ else B ⟨#[], [], false, ⟨f, h, n, 0, 0, []⟩, X, co a :: co b :: stk⟩
            | .cond c x y => match evo f c with
              | .complex _ re _ => bif Nat.beq re 1 then B ⟨#[], [], false, ⟨f, h, n, 0, 0, []⟩, X, co x :: stk⟩ else B ⟨#[], [], false, ⟨f, h, n, 0, 0, []⟩, X, co y :: stk⟩
              | .bool p => (p = true → R ⟨#[], [], false, ⟨f, h, n, 0, 0, []⟩, X, co x :: stk⟩) ∧ (p = false → R ⟨#[], [], false, ⟨f, h, n, 0, 0, []⟩, X, co y :: stk⟩)
              | _ => False
            | .block id c => B ⟨#[], [], false, ⟨f, h, n, 0, 0, []⟩, X, co c :: bl id :: stk⟩
            | .region _ ops draw => B ⟨ops, ops.toList, draw, ⟨f, h, n, 0, 0, []⟩, X, stk⟩
            | c => WC P w0 c ⟨f, h, n, X⟩ (outK R C stk)
def adv (P : Program) (w0 : B0) (C : Exit → St → Prop) (R : Cf → Prop) : Nat → Cf → Prop
  | 0, c => R c
  | m + 1, c => oneK P w0 C (adv P w0 C R m) R c
/-- What is said of what is to be run. -/
def RnE (P : Program) (w0 : B0) (C : Exit → St → Prop) : List It → Exit → St → Prop
  | [], e, s => C e s
  | i :: l, e, s => match i.b with
    | some id => RnE P w0 C l (outE id e) s
    | none => match e with
      | .normal => WC P w0 i.c s (RnE P w0 C l)
      | e => RnE P w0 C l e s
def Rn (P : Program) (w0 : B0) (C : Exit → St → Prop) (c : Cf) : Prop := (∀ i, c.s.n ≤ i → hget c.s.h i = none) →
  ∃ s', EvL (Am w0 c.X) P c.ops c.rest c.s s' ∧ (c.draw = true → (drawOk c.ops && drawn (bef c.ops) c.ops.size s'.l) = true) ∧ RnE P w0 C c.stk .normal ⟨s'.f, s'.h, s'.n, c.X⟩
section
variable {P : Program} {w0 : B0} {C : Exit → St → Prop}
theorem Rl.step {s : St} {k k' : K} {W W' : World} {a a' : Act} {f' : FT} {h' : HT} {n' r w : Nat} (R : Rl w0 s k W a) (ss : Ss s.h s.n h' n' r w) (hd : Sd s.h s.n h' n' r w k W k' W') (hf : FR k' f' a') : Rl w0 ⟨f', h', n', s.X⟩ k' W' a' := by
  refine ⟨hf, ?_, ss.nn R.nn, fun i hi => ?_, Am.stable w0 s.X _ _ _ _ _ _ _ _ _ _ R.am hd⟩
  · have := Sd.next (x := ones n') ss hd R.nn (R.hr.all R.nn _)
    exact this.sub fun i hi => tb_or.2 (Or.inr hi)
  · rw [hd.dom i (Or.inr hi)]; exact R.nk i (Nat.le_trans ss.le hi)
theorem cf_sem {s : St} {l : List It} (nn : ∀ i, s.n ≤ i → hget s.h i = none) (h : Rn P w0 C (cf s l)) : RnE P w0 C l .normal s := by
  obtain ⟨f, hh, n, X⟩ := s
  obtain ⟨s', h1, _, h3⟩ := h nn
  cases h1
  exact h3
theorem exitK_ok {B : Cf → Prop} (hB : ∀ c, B c → Rn P w0 C c) {s : St} (nn : ∀ i, s.n ≤ i → hget s.h i = none) {e : Exit} (he : e ≠ .normal) : ∀ l, exitK B C e s l → RnE P w0 C l e s
  | [], x => x
  | i :: l, x => by
    simp only [exitK] at x
    simp only [RnE]
    split at x
    · rename_i hb
      rw [hb]
      have := exitK_ok hB nn he l x
      cases e with
      | normal => exact absurd rfl he
      | _ => exact this
    · rename_i id hb
      rw [hb]
      split at x
      · rename_i j
        simp only [outE]
        cases hj : Nat.beq j id with
        | true => rw [hj] at x; exact cf_sem nn (hB _ x)
        | false => rw [hj] at x; exact exitK_ok hB nn he l x
      · have := exitK_ok hB nn he l x
        cases e with
        | normal => exact absurd rfl he
        | exit j => rename_i hne; exact absurd rfl (hne j)
        | _ => exact this
theorem outK_ok {R : Cf → Prop} (hR : ∀ c, R c → Rn P w0 C c) {l : List It} {e : Exit} {s : St} (nn : ∀ i, s.n ≤ i → hget s.h i = none) (h : outK R C l e s) : RnE P w0 C l e s := by
  cases e with
  | normal => exact cf_sem nn (hR _ h)
  | _ => exact exitK_ok hR nn (by simp) l h
theorem oneK_ok (hmo : P.follows .mixedOrders = true) {B R : Cf → Prop} (hB : ∀ c, B c → Rn P w0 C c) (hR : ∀ c, R c → Rn P w0 C c) (c : Cf) (e : oneK P w0 C B R c) : Rn P w0 C c := by
  obtain ⟨ops, rest, draw, ⟨f, h, n, r, w, l⟩, X, stk⟩ := c
  intro nn
  cases rest with
  | cons o rest =>
    simp only [oneK, putK_eq] at e
    obtain ⟨b, hb, e⟩ := wantK_ok e
    cases b with
    | true =>
      have key : ∃ x, Oa (Am w0 X) P o f h n x ∧ Rn P w0 C ⟨ops, rest, draw, ⟨put f o.dst x.v, x.h, x.n, Nat.lor r x.r, Nat.lor w x.w, (x.r, x.w) :: l⟩, X, stk⟩ := by
        rcases e with e | e
        · simp only [cond_true] at e
          obtain ⟨x, hx, e⟩ := stepK_ok nn e
          exact ⟨x, hx, e.elim (hB _) (hR _)⟩
        · simp only [cond_true] at e
          obtain ⟨x, hx, e⟩ := stepK_ok nn e
          exact ⟨x, hx, e.elim (hR _) (hR _)⟩
      obtain ⟨x, hx, hs⟩ := key
      obtain ⟨s', h1, h2, h4⟩ := hs (hx.ss.nn nn)
      exact ⟨s', ⟨_, Or.inl ⟨hb, x, hx, rfl⟩, h1⟩, h2, h4⟩
    | false =>
      have key : Rn P w0 C ⟨ops, rest, draw, ⟨put f o.dst undef, h, n, r, w, (0, 0) :: l⟩, X, stk⟩ := by
        rcases e with e | e
        · exact hB _ (by simpa only [cond_false] using e)
        · exact hR _ (by simpa only [cond_false] using e)
      obtain ⟨s', h1, h2, h4⟩ := key nn
      exact ⟨s', ⟨_, Or.inr ⟨hb, rfl⟩, h1⟩, h2, h4⟩
  | nil =>
    have sem0 : ∀ stk, Rn P w0 C ⟨#[], [], false, ⟨f, h, n, 0, 0, []⟩, X, stk⟩ → RnE P w0 C stk .normal ⟨f, h, n, X⟩ := fun stk hs => by
      obtain ⟨s', h1, _, h3⟩ := hs nn
      cases h1
      exact h3
    cases draw with
    | true =>
      obtain ⟨hd, e⟩ : (drawOk ops && drawn (bef ops) ops.size l) = true ∧ R ⟨#[], [], false, ⟨f, h, n, 0, 0, []⟩, X, stk⟩ := e
      exact ⟨_, rfl, fun _ => hd, sem0 _ (hR _ e)⟩
    | false =>
      refine ⟨_, rfl, fun h => (by cases h), ?_⟩
      cases stk with
      | nil => exact e
      | cons i stk =>
        obtain ⟨c, ib⟩ := i
        cases ib with
        | some id => exact sem0 stk (hB _ e)
        | none =>
          show WC P w0 c ⟨f, h, n, X⟩ (RnE P w0 C stk)
          cases c with
          | skip => exact fun Q k W a Rl' hK => wp_skip (hK _ _ _ _ _ Rl' (sem0 _ (hB _ e)))
          | label _ => exact fun Q k W a Rl' hK => wp_label (hK _ _ _ _ _ Rl' (sem0 _ (hB _ e)))
          | ret => exact fun Q k W a Rl' hK => wp_ret (hK _ _ _ _ _ Rl' (exitK_ok hB nn (by simp) _ e))
          | exit _ => exact fun Q k W a Rl' hK => wp_exit (hK _ _ _ _ _ Rl' (exitK_ok hB nn (by simp) _ e))
          | goto _ => exact fun Q k W a Rl' hK => wp_goto (hK _ _ _ _ _ Rl' (exitK_ok hB nn (by simp) _ e))
          | seq x y =>
            have e : B ⟨#[], [], false, ⟨f, h, n, 0, 0, []⟩, X, co x :: co y :: stk⟩ := by
              have e : bif hasL x then B ⟨#[], [], false, ⟨f, h, n, 0, 0, []⟩, X, co x :: co y :: stk⟩ else B ⟨#[], [], false, ⟨f, h, n, 0, 0, []⟩, X, co x :: co y :: stk⟩ := e
              cases hb : hasL x <;> rw [hb] at e <;> exact e
            have hs : WC P w0 x ⟨f, h, n, X⟩ (RnE P w0 C (co y :: stk)) := sem0 _ (hB _ e)
            intro Q k W a Rl' hK
            refine wp_seq (hs _ k W a Rl' fun e' s' k' W' a' R' hC => ?_)
            cases e' with
            | normal => exact (show WC P w0 y s' (RnE P w0 C stk) from hC) Q k' W' a' R' hK
            | _ => exact hK _ s' k' W' a' R' hC
          | cond cc x y =>
            intro Q k W a Rl' hK
            have hc := Rl'.fr.ev cc
            simp only [oneK, cond_false] at e
            split at e
            · rename_i re im hv
              rw [hv] at hc
              have h1 := hc.lit_inv
              cases hb : Nat.beq re 1 with
              | true => rw [hb] at e h1; exact wp_cond_true h1 ((show WC P w0 x _ (RnE P w0 C stk) from sem0 _ (hB _ e)) Q k W a Rl' hK)
              | false => rw [hb] at e h1; exact wp_cond_false h1 ((show WC P w0 y _ (RnE P w0 C stk) from sem0 _ (hB _ e)) Q k W a Rl' hK)
            · rename_i p hv
              rw [hv] at hc
              have h1 := hc.bool_inv
              cases p with
              | true => exact wp_cond_true h1 ((show WC P w0 x _ (RnE P w0 C stk) from sem0 _ (hR _ (e.1 rfl))) Q k W a Rl' hK)
              | false => exact wp_cond_false h1 ((show WC P w0 y _ (RnE P w0 C stk) from sem0 _ (hR _ (e.2 rfl))) Q k W a Rl' hK)
            · exact e.elim
          | block id c =>
            have hs : WC P w0 c ⟨f, h, n, X⟩ (RnE P w0 C (bl id :: stk)) := sem0 _ (hB _ e)
            intro Q k W a Rl' hK
            refine wp_block (hs _ k W a Rl' fun e' s' k' W' a' R' hC => ?_)
            have hC : RnE P w0 C stk (outE id e') s' := hC
            have := hK _ s' k' W' a' R' hC
            cases e' with
            | exit i =>
              show if i = id then Q .normal a' W' else Q (.exit i) a' W'
              by_cases hid : i = id
              · have hb : Nat.beq i id = true := by rw [Nat.beq_eq]; exact hid
                simp only [outE, hb, cond_true] at this
                rw [if_pos hid]; exact this
              · have hb : Nat.beq i id = false := by rw [← Bool.not_eq_true, Nat.beq_eq]; exact hid
                simp only [outE, hb, cond_false] at this
                rw [if_neg hid]; exact this
            | _ => exact this
          | region id ops draw =>
            intro Q k W a Rl' hK
            obtain ⟨s', hs, hd, e⟩ := hB _ (show B ⟨ops, ops.toList, draw, ⟨f, h, n, 0, 0, []⟩, X, stk⟩ from e) nn
            cases draw with
            | false =>
              obtain ⟨r, w, h1, h2, ss, ok⟩ := list_ok (Am.stable w0 X) ops.toList ⟨f, h, n, 0, 0, []⟩ s' nn hs
              exact wp_region_list (ok k W a Q Rl'.am Rl'.fr (Rl'.hr.all Rl'.nn _) (fun i h1 _ => Rl'.nk i h1) fun k' W' a' hd hf => hK _ _ k' W' a' (Rl'.step ss hd hf) e)
            | true =>
              have d0 := hd rfl
              rw [Bool.and_eq_true] at d0
              obtain ⟨ss, ok⟩ := draw_ok (s := ⟨f, h, n, 0, 0, []⟩) (Am.stable w0 X) Am.drew hmo nn rfl rfl rfl hs d0.1 d0.2
              exact ok k W a Q id Rl'.am Rl'.fr (Rl'.hr.all Rl'.nn _) (fun i h1 _ => Rl'.nk i h1) fun k' W' a' hd hf => hK _ _ k' W' a' (Rl'.step ss hd hf) e
          | loop c => exact fun Q k W a Rl' hK => (show WC P w0 (.loop c) ⟨f, h, n, X⟩ (outK R C stk) from e) Q k W a Rl' fun e' s' k' W' a' R' hC => hK e' s' k' W' a' R' (outK_ok hR R'.nn hC)
          | scope c => exact fun Q k W a Rl' hK => (show WC P w0 (.scope c) ⟨f, h, n, X⟩ (outK R C stk) from e) Q k W a Rl' fun e' s' k' W' a' R' hC => hK e' s' k' W' a' R' (outK_ok hR R'.nn hC)
          | rangeFunc a1 a2 a3 a4 => exact fun Q k W a Rl' hK => (show WC P w0 (.rangeFunc a1 a2 a3 a4) ⟨f, h, n, X⟩ (outK R C stk) from e) Q k W a Rl' fun e' s' k' W' a' R' hC => hK e' s' k' W' a' R' (outK_ok hR R'.nn hC)
          | refuse y => exact fun Q k W a Rl' hK => (show WC P w0 (.refuse y) ⟨f, h, n, X⟩ (outK R C stk) from e) Q k W a Rl' fun e' s' k' W' a' R' hC => hK e' s' k' W' a' R' (outK_ok hR R'.nn hC)
theorem adv_ok (hmo : P.follows .mixedOrders = true) : ∀ (m : Nat) (c : Cf), adv P w0 C (Rn P w0 C) m c → Rn P w0 C c
  | 0, _, e => e
  | m + 1, c, e => oneK_ok hmo (adv_ok hmo m) (fun _ h => h) c e
/-- Go on. -/
theorem st (hmo : P.follows .mixedOrders = true) {c : Cf} (h : adv P w0 C (Rn P w0 C) 400 c) : Rn P w0 C c := adv_ok hmo 400 c h
/-- Code from its start. -/
theorem run_ok {c : Code} {s : St} (h : Rn P w0 C (cf s [co c])) : WC P w0 c s C := fun Q k W a R hK => by
  have h1 : WC P w0 c s (RnE P w0 C []) := cf_sem R.nn h
  exact h1 Q k W a R fun e s' k' W' a' R' hC => hK e s' k' W' a' R' hC
end
end S
end Go.Proofs.YtfmfeipeeedfpaaGreat
namespace Go.Proofs.YtfmfeipeeedfpaaGreat
namespace S
open Go.CheckFast (force force_eq)
open Go.RowKit (Below)
section
variable {P : Program} {w0 : B0}
/-! Results. -/
def resK (P : Program) (f : FT) (h : HT) : List ResultVar → (List Value → Prop) → Prop
  | [], C => C []
  | .tmp t :: l, C => resK P f h l fun vs => C (fget f t :: vs)
  | .cell a t :: l, C => match oLoad P t (.tmp a) f h 0 with
    | some z => resK P f h l fun vs => C (z.v :: vs)
    | none => False
def retK (P : Program) (w0 : B0) (fn : Func) (R : Ending → World → Prop) (e : Exit) (s : St) : Prop := match e with
  | .normal => resK P s.f s.h fn.results.toList fun vs => ∀ k W u, HR k s.h W (ones s.n) → Am w0 s.X k W → VX k (single vs) u → R (.returned u) W
  | .ret => resK P s.f s.h fn.results.toList fun vs => ∀ k W u, HR k s.h W (ones s.n) → Am w0 s.X k W → VX k (single vs) u → R (.returned u) W
  | _ => False
def resF (tmps : Array Value) (x : ResultVar) : Sem Value := match x with
  | .tmp t => pure (tmps.getD t undef)
  | .cell b t => do loadVar t (← asAddr (tmps.getD b undef))
theorem res_ok {k : K} {f : FT} {a : Act} {h : HT} {W : World} (hf : FR k f a) (H : ∀ m, HR k h W m) : ∀ (l : List ResultVar) (C : List Value → Prop), resK P f h l C → ∃ vs us, C vs ∧ LR (VX k) vs us ∧ (l.mapM (resF a.tmps)).run P W = .ok us W
  | [], C, e => ⟨[], [], e, rfl, rfl⟩
  | .tmp t :: l, C, e => by
    obtain ⟨vs, us, h1, h2, h3⟩ := res_ok hf H l _ e
    exact ⟨_, _, h1, ⟨_, us, rfl, hf.get t, h2⟩, by rw [List.mapM_cons]; simp only [resF, Sem.run_bind, Sem.run_pure, Result.andThen_ok, h3]⟩
  | .cell b t :: l, C, e => by
    simp only [resK] at e
    split at e
    · rename_i z h4
      obtain ⟨vs, us, h1, h2, h3⟩ := res_ok hf H l _ e
      obtain ⟨p, q, hv, h5⟩ := onP_some h4
      obtain ⟨_, _, _, _, h6⟩ := ld_ok h5
      have h7 := hf.get b
      have hv' : fget f b = .pointer (some ⟨p, q, none⟩) := hv
      rw [hv'] at h7
      obtain ⟨_, b', zz, hk, h8⟩ := h7.ptr_inv
      obtain ⟨u, h9, h10⟩ := h6 k W b' zz (H _) hk
      refine ⟨_, u :: us, h1, ⟨u, us, rfl, h9, h2⟩, ?_⟩
      rw [List.mapM_cons]
      simp only [resF, Sem.run_bind, Sem.run_pure, Result.andThen_ok, h8, asAddr, h10, h3]
    · exact e.elim
theorem results_run {k : K} {f : FT} {a : Act} {h : HT} {W : World} {fn : Func} (hf : FR k f a) (H : ∀ m, HR k h W m) {C : List Value → Prop} (e : resK P f h fn.results.toList C) : ∃ vs u, C vs ∧ VX k (single vs) u ∧ (results fn a.tmps).run P W = .ok u W := by
  obtain ⟨vs, us, h0, h1, h2⟩ := res_ok (P := P) hf H _ _ e
  refine ⟨vs, if us.length = 1 then us.headD undef else .tuple us.toArray, h0, ?_, ?_⟩
  · cases vs with
    | nil => rw [h1]; exact VX.tuple (cs := []) (us := []) rfl
    | cons v vs =>
      obtain ⟨u, us', rfl, r1, r2⟩ := h1
      cases vs with
      | nil => rw [r2]; exact r1
      | cons v' vs' =>
        have hl := r2.len
        rw [if_neg (by intro h0; simp only [List.length_cons] at h0 hl; omega)]
        exact VX.tuple ⟨u, us', rfl, r1, r2⟩
  · have e1 : results fn a.tmps = (do
        let vs ← fn.results.mapM (resF a.tmps)
        pure (if h : vs.size = 1 then vs[0] else .tuple vs)) := rfl
    rw [e1, Array.mapM_eq_mapM_toList]
    simp only [map_eq_pure_bind, Sem.run_bind, h2, Result.andThen_ok, Sem.run_pure]
    congr 1
    by_cases hl : us.length = 1
    · rw [if_pos hl, dif_pos (by simpa using hl)]
      cases us with
      | nil => cases hl
      | cons u us => simp
    · rw [if_neg hl, dif_neg (by simpa using hl)]
/-! Entering a function. -/
def argl : Nat → List Value → List (Nat × Value)
  | _, [] => []
  | i, v :: r => (i, v) :: argl (i + 1) r
theorem look_argl : ∀ (vs : List Value) (i t : Nat), look (argl i vs) t = if i ≤ t then (vs[t - i]?).getD unk else unk
  | [], i, t => by simp [argl, look]
  | v :: r, i, t => by
    have ih := look_argl r (i + 1) t
    by_cases e : i = t
    · subst e; simp [argl, look]
    · have hb := beq_f e
      simp only [argl, look, hb, cond_false, ih]
      by_cases h : i + 1 ≤ t
      · rw [if_pos h, if_pos (by omega), show t - i = (t - (i + 1)) + 1 by omega, List.getElem?_cons_succ]
      · rw [if_neg h, if_neg (by omega)]
theorem args_fr {k : K} {vs us : List Value} {m : Nat} (h : LR (VX k) vs us) (hl : vs.length ≤ m) : FR k ⟨m, argl 0 vs⟩ { tmps := us.toArray ++ Array.replicate (m - us.toArray.size) undef, defers := [] } := by
  have hlen := h.len
  refine ⟨by simp; omega, fun t => ?_, rfl⟩
  show VX k (look (argl 0 vs) t) _
  rw [look_argl, if_pos (Nat.zero_le _), Nat.sub_zero]
  have : (us.toArray ++ Array.replicate (m - us.toArray.size) undef).getD t undef = (us[t]?).getD undef := by
    rw [Array.getD_eq_getD_getElem?]
    by_cases ht : t < us.length
    · rw [Array.getElem?_append_left (by simpa using ht)]; simp
    · rw [Array.getElem?_append_right (by simpa using ht)]
      rw [List.getElem?_eq_none (by omega)]
      by_cases h2 : t - us.toArray.size < m - us.toArray.size
      · rw [Array.getElem?_replicate, if_pos h2]; rfl
      · rw [Array.getElem?_replicate, if_neg h2]
  rw [this]
  cases hv : vs[t]? with
  | none => exact unk_vx
  | some v => obtain ⟨u, h1, h2⟩ := h.get hv; rw [h1]; exact h2
/-- A result that names no block of one's own. -/
theorem ret_pure {v : Value} {R : Ending → World → Prop} {h : HT} {n : Nat} {X : World} (hp : pur v = true) (hR : ∀ W, Below w0.w.heap.size w0.w W → R (.returned (den v)) W) : ∀ k W u, HR k h W (ones n) → Am w0 X k W → VX k v u → R (.returned u) W :=
  fun k W u _ hA hv => by rw [pur_eq hv hp]; exact hR W hA.old
end
end S
end Go.Proofs.YtfmfeipeeedfpaaGreat
namespace Go.Proofs.YtfmfeipeeedfpaaGreat
namespace S
open Go.CheckFast (force force_eq)
open Go.RowKit (Below)
/-- Below the old size all is as it was. -/
structure Mb (w w' : World) : Prop extends Below w.heap.size w w' where
  dr : w.drawn ≤ w'.drawn
/-- An order is of no matter. -/
theorem dk {b : Bool} (h : b = true := by kernel_rfl) : b = true := h
section
variable {P : Program} {w0 : B0}
/-- Nothing keeps its number. -/
abbrev bz (w : World) : B0 := ⟨w, 0, fun _ => (0, 0)⟩
/-- A result is what it must be. -/
def leafP (v u : Value) : Prop := match v with
  | .complex _ re _ => bif Nat.beq re 1 then u = .bool true else u = .bool false
  | .int k a => u = .int k a
  | .string s => u = .string s
  | .bool b => u = .bool b
  | .iface _ x => u = x
  | .agg cs => bif cs.toList.all pur1 then u = .agg (cs.toList.map den1).toArray else False
  | .tuple cs => bif cs.toList.all pur2 then u = .tuple (cs.toList.map den2).toArray else False
  | v => bif pur1 v then u = v else False
theorem leafP_ok {k : K} {v u x : Value} (h : leafP v x) (hv : VX k v u) : u = x := by
  cases v with
  | complex a re c =>
    rw [hv.lit_inv]
    simp only [leafP] at h
    cases hb : Nat.beq re 1 <;> rw [hb] at h <;> exact h.symm
  | int a b => rw [hv.int_inv]; exact h.symm
  | string s => rw [hv.str_inv]; exact h.symm
  | bool b => rw [hv.bool_inv]; exact h.symm
  | iface t y => rw [hv.raw_inv]; exact h.symm
  | agg cs =>
    simp only [leafP] at h
    cases hp : cs.toList.all pur1 with
    | false => rw [hp] at h; exact h.elim
    | true => rw [hp] at h; rw [pur2_eq hv hp]; exact h.symm
  | tuple cs =>
    simp only [leafP] at h
    cases hp : cs.toList.all pur2 with
    | false => rw [hp] at h; exact h.elim
    | true => rw [hp] at h; rw [pur_eq hv hp]; exact h.symm
  | float a b => exact absurd h (by simp [leafP, pur1])
  | chan a => exact absurd h (by simp [leafP, pur1])
  | func a b c => exact absurd h (by simp [leafP, pur1])
  | pointer a =>
    cases a with
    | none => rw [pur1_eq hv rfl]; exact h.symm
    | some a => exact absurd h (by simp [leafP, pur1])
  | slice a b c =>
    cases a with
    | none => rw [pur1_eq hv rfl]; exact h.symm
    | some a => exact absurd h (by simp [leafP, pur1])
  | map a =>
    cases a with
    | none => rw [pur1_eq hv rfl]; exact h.symm
    | some a => exact absurd h (by simp [leafP, pur1])
  | nilFunc => rw [pur1_eq hv rfl]; exact h.symm
  | nilIface => rw [pur1_eq hv rfl]; exact h.symm
def retV (P : Program) (fn : Func) (v : Value) (e : Exit) (s : St) : Prop := match e with
  | .normal => resK P s.f s.h fn.results.toList fun vs => leafP (single vs) v
  | .ret => resK P s.f s.h fn.results.toList fun vs => leafP (single vs) v
  | _ => False
theorem resK_mono {f : FT} {h : HT} : ∀ (l : List ResultVar) {C D : List Value → Prop}, (∀ vs, C vs → D vs) → resK P f h l C → resK P f h l D
  | [], _, _, hCD, e => hCD _ e
  | .tmp t :: l, C, D, hCD, e => resK_mono l (fun vs hv => hCD _ hv) e
  | .cell a t :: l, C, D, hCD, e => by
    simp only [resK] at e ⊢
    split at e
    · exact resK_mono l (fun vs hv => hCD _ hv) e
    · exact e.elim
/-- A function that makes a value of values. -/
theorem fn_pure {w0 : World} {f : FuncId} {fn : Func} {c : Code} {v : Value} (vs : List Value) (hf : P.funcs[f]? = some fn) (hb : fn.body = some c) (hp : vs.all pur2 = true) (hm : Nat.ble vs.length fn.ntmps = true)
    (h : WC P (bz w0) c ⟨⟨fn.ntmps, argl 0 vs⟩, [], 0, w0⟩ (retV P fn v)) : Calls P f (vs.map den2).toArray w0 fun e W => e = .returned v ∧ Mb w0 W := by
  refine calls_of_wp hf hb ?_
  have hv : LR (VX fun _ => none) vs (vs.map den2) := LR.mk (p := pur2) (d := den2) (fun _ h => pur2_vx h) hp
  have R0 : Rl (bz w0) ⟨⟨fn.ntmps, argl 0 vs⟩, [], 0, w0⟩ (fun _ => none) w0 { tmps := (vs.map den2).toArray ++ Array.replicate (fn.ntmps - (vs.map den2).toArray.size) undef, defers := [] } :=
    ⟨args_fr hv (Nat.le_of_ble_eq_true hm), ⟨fun i hi => absurd (tb_ones.1 hi) (by simp), fun i j hi => absurd (tb_ones.1 hi) (by simp)⟩, fun i _ => by unfold hget; cases Nat.blt i 4096 <;> rfl, fun _ _ => rfl, ⟨Below.refl _ _, fun i b z h => (by cases h), fun b o h _ => h, fun i b z h => (by cases h), Nat.le_refl _, fun i hi => absurd hi (Nat.not_lt_zero i), Nat.le_refl _⟩⟩
  refine h _ _ _ _ R0 fun e s k W a Rs hC => ?_
  have key : resK P s.f s.h fn.results.toList (fun vs => leafP (single vs) v) → ∃ u, (results fn a.tmps).run P W = .ok u W ∧ (Ending.returned u = .returned v ∧ Mb w0 W) := fun hC => by
    obtain ⟨vs, u, h1, h2, h3⟩ := results_run Rs.fr (fun m => Rs.hr.all Rs.nn m) hC
    exact ⟨u, h3, by rw [leafP_ok h1 h2], Rs.am.old, Rs.am.dr⟩
  cases e with
  | normal => obtain ⟨u, h1, h2⟩ := key hC; exact ⟨Rs.fr.df, u, h1, h2⟩
  | ret => obtain ⟨u, h1, h2⟩ := key hC; exact ⟨Rs.fr.df, u, h1, h2⟩
  | _ => exact hC.elim
/-! Calls. -/
def callB (fn : Func) : Bool := fn.body.isSome && !(fn.name == "runtime.NumGoroutine")
theorem enter_ok {f : FuncId} {fn : Func} (hf : P.funcs[f]? = some fn) (hb : callB fn = true) (args : Array Value) (w : World) : (callFunc f args).run P w = .ok (.enter f args) w := by
  unfold callB at hb
  simp only [Bool.and_eq_true, Bool.not_eq_true'] at hb
  have h1 : fn.body.isNone = false := by cases h : fn.body <;> simp_all
  simp only [callFunc, Sem.run_bind, program, Sem.run, Result.andThen_ok, hf]
  rw [if_neg (by rw [hb.2]; simp), h1]
  simp
variable {X : World} {o : Oper} {fr : FT} {h : HT} {n : Nat}
/-- A call of values that comes to a value. -/
theorem r_call {t : Value} {f : FuncId} {fn : Func} {v : Value} {us : List Value} {cal : Callee} {xs : Array Operand} {ts : Array TypeId} (ho : o.op = .call { callee := cal, args := xs, argTypes := ts }) (hcal : cal = .value (.func f)) (hf : P.funcs[f]? = some fn)
    (hc : ∀ W, Mb w0.w W → (∀ a u, X.cell? a = some u → W.cell? a = some u) → Calls P f us.toArray W fun e W' => e = .returned v ∧ Mb W W')
    (hu : (evl fr xs.toList).map den2 = us := by rfl) (hv : den t = v := by rfl) (hb : callB fn = true := by rfl) (hp : (evl fr xs.toList).all pur2 = true := by rfl) (ht : pur t = true := by rfl) : Oa (Am w0 X) P o fr h n ⟨t, h, n, 0, 0⟩ := by
  subst hcal hu
  refine ⟨Ss.refl h n, fun k W a K' Q hA hop H hnew hk => ?_⟩
  have h8 := evl_rel (fr := fr) (k := k) (a := a) xs.toList (fun y hy => hop y (by rw [ho]; simp [Op.operands, Call.operands]; right; simpa using hy))
  have h9 := LR.map (p := pur2) (d := den2) (fun _ _ h => pur2_eq h) h8 hp
  have hrun : (execOp a.eval o).run P W = .ok (.enter f (xs.toList.map a.eval).toArray) W := by
    have : a.eval (.func f) = .func (.func f) #[] #[] := rfl
    simp only [execOp, ho, resolve, this, Deferred.ofValue, invoke, Sem.run_bind, Sem.run_pure, Result.andThen_ok, enter_ok hf hb]
    congr 2
    apply Array.ext'
    simp
  unfold Oper.wp
  rw [hrun, Oper.upon_enter, h9]
  refine (hc W ⟨hA.old, hA.dr⟩ (fun a u => hA.cell)).mono ?_
  rintro e W' ⟨rfl, hm⟩
  refine hk v W' k ⟨fun _ _ h => h, fun _ _ => rfl, HR.none.sub (fun i hi => (tb_or.1 hi).elim id id), fun b hb _ => hm.block b hb, fun _ _ _ h1 h2 => absurd h2 (by show ¬ _ < n; omega), fun _ _ h => h, hm.size, hm.os, ⟨hm.tape, hm.dr⟩, hm.output⟩ ?_
  rw [← hv]; exact pur_vx ht
/-! Slices of one's own as results. -/
/-- A new slice: so many elements of so many cells, these cells. -/
def NewSl (w W : World) (u : Value) (len es : Nat) (cells : List Value) : Prop := ∃ (b cap : Nat) (sp : List Value) (ty : TypeId), u = .slice (some ⟨b, 0, none⟩) len cap ∧ w.heap.size ≤ b ∧ W.heap[b]? = some (.cells (cells ++ sp).toArray ty (0, 0)) ∧ len ≤ cap ∧ cap * es ≤ cells.length + sp.length
def leafN (h : HT) (v : Value) (len es : Nat) (cells : List Value) : Prop := match v with
  | .slice (some ⟨i, 0, none⟩) len' es' => match hget h i with
    | some cs => len' = len ∧ es' = es ∧ cs.all pur1 = true ∧ cs.map den1 = cells
    | none => False
  | _ => False
def retN (P : Program) (fn : Func) (len es : Nat) (cells : List Value) (e : Exit) (s : St) : Prop := match e with
  | .normal => resK P s.f s.h fn.results.toList fun vs => leafN s.h (single vs) len es cells
  | .ret => resK P s.f s.h fn.results.toList fun vs => leafN s.h (single vs) len es cells
  | _ => False
theorem fn_new {w0 : World} {f : FuncId} {fn : Func} {c : Code} {len es : Nat} {cells : List Value} (vs : List Value) (hf : P.funcs[f]? = some fn) (hb : fn.body = some c) (hp : vs.all pur2 = true) (hm : Nat.ble vs.length fn.ntmps = true)
    (h : WC P (bz w0) c ⟨⟨fn.ntmps, argl 0 vs⟩, [], 0, w0⟩ (retN P fn len es cells)) : Calls P f (vs.map den2).toArray w0 fun e W => ∃ u, e = .returned u ∧ NewSl w0 W u len es cells ∧ Mb w0 W := by
  refine calls_of_wp hf hb ?_
  have hv : LR (VX fun _ => none) vs (vs.map den2) := LR.mk (p := pur2) (d := den2) (fun _ h => pur2_vx h) hp
  have R0 : Rl (bz w0) ⟨⟨fn.ntmps, argl 0 vs⟩, [], 0, w0⟩ (fun _ => none) w0 { tmps := (vs.map den2).toArray ++ Array.replicate (fn.ntmps - (vs.map den2).toArray.size) undef, defers := [] } :=
    ⟨args_fr hv (Nat.le_of_ble_eq_true hm), ⟨fun i hi => absurd (tb_ones.1 hi) (by simp), fun i j hi => absurd (tb_ones.1 hi) (by simp)⟩, fun i _ => by unfold hget; cases Nat.blt i 4096 <;> rfl, fun _ _ => rfl, ⟨Below.refl _ _, fun i b z h => (by cases h), fun b o h _ => h, fun i b z h => (by cases h), Nat.le_refl _, fun i hi => absurd hi (Nat.not_lt_zero i), Nat.le_refl _⟩⟩
  refine h _ _ _ _ R0 fun e s k W a Rs hC => ?_
  have key : resK P s.f s.h fn.results.toList (fun vs => leafN s.h (single vs) len es cells) → ∃ u, (results fn a.tmps).run P W = .ok u W ∧ (∃ u', Ending.returned u = .returned u' ∧ NewSl w0 W u' len es cells ∧ Mb w0 W) := fun hC => by
    obtain ⟨vs, u, h1, h2, h3⟩ := results_run Rs.fr (fun m => Rs.hr.all Rs.nn m) hC
    refine ⟨u, h3, u, rfl, ?_, Rs.am.old, Rs.am.dr⟩
    unfold leafN at h1
    split at h1
    · rename_i i len' es' hs
      rw [hs] at h2
      split at h1
      · rename_i cs hcs
        obtain ⟨rfl, rfl, h4, h5⟩ := h1
        obtain ⟨_, b, z, cap, hk, hu, hl, hz⟩ := h2.slc_inv
        obtain ⟨b2, us, sp, ty, e1, e2, e3⟩ := ((Rs.hr.all Rs.nn (bit i)).rep i (tb_bit.2 rfl) cs hcs).cel hk
        have hk' : k i = some (b, z + 1) := hk
        rw [hk'] at e1; cases e1
        have h6 := LR.map (p := pur1) (d := den1) (fun _ _ h => pur1_eq h) e3 h4
        rw [h5] at h6
        subst h6
        exact ⟨b, cap, sp, ty, hu, Rs.am.own i b _ hk', e2, hl, by have : 0 + cap * es' ≤ us.length + sp.length := hz; omega⟩
      · exact h1.elim
    · exact h1.elim
  cases e with
  | normal => obtain ⟨u, h1, h2⟩ := key hC; exact ⟨Rs.fr.df, u, h1, h2⟩
  | ret => obtain ⟨u, h1, h2⟩ := key hC; exact ⟨Rs.fr.df, u, h1, h2⟩
  | _ => exact hC.elim
/-- A call of values that makes a new slice. -/
theorem r_callN {f : FuncId} {fn : Func} {us : List Value} {len es : Nat} {cells : List Value} {cal : Callee} {xs : Array Operand} {ts : Array TypeId} (nn : ∀ i, n ≤ i → hget h i = none) (ho : o.op = .call { callee := cal, args := xs, argTypes := ts }) (hcal : cal = .value (.func f)) (hf : P.funcs[f]? = some fn)
    (hc : ∀ W, Mb w0.w W → (∀ a u, X.cell? a = some u → W.cell? a = some u) → Calls P f us.toArray W fun e W' => ∃ u, e = .returned u ∧ NewSl W W' u len es cells ∧ Mb W W')
    (hn : Nat.blt n 4096 = true := by rfl) (hu : (evl fr xs.toList).map den2 = us := by rfl) (hb : callB fn = true := by rfl) (hp : (evl fr xs.toList).all pur2 = true := by rfl) : Oa (Am w0 X) P o fr h n ⟨.slice (some ⟨n, 0, none⟩) len es, msk (hs12 h n (some (cells.map rel1))) n, n + 1, 0, bit n⟩ := by
  subst hcal hu
  rw [Nat.blt_eq] at hn
  refine Oa.mask n ?_
  have hcs : hget (hs12 h n (some (cells.map rel1))) n = some (cells.map rel1) := hget_same _ hn
  have hd : ∀ i, i ≠ n → hget (hs12 h n (some (cells.map rel1))) i = hget h i ∨ (tb (bit n) i ∧ hget (hs12 h n (some (cells.map rel1))) i = none) := fun i hi => Or.inl (hget_ne _ hn (Ne.symm hi))
  have hw : ∀ i, tb (bit n) i → i = n ∨ (tb 0 i ∧ i < n) := fun i hi => Or.inl (tb_bit.1 hi).symm
  refine ⟨Ss.new (tb_bit.2 rfl) hd hw, fun k W a K' Q hA hop H hnew hk => ?_⟩
  have hkn : k n = none := hnew n (Nat.le_refl _) (Nat.lt_succ_self _)
  have h8 := evl_rel (fr := fr) (k := k) (a := a) xs.toList (fun y hy => hop y (by rw [ho]; simp [Op.operands, Call.operands]; right; simpa using hy))
  have h9 := LR.map (p := pur2) (d := den2) (fun _ _ h => pur2_eq h) h8 hp
  have hrun : (execOp a.eval o).run P W = .ok (.enter f (xs.toList.map a.eval).toArray) W := by
    have : a.eval (.func f) = .func (.func f) #[] #[] := rfl
    simp only [execOp, ho, resolve, this, Deferred.ofValue, invoke, Sem.run_bind, Sem.run_pure, Result.andThen_ok, enter_ok hf hb]
    congr 2
    apply Array.ext'
    simp
  unfold Oper.wp
  rw [hrun, Oper.upon_enter, h9]
  refine (hc W ⟨hA.old, hA.dr⟩ (fun a u => hA.cell)).mono ?_
  rintro e W' ⟨u, rfl, ⟨b, cap, sp, ty, rfl, hb1, hb2, hb3, hb4⟩, hm⟩
  have d := Sd.new (h := h) (h' := hs12 h n (some (cells.map rel1))) (n := n) (r := 0) (w := bit n) (k := k) (W := W) (W' := W') (B := b) (us := cells) (sp := sp) (ty := ty) nn hcs hd hw hkn H (Or.inl hb1) hb2 (rels_vx cells) (fun b' _ hlt => hm.block b' hlt) hm.size hm.os ⟨hm.tape, hm.dr⟩ hm.output
  exact hk _ W' _ d (VX.of0 ⟨trivial, b, _, cap, if_pos rfl, rfl, hb3, by show 0 + cap * es ≤ _; omega⟩)
/-! Loops. -/
/-- A value seen as another, own blocks under other numbers. -/
def ren (σ : List Nat) (k : K) : K := fun j => (σ[j]?).bind k
def fitV (σ : List Nat) (u v : Value) : Prop := ∀ k w, VX k u w → VX (ren σ k) v w
def fitF (σ : List Nat) (f : FT) : List (Nat × Value) → Prop
  | [] => True
  | x :: l => fitV σ (fget f x.1) x.2 ∧ fitF σ f l
def fitL (σ : List Nat) : List Value → List Value → Prop
  | [], l => l = []
  | u :: us, l => ∃ v vs, l = v :: vs ∧ fitV σ u v ∧ fitL σ us vs
def fitH (σ : List Nat) (h : HT) : HT → Prop
  | [] => True
  | x :: l => (match x.2 with
    | some cs => match σ[x.1]? with
      | some i => match hget h i with
        | some us => fitL σ us cs
        | none => False
      | none => False
    | none => True) ∧ fitH σ h l
def apartL : List Nat → Bool
  | [] => true
  | i :: l => bif l.any (Nat.beq i) then false else apartL l
/-- What can be seen of one world can be seen of another. -/
def Xf (s t : World) : Prop := t.heap.size ≤ s.heap.size ∧ ∀ (b : Nat) (o : Obj), t.heap[b]? = some o → o ≠ hole t → s.heap[b]? = some o ∧ o ≠ hole s
theorem xf {X : World} : Xf X X := ⟨Nat.le_refl _, fun _ _ h g => ⟨h, g⟩⟩
/-- The first ones keep their numbers. -/
def pfx (m : Nat) (σ : List Nat) : Bool := match m with
  | 0 => true
  | m + 1 => (match σ[m]? with
    | some i => Nat.beq i m
    | none => false) && pfx m σ
theorem pfx_at : ∀ {m : Nat} {σ : List Nat}, pfx m σ = true → ∀ i, i < m → σ[i]? = some i
  | 0, _, _, i, hi => absurd hi (Nat.not_lt_zero i)
  | m + 1, σ, h, i, hi => by
    simp only [pfx, Bool.and_eq_true] at h
    obtain ⟨h1, h2⟩ := h
    by_cases e : i = m
    · subst e
      split at h1
      · rename_i j hj; rw [hj, Nat.eq_of_beq_eq_true h1]
      · cases h1
    · exact pfx_at h2 i (by omega)
structure Fit (m0 : Nat) (s t : St) (σ : List Nat) : Prop where
  m : t.f.m = s.f.m
  f : fitF σ s.f t.f.l
  h : fitH σ s.h t.h
  X : Xf s.X t.X
  n : σ.length = t.n
  a : (apartL σ && pfx m0 σ) = true
theorem apartL_spec : ∀ {l : List Nat}, apartL l = true → ∀ (i j a : Nat), l[i]? = some a → l[j]? = some a → i = j
  | [], _, i, j, a, h, _ => by cases h
  | x :: l, hl, i, j, a, h1, h2 => by
    simp only [apartL] at hl
    obtain ⟨e1, e2⟩ : l.any (Nat.beq x) = false ∧ apartL l = true := by cases hx : l.any (Nat.beq x) <;> rw [hx] at hl <;> first | exact ⟨rfl, hl⟩ | cases hl
    have no : ∀ b, b ∈ l → x ≠ b := fun b hb e => by
      have := List.any_eq_false.1 e1 b hb
      exact this (by rw [Nat.beq_eq]; exact e)
    cases i with
    | zero =>
      simp at h1; subst h1
      cases j with
      | zero => rfl
      | succ j => exact absurd rfl (no _ (List.mem_of_getElem? (by simpa using h2)))
    | succ i =>
      cases j with
      | zero => simp at h2; subst h2; exact absurd rfl (no _ (List.mem_of_getElem? (by simpa using h1)))
      | succ j => have := apartL_spec e2 i j a (by simpa using h1) (by simpa using h2); omega
theorem ren_some {σ : List Nat} {j : Nat} {k : K} {p : Nat × Nat} (h : ren σ k j = some p) : ∃ i, σ[j]? = some i ∧ k i = some p := by
  unfold ren at h
  cases hi : σ[j]? with
  | none => rw [hi] at h; cases h
  | some i => rw [hi] at h; exact ⟨i, rfl, h⟩
theorem ren_at {σ : List Nat} {j i : Nat} {k : K} (h : σ[j]? = some i) : ren σ k j = k i := by unfold ren; rw [h]; rfl
theorem fitF_get {σ : List Nat} {f : FT} {k : K} {a : Act} (hf : ∀ t, VX k (fget f t) (a.tmps.getD t undef)) : ∀ (l : List (Nat × Value)), fitF σ f l → ∀ t, VX (ren σ k) (look l t) (a.tmps.getD t undef)
  | [], _, _ => unk_vx
  | x :: l, h, t => by
    simp only [look]
    by_cases e : x.1 = t
    · rw [show Nat.beq x.1 t = true by rw [Nat.beq_eq]; exact e]; subst e; exact h.1 k _ (hf x.1)
    · rw [beq_f e]; exact fitF_get hf l h.2 t
theorem fitL_rel {σ : List Nat} {k : K} : ∀ {us cs ws : List Value}, fitL σ us cs → LR (VX k) us ws → LR (VX (ren σ k)) cs ws
  | [], _, _, e, r => by rw [e]; exact r
  | u :: us, _, _, ⟨v, vs, e, h1, h2⟩, ⟨w, ws, e', r, q⟩ => by rw [e]; exact ⟨w, ws, e', h1 k w r, fitL_rel h2 q⟩
theorem fitH_get {σ : List Nat} {h : HT} : ∀ {l : HT}, fitH σ h l → ∀ {j : Nat} {cs : List Value}, hget l j = some cs → ∃ i us, σ[j]? = some i ∧ hget h i = some us ∧ fitL σ us cs
  | [], _, i, cs, e => by unfold hget at e; cases hb : Nat.blt i 4096 <;> rw [hb] at e <;> cases e
  | x :: l, hh, j, cs, e => by
    have hi := hget_lt e
    unfold hget at e
    rw [blt_t hi] at e
    simp only [cond_true, hlook] at e
    by_cases hx : x.1 = j
    · rw [show Nat.beq x.1 j = true by rw [Nat.beq_eq]; exact hx] at e
      simp only [cond_true] at e
      have h1 := hh.1
      rw [e, hx] at h1
      simp only at h1
      split at h1
      · rename_i i hi'
        split at h1
        · rename_i us hus; exact ⟨i, us, hi', hus, h1⟩
        · exact h1.elim
      · exact h1.elim
    · rw [beq_f hx] at e
      refine fitH_get hh.2 ?_
      unfold hget; rw [blt_t hi]; exact e
theorem Fit.rl {s t : St} {σ : List Nat} {k : K} {W : World} {a : Act} (F : Fit w0.m s t σ) (R : Rl w0 s k W a) : Rl w0 t (ren σ k) W a := by
  have rep : ∀ j, Rp (ren σ k) t.h W j := fun j cs hcs => by
    obtain ⟨i, us, h0, h1, h2⟩ := fitH_get F.h hcs
    exact ((R.hr.all R.nn (bit i)).rep i (tb_bit.2 rfl) us h1).mono (fun p hp => by rw [ren_at h0]; exact hp) (fun _ _ _ _ => rfl) (fun ws => fitL_rel h2)
  refine ⟨⟨F.m.trans R.fr.m, fun d => fitF_get R.fr.get _ F.f d, R.fr.df⟩, ⟨fun i _ => rep i, fun i j _ _ li lj hij b z b' z' ki kj => ?_⟩, fun j hj => ?_, fun j hj => ?_, ⟨R.am.old, fun i b z hk => ?_, fun b o h1 h2 => R.am.see b o (F.X.2 b o h1 h2).1 (F.X.2 b o h1 h2).2, fun i b z hk o ho => ?_, Nat.le_trans F.X.1 R.am.sz, fun i hi => by rw [ren_at (pfx_at (Bool.and_eq_true _ _ ▸ F.a).2 i hi)]; exact R.am.kp i hi, R.am.dr⟩⟩
  · obtain ⟨cs, hcs⟩ := li
    obtain ⟨cs', hcs'⟩ := lj
    obtain ⟨i0, us, h0, h1, _⟩ := fitH_get F.h hcs
    obtain ⟨j0, us', h0', h1', _⟩ := fitH_get F.h hcs'
    rw [ren_at h0] at ki
    rw [ren_at h0'] at kj
    have H := R.hr.all R.nn (Nat.lor (bit i0) (bit j0))
    exact H.inj i0 j0 (tb_or.2 (Or.inl (tb_bit.2 rfl))) (tb_or.2 (Or.inr (tb_bit.2 rfl))) ⟨us, h1⟩ ⟨us', h1'⟩ (fun e => hij (apartL_spec (Bool.and_eq_true _ _ ▸ F.a).1 i j i0 h0 (by rw [e]; exact h0'))) b z b' z' ki kj
  · cases e : hget t.h j with
    | none => rfl
    | some cs =>
      obtain ⟨i, _, h0, _⟩ := fitH_get F.h e
      have := (List.getElem?_eq_some_iff.1 h0).1
      have := F.n
      omega
  · unfold ren; rw [List.getElem?_eq_none (by rw [F.n]; exact hj)]; rfl
  · obtain ⟨i0, _, h2⟩ := ren_some hk; exact R.am.own i0 b z h2
  · obtain ⟨i0, _, h2⟩ := ren_some hk
    exact Classical.byContradiction fun hne => (F.X.2 b o ho hne).2 (R.am.out i0 b z h2 o (F.X.2 b o ho hne).1)
theorem fv {σ : List Nat} {u v : Value} (h : u = v := by rfl) (hp : pur2 v = true := by rfl) : fitV σ u v := fun k w hw => by
  subst h
  rw [pur2_eq hw hp]; exact pur2_vx hp
theorem fe {σ : List Nat} {k : IntKind} {a b : Int} (h : a = b := by omega) : fitV σ (.int k a) (.int k b) := fv (by rw [h])
theorem fl {σ : List Nat} {us cs : List Value} (h : us = cs) (hp : cs.all pur1 = true) : fitL σ us cs := by
  subst h
  induction us with
  | nil => rfl
  | cons u us ih =>
    simp only [List.all_cons, Bool.and_eq_true] at hp
    exact ⟨u, us, rfl, fun k w hw => by rw [pur1_eq hw hp.1]; exact pur1_vx hp.1, ih hp.2⟩
theorem flr {σ : List Nat} {us : List Value} {cs : List Value} (h : us = cs.map rel1) : fitL σ us (cs.map rel1) := fl h (by simp [pur_rel1])
/-- An own slice. -/
theorem fs {σ : List Nat} {i j q len es : Nat} (h : σ[j]? = some i := by rfl) : fitV σ (.slice (some ⟨i, q, none⟩) len es) (.slice (some ⟨j, q, none⟩) len es) := fun k w hw => by
  obtain ⟨h1, b, z, c, h2, h3⟩ := hw.slc_inv
  exact VX.of0 ⟨h1, b, z, c, by show ren σ k j = _; rw [ren_at h]; exact h2, h3⟩
/-- An own address. -/
theorem fp {σ : List Nat} {i j q : Nat} (h : σ[j]? = some i := by rfl) : fitV σ (.pointer (some ⟨i, q, none⟩)) (.pointer (some ⟨j, q, none⟩)) := fun k w hw => by
  obtain ⟨h1, b, z, h2, h3⟩ := hw.ptr_inv
  exact VX.of0 ⟨h1, b, z, by show ren σ k j = _; rw [ren_at h]; exact h2, h3⟩
/-- A state seen as another. -/
theorem refit {c : Code} {s : St} (t : St) (σ : List Nat) {C : Exit → St → Prop} (F : Fit w0.m s t σ) (h : WC P w0 c t C) : WC P w0 c s C := fun Q _ W a R hK => h Q _ W a (F.rl R) hK
/-- What is asked behind a round. -/
def loopK {α : Type} (m0 : Nat) (J : α → St) (pre : α → Prop) (μ : α → Nat) (a : α) (C : Exit → St → Prop) (e : Exit) (s : St) : Prop := match e with
  | .normal => ∃ a', pre a' ∧ μ a' < μ a ∧ ∃ σ, Fit m0 s (J a') σ
  | e => C e s
theorem w_loop {c : Code} {s : St} {C : Exit → St → Prop} {α : Type} (J : α → St) (pre : α → Prop) (μ : α → Nat) (a0 : α) (hp : pre a0) (σ : List Nat) (h0 : Fit w0.m s (J a0) σ) (hr : ∀ a, pre a → Rn P w0 (loopK w0.m J pre μ a C) (cf (J a) [co c])) : WC P w0 (.loop c) s C := by
  have key : ∀ (m : Nat) (a : α) (Q : Exit → Act → World → Prop) (k : K) (W : World) (act : Act), pre a → μ a ≤ m → Rl w0 (J a) k W act → (∀ e s' k' W' a', Rl w0 s' k' W' a' → C e s' → Q e a' W') → Code.rounds P c Q (m + 1) act W := by
    intro m
    induction m with
    | zero =>
      intro a Q k W act hpa hm R hQ
      refine run_ok (hr a hpa) _ _ _ _ R fun e s' k' W' a' R' hC => ?_
      cases e with
      | normal => obtain ⟨a', _, hlt, _⟩ := hC; omega
      | _ => exact hQ _ _ _ _ _ R' hC
    | succ m ih =>
      intro a Q k W act hpa hm R hQ
      refine run_ok (hr a hpa) _ _ _ _ R fun e s' k' W' a' R' hC => ?_
      cases e with
      | normal => obtain ⟨a2, hp2, hlt, σ2, hF⟩ := hC; exact ih a2 Q _ W' a' hp2 (by omega) (hF.rl R') hQ
      | _ => exact hQ _ _ _ _ _ R' hC
  intro Q k W act R hK
  exact wp_loop_rounds (μ a0 + 1) (key (μ a0) a0 Q _ W act hp (Nat.le_refl _) (h0.rl R) hK)
end
end S
end Go.Proofs.YtfmfeipeeedfpaaGreat
