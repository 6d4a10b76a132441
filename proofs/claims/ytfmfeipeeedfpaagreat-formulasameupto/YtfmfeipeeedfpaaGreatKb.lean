/-
  What is left to be shown of code, step by step. What is left to be shown of code is enough; results; entering a function; loops; calls. Functions of values; calls; loops. Calls that are handed blocks of one's own. Functions that are handed blocks of one's own, and calls of these. Maps of one's own; values of functions. Expressions that lie there; a function that calls itself. Plain arithmetic of numbers in four limbs of 64 bits: no program in sight. Sums of columns: what they come to, the program. Sums of columns: what is turned round, what is made narrow, the program. Two arrays of four limbs held against each other: what the program's == says. Decimals: what is said of them, what comes of them; == of numbers. Small facts on worlds: where a number of four limbs lies, and that it stays where it lies. Plain arithmetic of math/bits.Div64: a digit of 32 bits, guessed and mended. math/bits.Div64 where the high word is 0, limb.divLimb of a number of one limb: the walks. math/bits.Len64, LeadingZeros64 and Mul64 at this program: the contracts of the library, laid. math/bits.Div64, whatever the words: the walk. Plain arithmetic of bits: how many a number has, and which. limb.Div: the worlds of the call, and the arithmetic of its four steps. The document's Mul, whatever the numbers: the walk. limb.addCarry, limb.subBorrow, Add, Sub, From, Odd, whatever the limbs: the walks. limb.Add and limb.Sub, From, Odd, the document's From and not, whatever the limbs: the walks. limb.mulLimb, whatever the limbs: the walk.
-/
import Derived.Test.YtfmfeipeeedfpaaGreatKa
import Derived.Scope
import Derived.KernelRfl
import Derived.MapKept
import Derived.Test.YtfmfeipeeedfpaaGreatProg
import Derived.WalkKit
import Derived.WalkSpells
import Derived.Handy
import Derived.BigQuiet
import Derived.Deep.RegionHeld3
import Derived.ChangeKeysEq
import Derived.Laws.StructEq
import Derived.Shelf.Small.Bits
import Derived.Shelf.Strconv.Itoa0
import Derived.Shelf.Bits.Mul64
import Derived.Deep.CutBlock
import Derived.Deep.CutRange
namespace Go.Proofs.YtfmfeipeeedfpaaGreat
namespace S
open Go.CheckFast (force force_eq)
open Go.RowKit (Below)
/-! Blocks of which the cells are not told one by one: a mark beside them. -/
def msk (h : HT) (b : Nat) : HT := (b + 4096, none) :: h
def hsym : HT → Nat → Bool
  | [], _ => false
  | x :: l, b => bif Nat.beq x.1 (b + 4096) then true else hsym l b
theorem hget_msk (h : HT) (b i : Nat) : hget (msk h b) i = hget h i := by
  unfold hget msk
  by_cases hi : i < 4096
  · rw [blt_t hi]; simp only [cond_true, hlook, beq_f (show b + 4096 ≠ i by omega), cond_false]
  · rw [blt_f hi]; rfl
theorem Ss.mask {h h' : HT} {n n' r w : Nat} (b : Nat) (s : Ss h n h' n' r w) : Ss h n (msk h' b) n' r w where
  le := s.le
  nn := fun nn i hi => by rw [hget_msk]; exact s.nn nn i hi
  same := fun i hi => by rw [hget_msk]; exact s.same i hi
  old := s.old
  lt := s.lt
  back := fun i hi ⟨cs, e⟩ => s.back i hi ⟨cs, by rw [← hget_msk h' b]; exact e⟩
theorem Sd.unmask {h h' : HT} {n n' r w : Nat} {k k' : K} {W W' : World} (b : Nat) (s : Sd h n h' n' r w k W k' W') : Sd h n (msk h' b) n' r w k W k' W' where
  ext := s.ext
  dom := s.dom
  rep := ⟨fun i hi cs e => s.rep.rep i hi cs (by rw [← hget_msk h' b]; exact e), fun i j hi hj ⟨c1, e1⟩ ⟨c2, e2⟩ => s.rep.inj i j hi hj ⟨c1, by rw [← hget_msk h' b]; exact e1⟩ ⟨c2, by rw [← hget_msk h' b]; exact e2⟩⟩
  frm := s.frm
  fresh := fun i b' z h1 h2 ⟨cs, e⟩ h4 => by
    rcases s.fresh i b' z h1 h2 ⟨cs, by rw [← hget_msk h' b]; exact e⟩ h4 with h | ⟨j, z', a1, a2, a3, a4, a5⟩
    · exact Or.inl h
    · exact Or.inr ⟨j, z', a1, a2, a3, fun ⟨c, e⟩ => a4 ⟨c, by rw [← hget_msk h' b]; exact e⟩, a5⟩
  own := s.own
  size := s.size
  os := s.os
  tape := s.tape
  output := s.output
theorem Oa.mask {A : K → World → Prop} {P : Program} {o : Oper} {fr : FT} {h h' : HT} {n n' r w : Nat} {v : Value} (b : Nat) (e : Oa A P o fr h n ⟨v, h', n', r, w⟩) : Oa A P o fr h n ⟨v, msk h' b, n', r, w⟩ :=
  ⟨e.ss.mask b, fun k W a K' Q hA hop H hn hk => e.ok k W a K' Q hA hop H hn fun u W' k' hd hv => hk u W' k' (hd.unmask b) hv⟩
/-! Places of one's own that are no literals. -/
/-- A place, told shortly. -/
def ofsK (q i z : Nat) (D : Nat → Prop) : Prop := bif Nat.beq q 0 then bif Nat.beq z 1 then D i else D (i * z) else D (q + i * z)
theorem ofsK_eq (q i z : Nat) (D : Nat → Prop) : ofsK q i z D = D (q + i * z) := by
  unfold ofsK
  cases hq : Nat.beq q 0 with
  | false => rfl
  | true =>
    have := Nat.eq_of_beq_eq_true hq
    subst this
    cases hz : Nat.beq z 1 with
    | false => simp
    | true => have := Nat.eq_of_beq_eq_true hz; subst this; simp
def ixoK (P : Program) (t : TypeId) (x i : Value) (D : Value → Prop) : Option Prop := match x with
  | .slice (some ⟨b, q, _⟩) m es => match i with
    | .int _ j => match P.underlying t with
      | some (.slice e) => match szOf P e with
        | some z => bif Nat.beq z es then some (∃ i : Nat, (i : Int) = j ∧ i < m ∧ ofsK q i z fun p => D (.pointer (some ⟨b, p, some 1⟩))) else none
        | none => none
      | _ => none
    | _ => none
  | .pointer (some ⟨b, q, none⟩) => match i with
    | .int _ j => match P.underlying t with
      | some (.array m e) => match szOf P e with
        | some z => some (∃ i : Nat, (i : Int) = j ∧ i < m ∧ ofsK q i z fun p => D (.pointer (some ⟨b, p, some 1⟩)))
        | none => none
      | _ => none
    | _ => none
  | .pointer (some ⟨b, q, some _⟩) => match i with
    | .int _ j => match P.underlying t with
      | some (.array m e) => match szOf P e with
        | some z => some (∃ i : Nat, (i : Int) = j ∧ i < m ∧ D (.pointer (some ⟨b, q + i * z, some 1⟩)))
        | none => none
      | _ => none
    | _ => none
  | _ => none
def ldoK (P : Program) (h : HT) (n : Nat) (t : TypeId) (x : Value) (C : R5 → Prop) : Option Prop := match x with
  | .pointer (some ⟨b, q, _⟩) => match hget h b with
    | some cs => match isRow P t with
      | some true => match szOf P t with
        | some z => some (∃ us : List Value, (cs.drop q).take z = us ∧ us.length = z ∧ (C ⟨.agg us.toArray, h, n, bit b, 0⟩ ∨ ∃ vs : List Value, us = vs.map rel1 ∧ C ⟨raw (.agg vs.toArray), h, n, bit b, 0⟩))
        | none => none
      | some false => some (∃ v, cs[q]? = some v ∧ C ⟨v, h, n, bit b, 0⟩)
      | none => none
    | none => none
  | _ => none
def stoK (P : Program) (h : HT) (n : Nat) (t : TypeId) (x y : Value) (C : R5 → Prop) : Option Prop := match x with
  | .pointer (some ⟨b, q, _⟩) => match hget h b with
    | some cs => match szOf P t with
      | some z => bif Nat.beq y.cells.toList.length z && allOne y.cells.toList then some (q + z ≤ cs.length ∧ ∃ cs', cs' = cs.take q ++ y.cells.toList ++ cs.drop (q + z) ∧ C ⟨undef, msk (hs12 h b (some cs')) b, n, bit b, bit b⟩) else none
      | none => none
    | none => none
  | _ => none
/-- A slice with nothing in it: told by itself. -/
def isEmp (v : Value) : Bool := match v with
  | .float _ _ => true
  | _ => false
def appK (A : K → World → Prop) (P : Program) (ts : List TypeId) (vs : List Value) (h : HT) (n : Nat) (C : R5 → Prop) : Option Prop := match ts with
  | [t, t'] => match vs with
    | [x, y] => match P.underlying t with
      | some (.slice e) => match szOf P e with
        | some sz => bif apOk P e sz && Nat.blt n 4096 && !isEmp y then match x with
            | .slice none 0 0 => some (∃ m zs rb, Put A P h t' sz y m zs rb ∧ 0 < m ∧ m ≤ 1407374883 ∧ C ⟨.slice (some ⟨n, 0, none⟩) m sz, msk (hs12 h n (some zs)) n, n + 1, rb, bit n⟩)
            | .slice (some ⟨a, 0, none⟩) len es => match hget h a with
              | some cs => bif Nat.beq es sz then some (cs.length = len * sz ∧ ∃ m zs rb, Put A P h t' sz y m zs rb ∧ len + m ≤ 1407374883 ∧ ∃ cs', cs' = cs ++ zs ∧ C ⟨.slice (some ⟨n, 0, none⟩) (len + m) sz, msk (hs12 (hs12 h a none) n (some cs')) n, n + 1, Nat.lor (bit a) rb, Nat.lor (bit a) (bit n)⟩) else none
              | none => none
            | _ => none
          else none
        | none => none
      | _ => none
    | _ => none
  | _ => none
def cvK (P : Program) (d : TypeId) (x : Value) (D : Value → Prop) : Option Prop := match x with
  | .int _ a => match P.underlying d with
    | some (.int k) => some (∃ z, k.wrap a = z ∧ D (.int k z))
    | _ => none
  | _ => none
/-- A row as it came put into a block of one's own. -/
def boxK (x : Value) (h : HT) (n : Nat) (C : R5 → Prop) : Option Prop := match x with
  | .iface 0 y => bif Nat.blt n 4096 then some (∃ us : List Value, y = .agg us.toArray ∧ (∀ u ∈ us, u.oneCell' = true) ∧ C ⟨.pointer (some ⟨n, 0, none⟩), msk (hs12 h n (some (us.map rel1))) n, n + 1, 0, bit n⟩) else none
  | _ => none
def unK (op : UnOp) (x : Value) (D : Value → Prop) : Option Prop := match x with
  | .int k a => match op with
    | .neg => some (∃ z, k.wrap (0 - a) = z ∧ D (.int k z))
    | .xor => some (∃ z, k.wrap ((BitVec.ofInt k.bits (if k.signed then -1 else k.max) ^^^ BitVec.ofInt k.bits a).toNat : Int) = z ∧ D (.int k z))
    | _ => none
  | _ => none
section
variable {P : Program} {o : Oper} {fr : FT} {h : HT} {n : Nat}
theorem boxK_ok {t : TypeId} {y : Operand} {C : R5 → Prop} {R : Prop} (nn : ∀ i, n ≤ i → hget h i = none) (ho : o.op = .box t y) (he : boxK (evo fr y) h n C = some R) (e : R) {A : K → World → Prop} : ∃ x, Oa A P o fr h n x ∧ C x := by
  unfold boxK at he
  split at he
  · rename_i y' hv
    obtain ⟨hn, he⟩ := bif_some he
    cases he
    obtain ⟨us, hy, _, hC⟩ := e
    refine ⟨_, Oa.mask n (Oo.to ?_), hC⟩
    have hnew : oNew h n (.pointer (some ⟨n, 0, none⟩)) (us.map rel1) 0 0 = some ⟨.pointer (some ⟨n, 0, none⟩), hs12 h n (some (us.map rel1)), n + 1, 0, Nat.lor 0 (bit n)⟩ := by unfold oNew; rw [hn]; rfl
    have key := new_ok (P := P) (o := o) (fr := fr) nn hnew fun k W a hop _ => by
      have h1 := hop y (by simp [ho, Op.operands])
      rw [hv] at h1
      have h2 := h1.raw_inv
      rw [hy] at h2
      refine ⟨us, [], t, .pointer (some ⟨W.heap.size, 0, none⟩), W.alloc (.cells us.toArray t), rels_vx us, ?_, by show W.heap.push _ = _; simp, rfl, ⟨rfl, Nat.le_refl _⟩, rfl, fun k' _ hk' => VX.of0 ⟨trivial, _, _, hk', rfl⟩⟩
      simp [execOp, ho, h2, Instr.box, newVar, newRow, Value.cells]
    have hz : Nat.lor 0 (bit n) = bit n := by show 0 ||| bit n = bit n; simp
    rw [hz] at key
    exact key
  · cases he
theorem unK_ok {op : UnOp} {t : TypeId} {y : Operand} {D : Value → Prop} {R : Prop} (ho : o.op = .unOp op t y) (he : unK op (evo fr y) D = some R) (e : R) : ∃ v, Oo P o fr h n ⟨v, h, n, 0, 0⟩ ∧ D v := by
  unfold unK at he
  split at he
  · rename_i k a hv
    have key : ∀ z : Int, (Op.unary op (.int k a) = pure (.int k z)) → Oo P o fr h n ⟨.int k z, h, n, 0, 0⟩ := fun z hz => Oo.val rfl fun kk W ac hop => ⟨.int k z, VX.of0 rfl, by
      have h2 := hop y (by simp [ho, Op.operands])
      rw [hv] at h2
      have h3 := h2.int_inv
      simp [execOp, ho, h3, hz]⟩
    split at he
    · cases he; obtain ⟨z, h1, hD⟩ := e; exact ⟨_, key z (by rw [← h1]; rfl), hD⟩
    · cases he; obtain ⟨z, h1, hD⟩ := e; exact ⟨_, key z (by rw [← h1]; rfl), hD⟩
    · cases he
  · cases he
theorem ixoK_ok {t : TypeId} {y ix : Operand} {D : Value → Prop} {R : Prop} (ho : o.op = .indexAddr t y ix) (he : ixoK P t (evo fr y) (evo fr ix) D = some R) (e : R) : ∃ v, Oo P o fr h n ⟨v, h, n, 0, 0⟩ ∧ D v := by
  unfold ixoK at he
  split at he
  · rename_i b q sp m es hv
    split at he
    · rename_i ki j hi
      split at he
      · rename_i e' hu
        split at he
        · rename_i z hz
          obtain ⟨_, he⟩ := bif_some he
          cases he
          obtain ⟨i, h0, h1, hD⟩ := e
          rw [ofsK_eq] at hD
          subst h0
          refine ⟨_, Oo.val rfl fun k W a hop => ?_, hD⟩
          have h2 := hop y (by simp [ho, Op.operands])
          have h2' := hop ix (by simp [ho, Op.operands])
          rw [hv] at h2; rw [hi] at h2'
          obtain ⟨_, b', zz, c, hk, h3, _⟩ := h2.slc_inv
          have h4 := h2'.int_inv
          obtain ⟨inf, hinf, hsz⟩ := szOf_info hz
          refine ⟨.pointer (some ⟨b', q + i * z, none⟩), VX.of0 ⟨trivial, b', zz, hk, rfl⟩, ?_⟩
          simp [execOp, ho, h3, h4, Instr.indexAt, asIntOf, run_underlying hu, sizeOf, typeInfo, hinf, hsz, Addr.add_mid, h1]
        · cases he
      · cases he
    · cases he
  · rename_i b q hv
    split at he
    · rename_i ki j hi
      split at he
      · rename_i m e' hu
        split at he
        · rename_i z hz
          cases he
          obtain ⟨i, h0, h1, hD⟩ := e
          rw [ofsK_eq] at hD
          subst h0
          refine ⟨_, Oo.val rfl fun k W a hop => ?_, hD⟩
          have h2 := hop y (by simp [ho, Op.operands])
          have h2' := hop ix (by simp [ho, Op.operands])
          rw [hv] at h2; rw [hi] at h2'
          obtain ⟨_, b', zz, hk, h3⟩ := h2.ptr_inv
          have h4 := h2'.int_inv
          obtain ⟨inf, hinf, hsz⟩ := szOf_info hz
          refine ⟨.pointer (some ⟨b', q + i * z, none⟩), VX.of0 ⟨trivial, b', zz, hk, rfl⟩, ?_⟩
          simp [execOp, ho, h3, h4, Instr.indexAt, asIntOf, Instr.sureAddr, run_underlying hu, sizeOf, typeInfo, hinf, hsz, Addr.add_mid, h1]
        · cases he
      · cases he
    · cases he
  · rename_i b q sp hv
    split at he
    · rename_i ki j hi
      split at he
      · rename_i m e' hu
        split at he
        · rename_i z hz
          cases he
          obtain ⟨i, h0, h1, hD⟩ := e
          subst h0
          refine ⟨_, Oo.val rfl fun k W a hop => ?_, hD⟩
          have h2 := hop y (by simp [ho, Op.operands])
          have h2' := hop ix (by simp [ho, Op.operands])
          rw [hv] at h2; rw [hi] at h2'
          obtain ⟨_, b', zz, hk, h3⟩ := h2.ptr_inv
          have h4 := h2'.int_inv
          obtain ⟨inf, hinf, hsz⟩ := szOf_info hz
          refine ⟨.pointer (some ⟨b', q + i * z, none⟩), VX.of0 ⟨trivial, b', zz, hk, rfl⟩, ?_⟩
          simp [execOp, ho, h3, h4, Instr.indexAt, asIntOf, Instr.sureAddr, run_underlying hu, sizeOf, typeInfo, hinf, hsz, Addr.add_mid, h1]
        · cases he
      · cases he
    · cases he
  · cases he
theorem ldoK_ok {t : TypeId} {y : Operand} {C : R5 → Prop} {R : Prop} (ho : o.op = .load t y) (he : ldoK P h n t (evo fr y) C = some R) (e : R) : ∃ x, Oo P o fr h n x ∧ C x := by
  unfold ldoK at he
  split at he
  · rename_i b q s hv
    split at he
    · rename_i cs hcs
      have key : ∀ v, (∀ (k : K) (W : World) (b' : Nat) (us sp : List Value) (ty : TypeId), W.heap[b']? = some (.cells (us ++ sp).toArray ty (0, 0)) → LR (VX k) cs us → ∃ u, VX k v u ∧ (loadVar t ⟨b', q, none⟩).run P W = .ok u W) → Oo P o fr h n ⟨v, h, n, bit b, 0⟩ := by
        intro v hl
        refine ⟨Ss.read _ _ _, fun k W a K' Q hop H _ hk => ?_⟩
        have h6 := hop y (by simp [ho, Op.operands])
        rw [hv] at h6
        obtain ⟨_, b', z, hkb, h7⟩ := h6.ptr_inv
        obtain ⟨b2, us, sp, ty, e1, e2, e3⟩ := (H.rep b (tb_bit.2 rfl) cs hcs).cel hkb
        have hkb' : k b = some (b', z + 1) := hkb
        rw [hkb'] at e1; cases e1
        obtain ⟨u, h8, h9⟩ := hl k W b' us sp ty e2 e3
        unfold Oper.wp
        have : (execOp a.eval o).run P W = .ok (.value u) W := by simp [execOp, ho, h7, Instr.loadAt, Instr.sureAddr, h9]
        rw [this, Oper.upon_value]
        exact hk u W k (Sd.read H) h8
      split at he
      · rename_i hrow
        obtain ⟨d, hu, hd⟩ := isRow_some hrow
        split at he
        · rename_i z hz
          cases he
          obtain ⟨vs, h1, h2, hC⟩ := e
          have ld : ∀ (k : K) (W : World) (b' : Nat) (us sp : List Value) (ty : TypeId), W.heap[b']? = some (.cells (us ++ sp).toArray ty (0, 0)) → LR (VX k) cs us → ∃ us', LR (VX k) vs us' ∧ (loadVar t ⟨b', q, none⟩).run P W = .ok (.agg us'.toArray) W := by
            intro k W b' us sp ty e2 e3
            have h3 : LR (VX k) vs ((us.drop q).take z) := by rw [← h1]; exact (e3.drop q).take z
            refine ⟨_, h3, run_loadVar_mid W b' q t _ d (fun j v hv => ?_) hu hd ?_⟩
            · rw [List.getElem?_take] at hv
              split at hv
              · rw [List.getElem?_drop] at hv
                rw [cell_of e2, List.getElem?_append_left (List.getElem?_eq_some_iff.1 hv).1]; exact hv
              · cases hv
            · obtain ⟨i, hi, hs⟩ := szOf_info hz
              rw [hi]
              simp only [Option.map_some, Option.some.injEq]
              rw [hs, h3.len, h2]
          rcases hC with hC | ⟨ws, hws, hC⟩
          · refine ⟨_, key _ fun k W b' us sp ty e2 e3 => ?_, hC⟩
            obtain ⟨us', h4, h5⟩ := ld k W b' us sp ty e2 e3
            exact ⟨_, VX.agg h4, h5⟩
          · refine ⟨_, key _ fun k W b' us sp ty e2 e3 => ?_, hC⟩
            obtain ⟨us', h4, h5⟩ := ld k W b' us sp ty e2 e3
            rw [hws] at h4
            have := LR.map (p := pur1) (d := den1) (fun _ _ h => pur1_eq h) h4 (by simp [pur_rel1])
            rw [List.map_map, show den1 ∘ rel1 = id from funext den_rel1, List.map_id] at this
            subst this
            exact ⟨_, VX.raw, h5⟩
        · cases he
      · rename_i hrow
        obtain ⟨d, hu, hd⟩ := isRow_some hrow
        cases he
        obtain ⟨v, h1, hC⟩ := e
        refine ⟨_, key _ fun k W b' us sp ty e2 e3 => ?_, hC⟩
        obtain ⟨u, h4, h5⟩ := e3.get h1
        refine ⟨u, h5, ?_⟩
        have hagg : (isAgg t).run P W = .ok false W := by
          unfold isAgg
          rw [Sem.run_bind, run_underlying hu W]
          cases d <;> simp_all
        have hc : W.cell? ⟨b', q, none⟩ = some u := by rw [cell_of e2, List.getElem?_append_left (List.getElem?_eq_some_iff.1 h4).1]; exact h4
        simp [loadVar, Sem.run_bind, hagg, hc]
      · cases he
    · cases he
  · cases he
theorem stoK_ok {t : TypeId} {y z : Operand} {C : R5 → Prop} {R : Prop} (ho : o.op = .store t y z) (nn : ∀ i, n ≤ i → hget h i = none) (he : stoK P h n t (evo fr y) (evo fr z) C = some R) (e : R) {A : K → World → Prop} : ∃ x, Oa A P o fr h n x ∧ C x := by
  unfold stoK at he
  split at he
  · rename_i b q s hv
    split at he
    · rename_i cs hcs
      split at he
      · rename_i m hm
        obtain ⟨hc, he⟩ := bif_some he
        simp only [Bool.and_eq_true, Nat.beq_eq] at hc
        cases he
        obtain ⟨h2, cs', h1, hC⟩ := e
        refine ⟨_, Oa.mask b (Oo.to ?_), hC⟩
        rw [← hc.1] at h2 h1
        have hb := hget_lt hcs
        refine ⟨Ss.write nn hb hcs, fun k W a K' Q hop H _ hk => ?_⟩
        have h6 := hop y (by simp [ho, Op.operands])
        have h6' := hop z (by simp [ho, Op.operands])
        rw [hv] at h6
        obtain ⟨_, b', zz, hkb, h7⟩ := h6.ptr_inv
        obtain ⟨b2, us, sp, ty, e1, e2, e3⟩ := (H.rep b (tb_bit.2 rfl) cs hcs).cel hkb
        have hbb : b2 = b' ∧ us.length + sp.length = zz := by
          have hkb' : k b = some (b', zz + 1) := hkb
          rw [hkb'] at e1; cases e1; exact ⟨rfl, rfl⟩
        obtain ⟨rfl, hzz⟩ := hbb
        obtain ⟨r1, r2⟩ := cells_rel h6' hc.2
        have hlen := r1.len
        have hus := e3.len
        have hfit : q + (a.eval z).cells.toList.length ≤ us.length := by rw [hlen, hus]; exact h2
        have hst := run_storeCells_cells (P := P) b2 q (a.eval z).cells.toList 0 W (fun j hj => by
            rw [cell_of e2, List.getElem?_append_left (by omega), List.getElem?_eq_getElem (by omega)]; rfl) (fun j hj => fz_of e2 _) r2
        simp only [Nat.add_zero] at hst
        obtain ⟨i, hi, hs⟩ := szOf_info hm
        have hsz : (a.eval z).cells.size = i.size := by rw [hs, ← hc.1, ← hlen]; simp
        have hrun : (execOp a.eval o).run P W = .ok .skip (W.setCells b2 q (a.eval z).cells.toList) := by
          simp [execOp, ho, h7, Instr.storeAt, Instr.sureAddr, storeVar, sizeOf, typeInfo, hi, hsz, hst]
        unfold Oper.wp
        rw [hrun, Oper.upon_skip]
        have hset := heap_setCells (b := b2) (ty := ty) (a.eval z).cells.toList q W (us ++ sp) e2 (by simp; omega)
        have hshape : (us ++ sp).take q ++ (a.eval z).cells.toList ++ (us ++ sp).drop (q + (a.eval z).cells.toList.length) = (us.take q ++ (a.eval z).cells.toList ++ us.drop (q + (a.eval z).cells.toList.length)) ++ sp := by
          rw [List.take_append_of_le_length (by omega), List.drop_append_of_le_length hfit]
          simp
        rw [hshape] at hset
        refine hk undef _ k (Sd.write hb hcs hkb hset ?_ ?_ (fun c hc _ => heap_setCells_other hc _ _) ?_ (rest_setCells _ _ _ _).1 (rest_setCells _ _ _ _).2.1 (rest_setCells _ _ _ _).2.2) undef_vx
        · rw [← hzz]
          simp
          omega
        · rw [h1, ← hlen]
          exact ((e3.take q).app r1).app (e3.drop _)
        · rw [size_setCells]; exact Nat.le_refl _
      · cases he
    · cases he
  · cases he
theorem appK_ok {A : K → World → Prop} {ts : Array TypeId} {xs : Array Operand} {C : R5 → Prop} {R : Prop} (nn : ∀ i, n ≤ i → hget h i = none) (ho : o.op = .call { callee := .builtin .append, args := xs, argTypes := ts }) (he : appK A P ts.toList (evl fr xs.toList) h n C = some R) (e : R) : ∃ x, Oa A P o fr h n x ∧ C x := by
  unfold appK at he
  split at he
  · rename_i t t' hts
    have hta : ts = #[t, t'] := by apply Array.ext'; rw [hts]
    subst hta
    split at he
    · rename_i x y hvs
      split at he
      · rename_i e' hu
        split at he
        · rename_i sz hsz
          obtain ⟨hc, he⟩ := bif_some he
          simp only [Bool.and_eq_true, Nat.blt_eq] at hc
          obtain ⟨hc, _⟩ := hc
          split at he
          · cases he
            obtain ⟨m, zs, rb, h1, h2, h3, hC⟩ := e
            exact ⟨_, (r_app0 hc.2 nn ho hvs hu hsz hc.1 h1 h2 h3).mask _, hC⟩
          · split at he
            · rename_i cs hcs
              obtain ⟨hes, he⟩ := bif_some he
              cases he
              obtain ⟨hl, m, zs, rb, h1, h3, cs', h4, hC⟩ := e
              subst h4
              have hes := Nat.eq_of_beq_eq_true hes
              subst hes
              exact ⟨_, (r_app hc.2 nn ho hvs hu hsz hc.1 hcs hl h1 h3).mask _, hC⟩
            · cases he
          · cases he
        · cases he
      · cases he
    · cases he
  · cases he
theorem cvK_ok {s d : TypeId} {y : Operand} {D : Value → Prop} {R : Prop} (ho : o.op = .convert s d y) (hs : (P.underlying s).isSome = true) (he : cvK P d (evo fr y) D = some R) (e : R) : ∃ v, Oo P o fr h n ⟨v, h, n, 0, 0⟩ ∧ D v := by
  unfold cvK at he
  split at he
  · rename_i k0 a0 hv
    split at he
    · rename_i k hu
      cases he
      obtain ⟨z, h1, hD⟩ := e
      refine ⟨.int k z, Oo.val rfl fun kk W a hop => ⟨.int k z, VX.of0 rfl, ?_⟩, hD⟩
      have h2 := hop y (by simp [ho, Op.operands])
      rw [hv] at h2
      have h3 := h2.int_inv
      obtain ⟨ds, hds⟩ := Option.isSome_iff_exists.1 hs
      simp [execOp, ho, h3, convert, run_underlying hds, run_underlying hu, Conv.intToInt, h1]
    · cases he
  · cases he
end
/-- The address of a field: of one's own, or as it came. -/
def oFld (P : Program) (s : TypeId) (x : Operand) (f : Nat) (fr : FT) (h : HT) (n : Nat) : Option R5 := match evo fr x with
  | .iface 0 (.pointer (some ⟨b, o, none⟩)) => (fOff P s f).bind fun d => val h n (raw (.pointer (some ⟨b, o + d, none⟩)))
  | .pointer (some ⟨b, o, some c⟩) => (fOff P s f).bind fun d => val h n (.pointer (some ⟨b, o + d, some c⟩))
  | _ => oField P s x f fr h n
def oNilC (x : Operand) (fr : FT) (h : HT) (n : Nat) : Option R5 := match evo fr x with
  | .iface 0 (.pointer (some ⟨b, o, none⟩)) => val h n (raw (.pointer (some ⟨b, o, none⟩)))
  | _ => oNil x fr h n
def oNot (op : UnOp) (x : Operand) (fr : FT) (h : HT) (n : Nat) : Option R5 := match op with
  | .not => match evo fr x with
    | .complex _ re _ => val h n (bif Nat.beq re 1 then litF else litT)
    | .bool p => val h n (.bool (!p))
    | _ => none
  | _ => none
/-- What needs no word. -/
def op1 (P : Program) (o : Op) (fr : FT) (h : HT) (n : Nat) : Option R5 := match o with
  | .move x => oMove x fr h n
  | .assign x => oMove x fr h n
  | .extract x i => oExt x i fr h n
  | .nilCheck x => oNilC x fr h n
  | .fieldAddr s x f => oFld P s x f fr h n
  | .field s x f => oFieldV P s x f fr h n
  | .build t parts => oBuild P t parts fr h n
  | .buildSlice t len parts => oBuildS P t len parts fr h n
  | .load t x => oLoad P t x fr h n
  | .store t x y => oStore P t x y fr h n
  | .alloc t => oAlloc P t fr h n
  | .box _ x => oBox x fr h n
  | .makeFunc fn first captured => oFunc fn first captured fr h n
  | .unOp op _ x => oNot op x fr h n
  | _ => none
section
variable {P : Program} {o : Oper} {fr : FT} {h : HT} {n : Nat} {x : R5}
theorem s_fld {t : TypeId} {y : Operand} {f : Nat} (ho : o.op = .fieldAddr t y f) (e : oFld P t y f fr h n = some x) : Oo P o fr h n x := by
  unfold oFld at e
  split at e
  · rename_i b q hv
    obtain ⟨d, hd, e⟩ := bind_some e
    refine Oo.val e fun k W a hop => ⟨.pointer (some ⟨b, q + d, none⟩), VX.raw, ?_⟩
    have h2 := hop y (by simp [ho, Op.operands])
    rw [hv] at h2
    have h3 := h2.raw_inv
    unfold fOff at hd
    split at hd
    · rename_i fs hu
      split at hd
      · rename_i fd hf
        split at hd
        · rename_i m hs
          cases hd
          obtain ⟨i, hi, hsz⟩ := szOf_info hs
          have hf' : fs[f]? = some fd := by simpa using hf
          have hne : ¬ i.size = 0 := by omega
          simp [execOp, ho, h3, Instr.fieldAt, run_underlying hu, hf', Instr.sureAddr, fieldPlace, sizeOf, typeInfo, hi, hne, Addr.add_mid]
        · cases hd
      · cases hd
    · cases hd
  · rename_i b q c hv
    obtain ⟨d, hd, e⟩ := bind_some e
    refine Oo.val e fun k W a hop => ?_
    have h2 := hop y (by simp [ho, Op.operands])
    rw [hv] at h2
    obtain ⟨_, b', z, hk, h3⟩ := h2.ptr_inv
    refine ⟨.pointer (some ⟨b', q + d, none⟩), VX.of0 ⟨trivial, b', z, hk, rfl⟩, ?_⟩
    unfold fOff at hd
    split at hd
    · rename_i fs hu
      split at hd
      · rename_i fd hf
        split at hd
        · rename_i m hs
          cases hd
          obtain ⟨i, hi, hsz⟩ := szOf_info hs
          have hf' : fs[f]? = some fd := by simpa using hf
          have hne : ¬ i.size = 0 := by omega
          simp [execOp, ho, h3, Instr.fieldAt, run_underlying hu, hf', Instr.sureAddr, fieldPlace, sizeOf, typeInfo, hi, hne, Addr.add_mid]
        · cases hd
      · cases hd
    · cases hd
  · exact s_field ho e
theorem s_nilC {y : Operand} (ho : o.op = .nilCheck y) (e : oNilC y fr h n = some x) : Oo P o fr h n x := by
  unfold oNilC at e
  split at e
  · rename_i b q hv
    refine Oo.val e fun k W a hop => ⟨.pointer (some ⟨b, q, none⟩), VX.raw, ?_⟩
    have h2 := hop y (by simp [ho, Op.operands])
    rw [hv] at h2
    have h3 := h2.raw_inv
    simp [execOp, ho, h3]
  · exact s_nil ho e
theorem s_not {op : UnOp} {t : TypeId} {y : Operand} (ho : o.op = .unOp op t y) (e : oNot op y fr h n = some x) : Oo P o fr h n x := by
  unfold oNot at e
  split at e
  · split at e
    · rename_i kk re c hv
      refine Oo.val e fun k W a hop => ⟨.bool (!Nat.beq re 1), by cases Nat.beq re 1 <;> first | exact VX.litT | exact VX.litF, ?_⟩
      have h2 := hop y (by simp [ho, Op.operands])
      rw [hv] at h2
      have h3 := h2.lit_inv
      simp [execOp, ho, h3, Op.unary]
    · rename_i p hv
      refine Oo.val e fun k W a hop => ⟨.bool (!p), VX.of0 rfl, ?_⟩
      have h2 := hop y (by simp [ho, Op.operands])
      rw [hv] at h2
      have h3 := h2.bool_inv
      simp [execOp, ho, h3, Op.unary]
    · cases e
  · cases e
theorem s_op (nn : ∀ i, n ≤ i → hget h i = none) (e : op1 P o.op fr h n = some x) : Oo P o fr h n x := by
  cases hop : o.op with
  | move y => rw [hop] at e; exact s_move (Or.inl hop) e
  | assign y => rw [hop] at e; exact s_move (Or.inr hop) e
  | extract y i => rw [hop] at e; exact s_ext hop e
  | nilCheck y => rw [hop] at e; exact s_nilC hop e
  | fieldAddr t y f => rw [hop] at e; exact s_fld hop e
  | field s y f => rw [hop] at e; exact s_fieldV hop e
  | build t ps => rw [hop] at e; exact s_build hop e
  | buildSlice t l ps => rw [hop] at e; exact s_buildS hop nn e
  | load t y => rw [hop] at e; exact s_load hop e
  | store t y z => rw [hop] at e; exact s_store hop nn e
  | alloc t => rw [hop] at e; exact s_alloc hop nn e
  | box t y => rw [hop] at e; exact s_box hop nn e
  | makeFunc f a c => rw [hop] at e; exact s_func hop e
  | unOp p t y => rw [hop] at e; exact s_not hop e
  | _ => rw [hop] at e; cases e
end
/-! Values worked out before they are kept. -/
def fV1 (v : Value) (C : Value → Prop) : Prop := match v with
  | .bool b => C (.bool b)
  | .int k a => C (.int k a)
  | .string s => C (.string s)
  | .pointer a => match a with
    | none => C (.pointer none)
    | some a => match a with
      | ⟨b, q, s⟩ => C (.pointer (some ⟨b, q, s⟩))
  | .slice a m c => C (.slice a m c)
  | .complex k a b => C (.complex k a b)
  | .iface k x => C (.iface k x)
  | .map r => C (.map r)
  | .func f a b => C (.func f a b)
  | v => C v
def fL (g : Value → (Value → Prop) → Prop) : List Value → (List Value → Prop) → Prop
  | [], C => C []
  | v :: l, C => g v fun v => fL g l fun l => C (v :: l)
def fV2 (v : Value) (C : Value → Prop) : Prop := match v with
  | .agg cs => fL fV1 cs.toList fun l => C (.agg ⟨l⟩)
  | v => fV1 v C
def fV (v : Value) (C : Value → Prop) : Prop := match v with
  | .tuple cs => fL fV2 cs.toList fun l => C (.tuple ⟨l⟩)
  | v => fV2 v C
def fH (h : HT) (C : HT → Prop) : Prop := match h with
  | [] => C []
  | x :: l => match x with
    | ⟨i, c⟩ => match c with
      | none => C ((i, none) :: l)
      | some cs => fL fV1 cs fun cs => C ((i, some cs) :: l)
def fR (x : R5) (C : R5 → Prop) : Prop := match x with
  | ⟨v, h, n, r, w⟩ => fV v fun v => fH h fun h => C ⟨v, h, n, r, w⟩
def putK (f : FT) (d : Option Tmp) (v : Value) (C : FT → Prop) : Prop := match f with
  | ⟨m, l⟩ => match d with
    | none => C ⟨m, l⟩
    | some t => bif Nat.blt t m then C ⟨m, (t, v) :: l⟩ else C ⟨m, l⟩
theorem fV1_eq (v : Value) (C : Value → Prop) : fV1 v C = C v := by
  cases v with
  | pointer a => cases a <;> rfl
  | _ => rfl
theorem fL_eq {g : Value → (Value → Prop) → Prop} (hg : ∀ v C, g v C = C v) : ∀ (l : List Value) (C : List Value → Prop), fL g l C = C l
  | [], _ => rfl
  | v :: l, C => by rw [fL, hg, fL_eq hg l]
theorem fV2_eq (v : Value) (C : Value → Prop) : fV2 v C = C v := by
  cases v with
  | agg cs => rw [fV2, fL_eq fV1_eq]
  | _ => simp only [fV2]; exact fV1_eq _ C
theorem fV_eq (v : Value) (C : Value → Prop) : fV v C = C v := by
  cases v with
  | tuple cs => rw [fV, fL_eq fV2_eq]
  | _ => simp only [fV]; exact fV2_eq _ C
theorem fH_eq (h : HT) (C : HT → Prop) : fH h C = C h := by
  cases h with
  | nil => rfl
  | cons x l =>
    obtain ⟨i, c⟩ := x
    cases c with
    | none => rfl
    | some cs => rw [fH, fL_eq fV1_eq]
theorem fR_eq (x : R5) (C : R5 → Prop) : fR x C = C x := by rw [fR, fV_eq, fH_eq]
theorem putK_eq (f : FT) (d : Option Tmp) (v : Value) (C : FT → Prop) : putK f d v C = C (put f d v) := by
  obtain ⟨m, l⟩ := f
  cases d with
  | none => rfl
  | some t =>
    simp only [putK, put, fput]
    cases Nat.blt t m <;> rfl
/-- Whatever else. -/
def anyK (w0 : B0) (X : World) (P : Program) (o : Oper) (f : FT) (h : HT) (n : Nat) (C : R5 → Prop) : Prop := ∃ x, ((∀ i, n ≤ i → hget h i = none) → Oa (Am w0 X) P o f h n x) ∧ C x
def orK (x : Option Prop) (y : Prop) : Prop := match x with
  | some R => R
  | none => y
def cmpK (w0 : B0) (X : World) (P : Program) (o : Oper) (op : BinOp) (f : FT) (h : HT) (n : Nat) (C : R5 → Prop) : Prop := bif isCmp op then ∃ p : Bool, Oa (Am w0 X) P o f h n ⟨.bool p, h, n, 0, 0⟩ ∧ (p = true → C ⟨litT, h, n, 0, 0⟩) ∧ (p = false → C ⟨litF, h, n, 0, 0⟩) else anyK w0 X P o f h n C
def keq (a b : IntKind) : Bool := decide (a = b)
def binK (w0 : B0) (X : World) (P : Program) (o : Oper) (op : BinOp) (p q : Value) (f : FT) (h : HT) (n : Nat) (C : R5 → Prop) : Prop := match p with
  | .int k a => match q with
    | .int k' b => bif isSh op then shK op k a b fun v => C ⟨v, h, n, 0, 0⟩ else bif keq k k' then intK op k a b fun v => C ⟨v, h, n, 0, 0⟩ else False
    | _ => False
  | .string a => match q with
    | .string b => strK P op a b fun v => C ⟨v, h, n, 0, 0⟩
    | _ => False
  | _ => cmpK w0 X P o op f h n C
/-- Of a block that is told cell by cell. -/
def litO (p : Value) (h : HT) (x : Option R5) : Option R5 := match p with
  | .pointer (some ⟨b, _, none⟩) => bif hsym h b then none else x
  | _ => none
theorem litO_some {p : Value} {h : HT} {x : Option R5} {y : R5} (e : litO p h x = some y) : x = some y := by
  unfold litO at e
  split at e
  · rename_i b _
    cases hb : hsym h b <;> rw [hb] at e
    · exact e
    · cases e
  · cases e
def orB (p : Value) (x : Option R5) : Option R5 := match p with
  | .iface 0 (.agg _) => none
  | _ => x
theorem orB_some {p : Value} {x : Option R5} {y : R5} (e : orB p x = some y) : x = some y := by
  unfold orB at e
  split at e
  · cases e
  · exact e
def stepK (w0 : B0) (X : World) (P : Program) (o : Oper) (f : FT) (h : HT) (n : Nat) (B C : R5 → Prop) : Prop := match o.op with
  | .pick c y z => match evo f c with
    | .complex _ re _ => B ⟨evo f (bif Nat.beq re 1 then y else z), h, n, 0, 0⟩
    | .bool p => (p = true → C ⟨evo f y, h, n, 0, 0⟩) ∧ (p = false → C ⟨evo f z, h, n, 0, 0⟩)
    | _ => False
  | .binOp op _ y z _ => binK w0 X P o op (evo f y) (evo f z) f h n C
  | .indexAddr t x i => match i with
    | .const _ => match oIndA P t x i f h n with
      | some x => fR x B
      | none => orK (ixK P t (evo f x) (evo f i) fun v => C ⟨v, h, n, 0, 0⟩) (anyK w0 X P o f h n C)
    | _ => orK (ixK P t (evo f x) (evo f i) fun v => C ⟨v, h, n, 0, 0⟩) (orK (ixoK P t (evo f x) (evo f i) fun v => C ⟨v, h, n, 0, 0⟩) (anyK w0 X P o f h n C))
  | .index t x i => orK (sixK P t (evo f x) (evo f i) fun v => C ⟨v, h, n, 0, 0⟩) (anyK w0 X P o f h n C)
  | .slice t x l hi m => match m with
    | none => orK (slcK P t (evo f x) (l.map (evo f)) (hi.map (evo f)) fun v => C ⟨v, h, n, 0, 0⟩) (anyK w0 X P o f h n C)
    | some _ => anyK w0 X P o f h n C
  | .load t x => match litO (evo f x) h (oLoad P t x f h n) with
    | some x => fR x B
    | none => orK (ldK P X t (evo f x) fun v => fV v fun v => C ⟨v, h, n, 0, 0⟩) (orK (ldoK P h n t (evo f x) C) (anyK w0 X P o f h n C))
  | .store t x y => match litO (evo f x) h (oStore P t x y f h n) with
    | some x => fR x B
    | none => orK (stoK P h n t (evo f x) (evo f y) C) (anyK w0 X P o f h n C)
  | .box _ x => match orB (evo f x) (oBox x f h n) with
    | some x => fR x B
    | none => orK (boxK (evo f x) h n C) (anyK w0 X P o f h n C)
  | .unOp op _ x => match oNot op x f h n with
    | some x => B x
    | none => orK (unK op (evo f x) fun v => C ⟨v, h, n, 0, 0⟩) (anyK w0 X P o f h n C)
  | .convert s d x => bif (P.underlying s).isSome then orK (cvK P d (evo f x) fun v => C ⟨v, h, n, 0, 0⟩) (anyK w0 X P o f h n C) else False
  | .call c => match c.callee with
    | .builtin b => match b with
      | .len => orK (lenK P c.argTypes.toList (evl f c.args.toList) fun v => C ⟨v, h, n, 0, 0⟩) (anyK w0 X P o f h n C)
      | .append => orK (appK (Am w0 X) P c.argTypes.toList (evl f c.args.toList) h n C) (anyK w0 X P o f h n C)
      | _ => anyK w0 X P o f h n C
    | _ => anyK w0 X P o f h n C
  | op => match op1 P op f h n with
    | some x => fR x B
    | none => anyK w0 X P o f h n C
theorem Oa.lit {A : K → World → Prop} {P : Program} {o : Oper} {f : FT} {h h' : HT} {n n' r w : Nat} {p : Bool} (e : Oa A P o f h n ⟨.bool p, h', n', r, w⟩) : Oa A P o f h n ⟨bif p then litT else litF, h', n', r, w⟩ :=
  ⟨e.ss, fun k W a K' Q hA hop H hn hk => e.ok k W a K' Q hA hop H hn fun u W' k' hd hv => hk u W' k' hd (by
    rw [show u = .bool p from hv.bool_inv]; cases p <;> first | exact VX.litT | exact VX.litF)⟩
theorem orK_ok {x : Option Prop} {y T : Prop} (h1 : ∀ R, x = some R → R → T) (h2 : y → T) (e : orK x y) : T := by
  unfold orK at e
  split at e
  · exact h1 _ rfl e
  · exact h2 e
theorem stepK_ok {w0 : B0} {X : World} {P : Program} {o : Oper} {f : FT} {h : HT} {n : Nat} {B C : R5 → Prop} (nn : ∀ i, n ≤ i → hget h i = none) (e : stepK w0 X P o f h n B C) : ∃ x, Oa (Am w0 X) P o f h n x ∧ (B x ∨ C x) := by
  have anyL : anyK w0 X P o f h n C → ∃ x, Oa (Am w0 X) P o f h n x ∧ (B x ∨ C x) := fun ⟨x, h1, h2⟩ => ⟨x, h1 nn, Or.inr h2⟩
  have cr : (∃ x, Oa (Am w0 X) P o f h n x ∧ C x) → ∃ x, Oa (Am w0 X) P o f h n x ∧ (B x ∨ C x) := fun ⟨x, h1, h2⟩ => ⟨x, h1, Or.inr h2⟩
  have lift : (∃ v, Oo P o f h n ⟨v, h, n, 0, 0⟩ ∧ C ⟨v, h, n, 0, 0⟩) → ∃ x, Oa (Am w0 X) P o f h n x ∧ (B x ∨ C x) := fun ⟨v, h1, h2⟩ => ⟨_, h1.to, Or.inr h2⟩
  unfold stepK at e
  split at e
  · rename_i c y z ho
    split at e
    · rename_i kk re im hv
      exact ⟨_, (s_pick ho (Nat.beq re 1) (fun k u hu => by rw [hv] at hu; exact hu.lit_inv)).to, Or.inl e⟩
    · rename_i p hv
      have hh : ∀ k u, VX k (evo f c) u → u = .bool p := fun k u hu => by rw [hv] at hu; exact hu.bool_inv
      cases p with
      | true => exact ⟨_, (s_pick ho true hh).to, Or.inr (e.1 rfl)⟩
      | false => exact ⟨_, (s_pick ho false hh).to, Or.inr (e.2 rfl)⟩
    · exact e.elim
  · rename_i op t y z u ho
    unfold binK at e
    split at e
    · rename_i k a hy
      split at e
      · rename_i k' b hz
        cases hs : isSh op with
        | true => rw [hs] at e; exact lift (shK_ok ho hy hz e)
        | false =>
          rw [hs] at e
          cases hk : keq k k' with
          | true =>
            rw [hk] at e
            have : k = k' := of_decide_eq_true hk
            subst this
            exact lift (intK_ok ho hy hz e)
          | false => rw [hk] at e; exact e.elim
      · exact e.elim
    · rename_i a hy
      split at e
      · rename_i b hz; exact lift (strK_ok ho hy hz e)
      · exact e.elim
    · unfold cmpK at e
      cases hc : isCmp op with
      | true =>
        rw [hc] at e
        obtain ⟨p, h1, h2, h3⟩ := e
        cases p with
        | true => exact ⟨_, h1.lit, Or.inr (h2 rfl)⟩
        | false => exact ⟨_, h1.lit, Or.inr (h3 rfl)⟩
      | false => rw [hc] at e; exact anyL e
  · rename_i t x i ho
    split at e
    · split at e
      · rename_i x hx
        rw [fR_eq] at e
        exact ⟨x, (s_indA ho hx).to, Or.inl e⟩
      · exact orK_ok (fun R hR r => lift (ixK_ok ho hR r)) anyL e
    · exact orK_ok (fun R hR r => lift (ixK_ok ho hR r)) (orK_ok (fun R hR r => lift (ixoK_ok ho hR r)) anyL) e
  · rename_i t x i ho
    exact orK_ok (fun R hR r => lift (sixK_ok ho hR r)) anyL e
  · rename_i t x l hi m ho
    split at e
    · exact orK_ok (fun R hR r => lift (slcK_ok ho hR r)) anyL e
    · exact anyL e
  · rename_i t x ho
    split at e
    · rename_i x hx
      rw [fR_eq] at e
      exact ⟨x, (s_load ho (litO_some hx)).to, Or.inl e⟩
    · refine orK_ok (fun R hR r => ?_) (orK_ok (fun R hR r => ?_) anyL) e
      · obtain ⟨v, h1, h2⟩ := ldK_ok ho hR r
        rw [fV_eq] at h2
        exact ⟨_, h1, Or.inr h2⟩
      · obtain ⟨x, h1, h2⟩ := ldoK_ok ho hR r
        exact ⟨x, h1.to, Or.inr h2⟩
  · rename_i t x y ho
    split at e
    · rename_i x hx
      rw [fR_eq] at e
      exact ⟨x, (s_store ho nn (litO_some hx)).to, Or.inl e⟩
    · refine orK_ok (fun R hR r => ?_) anyL e
      exact cr (stoK_ok ho nn hR r)
  · rename_i t x ho
    split at e
    · rename_i x hx
      rw [fR_eq] at e
      exact ⟨x, (s_box ho nn (orB_some hx)).to, Or.inl e⟩
    · exact orK_ok (fun R hR r => cr (boxK_ok nn ho hR r)) anyL e
  · rename_i op t x ho
    split at e
    · rename_i x hx; exact ⟨x, (s_not ho hx).to, Or.inl e⟩
    · exact orK_ok (fun R hR r => lift (unK_ok ho hR r)) anyL e
  · rename_i s d x ho
    cases hs : (P.underlying s).isSome with
    | false => rw [hs] at e; exact e.elim
    | true => rw [hs] at e; exact orK_ok (fun R hR r => lift (cvK_ok ho hs hR r)) anyL e
  · rename_i c ho
    obtain ⟨cal, xs, ts⟩ := c
    simp only at e
    split at e
    · split at e
      · exact orK_ok (fun R hR r => lift (lenK_ok ho hR r)) anyL e
      · exact orK_ok (fun R hR r => cr (appK_ok nn ho hR r)) anyL e
      · exact anyL e
    · exact anyL e
  · split at e
    · rename_i x hx
      rw [fR_eq] at e
      exact ⟨x, (s_op nn hx).to, Or.inl e⟩
    · exact anyL e
/-- Is an operation wanted? -/
def wantK (fr : FT) (ops : Array Oper) (g : Option (Nat × Bool)) (B C : Bool → Prop) : Prop := match g with
  | none => B true
  | some (j, w) => match (ops[j]?).bind (·.dst) with
    | some t => match fget fr t with
      | .complex _ re _ => B (Nat.beq re 1 == w)
      | .bool c => (c = true → C (true == w)) ∧ (c = false → C (false == w))
      | .tuple _ => B false
      | _ => False
    | none => False
theorem wantK_ok {fr : FT} {ops : Array Oper} {g : Option (Nat × Bool)} {B C : Bool → Prop} (e : wantK fr ops g B C) : ∃ b, wantP fr ops g b ∧ (B b ∨ C b) := by
  unfold wantK at e
  unfold wantP
  split at e
  · exact ⟨true, rfl, Or.inl e⟩
  · split at e
    · rename_i t ht
      simp only [ht]
      split at e
      · rename_i hv; simp only [hv]; exact ⟨_, rfl, Or.inl e⟩
      · rename_i c hv; simp only [hv]
        cases c with
        | true => exact ⟨_, rfl, Or.inr (e.1 rfl)⟩
        | false => exact ⟨_, rfl, Or.inr (e.2 rfl)⟩
      · rename_i hv; simp only [hv]; exact ⟨_, rfl, Or.inl e⟩
      · exact e.elim
    · exact e.elim
/-- What is to be run: a region's operations that are left, and behind it codes and ends of blocks. -/
structure It where
  c : Code
  b : Option Nat
structure Cf where
  ops : Array Oper
  rest : List Oper
  draw : Bool
  s : RL
  X : World
  stk : List It
def co (c : Code) : It := ⟨c, none⟩
def bl (i : Nat) : It := ⟨.skip, some i⟩
/-- Codes alone. -/
def cf (s : St) (l : List It) : Cf := match s with
  | ⟨f, h, n, X⟩ => ⟨#[], [], false, ⟨f, h, n, 0, 0, []⟩, X, l⟩
def hasL : Code → Bool
  | .loop _ => true
  | .scope _ => true
  | .rangeFunc _ _ _ _ => true
  | .seq a b => hasL a || hasL b
  | .block _ c => hasL c
  | .cond _ x y => hasL x || hasL y
  | _ => false
/-- An exit that is no normal one goes out. -/
def exitK (P : Cf → Prop) (C : Exit → St → Prop) (e : Exit) (s : St) : List It → Prop
  | [] => C e s
  | i :: l => match i.b with
    | none => exitK P C e s l
    | some id => match e with
      | .exit j => bif Nat.beq j id then P (cf s l) else exitK P C e s l
      | e => exitK P C e s l
def outK (P : Cf → Prop) (C : Exit → St → Prop) (l : List It) (e : Exit) (s : St) : Prop := match e with
  | .normal => P (cf s l)
  | e => exitK P C e s l
/-- One step: what needs no word goes on by B, all else by R. -/
def oneK (P : Program) (w0 : B0) (C : Exit → St → Prop) (B R : Cf → Prop) (c : Cf) : Prop := match c with
  | ⟨ops, rest, draw, s, X, stk⟩ => match s with
    | ⟨f, h, n, r, w, l⟩ => match rest with
      | o :: rest => wantK f ops o.guard (fun b => bif b then
            stepK w0 X P o f h n (fun x => match x with
                | ⟨v, h', n', r', w'⟩ => putK f o.dst v fun f => B ⟨ops, rest, draw, ⟨f, h', n', Nat.lor r r', Nat.lor w w', (r', w') :: l⟩, X, stk⟩)
              (fun x => match x with
                | ⟨v, h', n', r', w'⟩ => putK f o.dst v fun f => R ⟨ops, rest, draw, ⟨f, h', n', Nat.lor r r', Nat.lor w w', (r', w') :: l⟩, X, stk⟩)
          else putK f o.dst undef fun f => B ⟨ops, rest, draw, ⟨f, h, n, r, w, (0, 0) :: l⟩, X, stk⟩)
        (fun b => bif b then
            stepK w0 X P o f h n (fun x => match x with
                | ⟨v, h', n', r', w'⟩ => putK f o.dst v fun f => R ⟨ops, rest, draw, ⟨f, h', n', Nat.lor r r', Nat.lor w w', (r', w') :: l⟩, X, stk⟩)
              (fun x => match x with
                | ⟨v, h', n', r', w'⟩ => putK f o.dst v fun f => R ⟨ops, rest, draw, ⟨f, h', n', Nat.lor r r', Nat.lor w w', (r', w') :: l⟩, X, stk⟩)
          else putK f o.dst undef fun f => R ⟨ops, rest, draw, ⟨f, h, n, r, w, (0, 0) :: l⟩, X, stk⟩)
      | [] => bif draw then ((drawOk ops && drawn (bef ops) ops.size l) = true ∧ R ⟨#[], [], false, ⟨f, h, n, 0, 0, []⟩, X, stk⟩) else match stk with
        | [] => C .normal ⟨f, h, n, X⟩
        | i :: stk => match i with
          | ⟨_, some _⟩ => B ⟨#[], [], false, ⟨f, h, n, 0, 0, []⟩, X, stk⟩
          | ⟨c, none⟩ => match c with
            | .skip => B ⟨#[], [], false, ⟨f, h, n, 0, 0, []⟩, X, stk⟩
            | .label _ => B ⟨#[], [], false, ⟨f, h, n, 0, 0, []⟩, X, stk⟩
            | .ret => exitK B C .ret ⟨f, h, n, X⟩ stk
            | .exit i => exitK B C (.exit i) ⟨f, h, n, X⟩ stk
            | .goto i => exitK B C (.goto i) ⟨f, h, n, X⟩ stk
            | .seq a b => bif hasL a then B ⟨#[], [], false, ⟨f, h, n, 0, 0, []⟩, X, co a :: co b :: stk⟩ else B ⟨#[], [], false, ⟨f, h, n, 0, 0, []⟩, X, co a :: co b :: stk⟩
            | .cond c x y => match evo f c with
              | .complex _ re _ => bif Nat.beq re 1 then B ⟨#[], [], false, ⟨f, h, n, 0, 0, []⟩, X, co x :: stk⟩ else B ⟨#[], [], false, ⟨f, h, n, 0, 0, []⟩, X, co y :: stk⟩
              | .bool p => (p = true → R ⟨#[], [], false, ⟨f, h, n, 0, 0, []⟩, X, co x :: stk⟩) ∧ (p = false → R ⟨#[], [], false, ⟨f, h, n, 0, 0, []⟩, X, co y :: stk⟩)
              | _ => False
            | .block id c => B ⟨#[], [], false, ⟨f, h, n, 0, 0, []⟩, X, co c :: bl id :: stk⟩
            | .region _ ops draw => B ⟨ops, ops.toList, draw, ⟨f, h, n, 0, 0, []⟩, X, stk⟩
            | c => WC P w0 c ⟨f, h, n, X⟩ (outK R C stk)
def adv (P : Program) (w0 : B0) (C : Exit → St → Prop) (R : Cf → Prop) : Nat → Cf → Prop
  | 0, c => R c
  | m + 1, c => oneK P w0 C (adv P w0 C R m) R c
/-- What is said of what is to be run. -/
def RnE (P : Program) (w0 : B0) (C : Exit → St → Prop) : List It → Exit → St → Prop
  | [], e, s => C e s
  | i :: l, e, s => match i.b with
    | some id => RnE P w0 C l (outE id e) s
    | none => match e with
      | .normal => WC P w0 i.c s (RnE P w0 C l)
      | e => RnE P w0 C l e s
def Rn (P : Program) (w0 : B0) (C : Exit → St → Prop) (c : Cf) : Prop := (∀ i, c.s.n ≤ i → hget c.s.h i = none) →
  ∃ s', EvL (Am w0 c.X) P c.ops c.rest c.s s' ∧ (c.draw = true → (drawOk c.ops && drawn (bef c.ops) c.ops.size s'.l) = true) ∧ RnE P w0 C c.stk .normal ⟨s'.f, s'.h, s'.n, c.X⟩
section
variable {P : Program} {w0 : B0} {C : Exit → St → Prop}
theorem Rl.step {s : St} {k k' : K} {W W' : World} {a a' : Act} {f' : FT} {h' : HT} {n' r w : Nat} (R : Rl w0 s k W a) (ss : Ss s.h s.n h' n' r w) (hd : Sd s.h s.n h' n' r w k W k' W') (hf : FR k' f' a') : Rl w0 ⟨f', h', n', s.X⟩ k' W' a' := by
  refine ⟨hf, ?_, ss.nn R.nn, fun i hi => ?_, Am.stable w0 s.X _ _ _ _ _ _ _ _ _ _ R.am hd⟩
  · have := Sd.next (x := ones n') ss hd R.nn (R.hr.all R.nn _)
    exact this.sub fun i hi => tb_or.2 (Or.inr hi)
  · rw [hd.dom i (Or.inr hi)]; exact R.nk i (Nat.le_trans ss.le hi)
theorem cf_sem {s : St} {l : List It} (nn : ∀ i, s.n ≤ i → hget s.h i = none) (h : Rn P w0 C (cf s l)) : RnE P w0 C l .normal s := by
  obtain ⟨f, hh, n, X⟩ := s
  obtain ⟨s', h1, _, h3⟩ := h nn
  cases h1
  exact h3
theorem exitK_ok {B : Cf → Prop} (hB : ∀ c, B c → Rn P w0 C c) {s : St} (nn : ∀ i, s.n ≤ i → hget s.h i = none) {e : Exit} (he : e ≠ .normal) : ∀ l, exitK B C e s l → RnE P w0 C l e s
  | [], x => x
  | i :: l, x => by
    simp only [exitK] at x
    simp only [RnE]
    split at x
    · rename_i hb
      rw [hb]
      have := exitK_ok hB nn he l x
      cases e with
      | normal => exact absurd rfl he
      | _ => exact this
    · rename_i id hb
      rw [hb]
      split at x
      · rename_i j
        simp only [outE]
        cases hj : Nat.beq j id with
        | true => rw [hj] at x; exact cf_sem nn (hB _ x)
        | false => rw [hj] at x; exact exitK_ok hB nn he l x
      · have := exitK_ok hB nn he l x
        cases e with
        | normal => exact absurd rfl he
        | exit j => rename_i hne; exact absurd rfl (hne j)
        | _ => exact this
theorem outK_ok {R : Cf → Prop} (hR : ∀ c, R c → Rn P w0 C c) {l : List It} {e : Exit} {s : St} (nn : ∀ i, s.n ≤ i → hget s.h i = none) (h : outK R C l e s) : RnE P w0 C l e s := by
  cases e with
  | normal => exact cf_sem nn (hR _ h)
  | _ => exact exitK_ok hR nn (by simp) l h
theorem oneK_ok (hmo : P.follows .mixedOrders = true) {B R : Cf → Prop} (hB : ∀ c, B c → Rn P w0 C c) (hR : ∀ c, R c → Rn P w0 C c) (c : Cf) (e : oneK P w0 C B R c) : Rn P w0 C c := by
  obtain ⟨ops, rest, draw, ⟨f, h, n, r, w, l⟩, X, stk⟩ := c
  intro nn
  cases rest with
  | cons o rest =>
    simp only [oneK, putK_eq] at e
    obtain ⟨b, hb, e⟩ := wantK_ok e
    cases b with
    | true =>
      have key : ∃ x, Oa (Am w0 X) P o f h n x ∧ Rn P w0 C ⟨ops, rest, draw, ⟨put f o.dst x.v, x.h, x.n, Nat.lor r x.r, Nat.lor w x.w, (x.r, x.w) :: l⟩, X, stk⟩ := by
        rcases e with e | e
        · simp only [cond_true] at e
          obtain ⟨x, hx, e⟩ := stepK_ok nn e
          exact ⟨x, hx, e.elim (hB _) (hR _)⟩
        · simp only [cond_true] at e
          obtain ⟨x, hx, e⟩ := stepK_ok nn e
          exact ⟨x, hx, e.elim (hR _) (hR _)⟩
      obtain ⟨x, hx, hs⟩ := key
      obtain ⟨s', h1, h2, h4⟩ := hs (hx.ss.nn nn)
      exact ⟨s', ⟨_, Or.inl ⟨hb, x, hx, rfl⟩, h1⟩, h2, h4⟩
    | false =>
      have key : Rn P w0 C ⟨ops, rest, draw, ⟨put f o.dst undef, h, n, r, w, (0, 0) :: l⟩, X, stk⟩ := by
        rcases e with e | e
        · exact hB _ (by simpa only [cond_false] using e)
        · exact hR _ (by simpa only [cond_false] using e)
      obtain ⟨s', h1, h2, h4⟩ := key nn
      exact ⟨s', ⟨_, Or.inr ⟨hb, rfl⟩, h1⟩, h2, h4⟩
  | nil =>
    have sem0 : ∀ stk, Rn P w0 C ⟨#[], [], false, ⟨f, h, n, 0, 0, []⟩, X, stk⟩ → RnE P w0 C stk .normal ⟨f, h, n, X⟩ := fun stk hs => by
      obtain ⟨s', h1, _, h3⟩ := hs nn
      cases h1
      exact h3
    cases draw with
    | true =>
      obtain ⟨hd, e⟩ : (drawOk ops && drawn (bef ops) ops.size l) = true ∧ R ⟨#[], [], false, ⟨f, h, n, 0, 0, []⟩, X, stk⟩ := e
      exact ⟨_, rfl, fun _ => hd, sem0 _ (hR _ e)⟩
    | false =>
      refine ⟨_, rfl, fun h => (by cases h), ?_⟩
      cases stk with
      | nil => exact e
      | cons i stk =>
        obtain ⟨c, ib⟩ := i
        cases ib with
        | some id => exact sem0 stk (hB _ e)
        | none =>
          show WC P w0 c ⟨f, h, n, X⟩ (RnE P w0 C stk)
          cases c with
          | skip => exact fun Q k W a Rl' hK => wp_skip (hK _ _ _ _ _ Rl' (sem0 _ (hB _ e)))
          | label _ => exact fun Q k W a Rl' hK => wp_label (hK _ _ _ _ _ Rl' (sem0 _ (hB _ e)))
          | ret => exact fun Q k W a Rl' hK => wp_ret (hK _ _ _ _ _ Rl' (exitK_ok hB nn (by simp) _ e))
          | exit _ => exact fun Q k W a Rl' hK => wp_exit (hK _ _ _ _ _ Rl' (exitK_ok hB nn (by simp) _ e))
          | goto _ => exact fun Q k W a Rl' hK => wp_goto (hK _ _ _ _ _ Rl' (exitK_ok hB nn (by simp) _ e))
          | seq x y =>
            have e : B ⟨#[], [], false, ⟨f, h, n, 0, 0, []⟩, X, co x :: co y :: stk⟩ := by
              have e : bif hasL x then B ⟨#[], [], false, ⟨f, h, n, 0, 0, []⟩, X, co x :: co y :: stk⟩ else B ⟨#[], [], false, ⟨f, h, n, 0, 0, []⟩, X, co x :: co y :: stk⟩ := e
              cases hb : hasL x <;> rw [hb] at e <;> exact e
            have hs : WC P w0 x ⟨f, h, n, X⟩ (RnE P w0 C (co y :: stk)) := sem0 _ (hB _ e)
            intro Q k W a Rl' hK
            refine wp_seq (hs _ k W a Rl' fun e' s' k' W' a' R' hC => ?_)
            cases e' with
            | normal => exact (show WC P w0 y s' (RnE P w0 C stk) from hC) Q k' W' a' R' hK
            | _ => exact hK _ s' k' W' a' R' hC
          | cond cc x y =>
            intro Q k W a Rl' hK
            have hc := Rl'.fr.ev cc
            simp only [oneK, cond_false] at e
            split at e
            · rename_i re im hv
              rw [hv] at hc
              have h1 := hc.lit_inv
              cases hb : Nat.beq re 1 with
              | true => rw [hb] at e h1; exact wp_cond_true h1 ((show WC P w0 x _ (RnE P w0 C stk) from sem0 _ (hB _ e)) Q k W a Rl' hK)
              | false => rw [hb] at e h1; exact wp_cond_false h1 ((show WC P w0 y _ (RnE P w0 C stk) from sem0 _ (hB _ e)) Q k W a Rl' hK)
            · rename_i p hv
              rw [hv] at hc
              have h1 := hc.bool_inv
              cases p with
              | true => exact wp_cond_true h1 ((show WC P w0 x _ (RnE P w0 C stk) from sem0 _ (hR _ (e.1 rfl))) Q k W a Rl' hK)
              | false => exact wp_cond_false h1 ((show WC P w0 y _ (RnE P w0 C stk) from sem0 _ (hR _ (e.2 rfl))) Q k W a Rl' hK)
            · exact e.elim
          | block id c =>
            have hs : WC P w0 c ⟨f, h, n, X⟩ (RnE P w0 C (bl id :: stk)) := sem0 _ (hB _ e)
            intro Q k W a Rl' hK
            refine wp_block (hs _ k W a Rl' fun e' s' k' W' a' R' hC => ?_)
            have hC : RnE P w0 C stk (outE id e') s' := hC
            have := hK _ s' k' W' a' R' hC
            cases e' with
            | exit i =>
              show if i = id then Q .normal a' W' else Q (.exit i) a' W'
              by_cases hid : i = id
              · have hb : Nat.beq i id = true := by rw [Nat.beq_eq]; exact hid
                simp only [outE, hb, cond_true] at this
                rw [if_pos hid]; exact this
              · have hb : Nat.beq i id = false := by rw [← Bool.not_eq_true, Nat.beq_eq]; exact hid
                simp only [outE, hb, cond_false] at this
                rw [if_neg hid]; exact this
            | _ => exact this
          | region id ops draw =>
            intro Q k W a Rl' hK
            obtain ⟨s', hs, hd, e⟩ := hB _ (show B ⟨ops, ops.toList, draw, ⟨f, h, n, 0, 0, []⟩, X, stk⟩ from e) nn
            cases draw with
            | false =>
              obtain ⟨r, w, h1, h2, ss, ok⟩ := list_ok (Am.stable w0 X) ops.toList ⟨f, h, n, 0, 0, []⟩ s' nn hs
              exact wp_region_list (ok k W a Q Rl'.am Rl'.fr (Rl'.hr.all Rl'.nn _) (fun i h1 _ => Rl'.nk i h1) fun k' W' a' hd hf => hK _ _ k' W' a' (Rl'.step ss hd hf) e)
            | true =>
              have d0 := hd rfl
              rw [Bool.and_eq_true] at d0
              obtain ⟨ss, ok⟩ := draw_ok (s := ⟨f, h, n, 0, 0, []⟩) (Am.stable w0 X) Am.drew hmo nn rfl rfl rfl hs d0.1 d0.2
              exact ok k W a Q id Rl'.am Rl'.fr (Rl'.hr.all Rl'.nn _) (fun i h1 _ => Rl'.nk i h1) fun k' W' a' hd hf => hK _ _ k' W' a' (Rl'.step ss hd hf) e
          | loop c => exact fun Q k W a Rl' hK => (show WC P w0 (.loop c) ⟨f, h, n, X⟩ (outK R C stk) from e) Q k W a Rl' fun e' s' k' W' a' R' hC => hK e' s' k' W' a' R' (outK_ok hR R'.nn hC)
          | scope c => exact fun Q k W a Rl' hK => (show WC P w0 (.scope c) ⟨f, h, n, X⟩ (outK R C stk) from e) Q k W a Rl' fun e' s' k' W' a' R' hC => hK e' s' k' W' a' R' (outK_ok hR R'.nn hC)
          | rangeFunc a1 a2 a3 a4 => exact fun Q k W a Rl' hK => (show WC P w0 (.rangeFunc a1 a2 a3 a4) ⟨f, h, n, X⟩ (outK R C stk) from e) Q k W a Rl' fun e' s' k' W' a' R' hC => hK e' s' k' W' a' R' (outK_ok hR R'.nn hC)
          | refuse y => exact fun Q k W a Rl' hK => (show WC P w0 (.refuse y) ⟨f, h, n, X⟩ (outK R C stk) from e) Q k W a Rl' fun e' s' k' W' a' R' hC => hK e' s' k' W' a' R' (outK_ok hR R'.nn hC)
theorem adv_ok (hmo : P.follows .mixedOrders = true) : ∀ (m : Nat) (c : Cf), adv P w0 C (Rn P w0 C) m c → Rn P w0 C c
  | 0, _, e => e
  | m + 1, c, e => oneK_ok hmo (adv_ok hmo m) (fun _ h => h) c e
/-- Go on. -/
theorem st (hmo : P.follows .mixedOrders = true) {c : Cf} (h : adv P w0 C (Rn P w0 C) 400 c) : Rn P w0 C c := adv_ok hmo 400 c h
/-- Code from its start. -/
theorem run_ok {c : Code} {s : St} (h : Rn P w0 C (cf s [co c])) : WC P w0 c s C := fun Q k W a R hK => by
  have h1 : WC P w0 c s (RnE P w0 C []) := cf_sem R.nn h
  exact h1 Q k W a R fun e s' k' W' a' R' hC => hK e s' k' W' a' R' hC
end
end S
end Go.Proofs.YtfmfeipeeedfpaaGreat
namespace Go.Proofs.YtfmfeipeeedfpaaGreat
namespace S
open Go.CheckFast (force force_eq)
open Go.RowKit (Below)
section
variable {P : Program} {w0 : B0}
/-! Results. -/
def resK (P : Program) (f : FT) (h : HT) : List ResultVar → (List Value → Prop) → Prop
  | [], C => C []
  | .tmp t :: l, C => resK P f h l fun vs => C (fget f t :: vs)
  | .cell a t :: l, C => match oLoad P t (.tmp a) f h 0 with
    | some z => resK P f h l fun vs => C (z.v :: vs)
    | none => False
def resF (tmps : Array Value) (x : ResultVar) : Sem Value := match x with
  | .tmp t => pure (tmps.getD t undef)
  | .cell b t => do loadVar t (← asAddr (tmps.getD b undef))
theorem res_ok {k : K} {f : FT} {a : Act} {h : HT} {W : World} (hf : FR k f a) (H : ∀ m, HR k h W m) : ∀ (l : List ResultVar) (C : List Value → Prop), resK P f h l C → ∃ vs us, C vs ∧ LR (VX k) vs us ∧ (l.mapM (resF a.tmps)).run P W = .ok us W
  | [], C, e => ⟨[], [], e, rfl, rfl⟩
  | .tmp t :: l, C, e => by
    obtain ⟨vs, us, h1, h2, h3⟩ := res_ok hf H l _ e
    exact ⟨_, _, h1, ⟨_, us, rfl, hf.get t, h2⟩, by rw [List.mapM_cons]; simp only [resF, Sem.run_bind, Sem.run_pure, Result.andThen_ok, h3]⟩
  | .cell b t :: l, C, e => by
    simp only [resK] at e
    split at e
    · rename_i z h4
      obtain ⟨vs, us, h1, h2, h3⟩ := res_ok hf H l _ e
      obtain ⟨p, q, hv, h5⟩ := onP_some h4
      obtain ⟨_, _, _, _, h6⟩ := ld_ok h5
      have h7 := hf.get b
      have hv' : fget f b = .pointer (some ⟨p, q, none⟩) := hv
      rw [hv'] at h7
      obtain ⟨_, b', zz, hk, h8⟩ := h7.ptr_inv
      obtain ⟨u, h9, h10⟩ := h6 k W b' zz (H _) hk
      refine ⟨_, u :: us, h1, ⟨u, us, rfl, h9, h2⟩, ?_⟩
      rw [List.mapM_cons]
      simp only [resF, Sem.run_bind, Sem.run_pure, Result.andThen_ok, h8, asAddr, h10, h3]
    · exact e.elim
theorem results_run {k : K} {f : FT} {a : Act} {h : HT} {W : World} {fn : Func} (hf : FR k f a) (H : ∀ m, HR k h W m) {C : List Value → Prop} (e : resK P f h fn.results.toList C) : ∃ vs u, C vs ∧ VX k (single vs) u ∧ (results fn a.tmps).run P W = .ok u W := by
  obtain ⟨vs, us, h0, h1, h2⟩ := res_ok (P := P) hf H _ _ e
  refine ⟨vs, if us.length = 1 then us.headD undef else .tuple us.toArray, h0, ?_, ?_⟩
  · cases vs with
    | nil => rw [h1]; exact VX.tuple (cs := []) (us := []) rfl
    | cons v vs =>
      obtain ⟨u, us', rfl, r1, r2⟩ := h1
      cases vs with
      | nil => rw [r2]; exact r1
      | cons v' vs' =>
        have hl := r2.len
        rw [if_neg (by intro h0; simp only [List.length_cons] at h0 hl; omega)]
        exact VX.tuple ⟨u, us', rfl, r1, r2⟩
  · have e1 : results fn a.tmps = (do
        let vs ← fn.results.mapM (resF a.tmps)
        pure (if h : vs.size = 1 then vs[0] else .tuple vs)) := rfl
    rw [e1, Array.mapM_eq_mapM_toList]
    simp only [map_eq_pure_bind, Sem.run_bind, h2, Result.andThen_ok, Sem.run_pure]
    congr 1
    by_cases hl : us.length = 1
    · rw [if_pos hl, dif_pos (by simpa using hl)]
      cases us with
      | nil => cases hl
      | cons u us => simp
    · rw [if_neg hl, dif_neg (by simpa using hl)]
/-! Entering a function. -/
def argl : Nat → List Value → List (Nat × Value)
  | _, [] => []
  | i, v :: r => (i, v) :: argl (i + 1) r
theorem look_argl : ∀ (vs : List Value) (i t : Nat), look (argl i vs) t = if i ≤ t then (vs[t - i]?).getD unk else unk
  | [], i, t => by simp [argl, look]
  | v :: r, i, t => by
    have ih := look_argl r (i + 1) t
    by_cases e : i = t
    · subst e; simp [argl, look]
    · have hb := beq_f e
      simp only [argl, look, hb, cond_false, ih]
      by_cases h : i + 1 ≤ t
      · rw [if_pos h, if_pos (by omega), show t - i = (t - (i + 1)) + 1 by omega, List.getElem?_cons_succ]
      · rw [if_neg h, if_neg (by omega)]
theorem args_fr {k : K} {vs us : List Value} {m : Nat} (h : LR (VX k) vs us) (hl : vs.length ≤ m) : FR k ⟨m, argl 0 vs⟩ { tmps := us.toArray ++ Array.replicate (m - us.toArray.size) undef, defers := [] } := by
  have hlen := h.len
  refine ⟨by simp; omega, fun t => ?_, rfl⟩
  show VX k (look (argl 0 vs) t) _
  rw [look_argl, if_pos (Nat.zero_le _), Nat.sub_zero]
  have : (us.toArray ++ Array.replicate (m - us.toArray.size) undef).getD t undef = (us[t]?).getD undef := by
    rw [Array.getD_eq_getD_getElem?]
    by_cases ht : t < us.length
    · rw [Array.getElem?_append_left (by simpa using ht)]; simp
    · rw [Array.getElem?_append_right (by simpa using ht)]
      rw [List.getElem?_eq_none (by omega)]
      by_cases h2 : t - us.toArray.size < m - us.toArray.size
      · rw [Array.getElem?_replicate, if_pos h2]; rfl
      · rw [Array.getElem?_replicate, if_neg h2]
  rw [this]
  cases hv : vs[t]? with
  | none => exact unk_vx
  | some v => obtain ⟨u, h1, h2⟩ := h.get hv; rw [h1]; exact h2
end
end S
end Go.Proofs.YtfmfeipeeedfpaaGreat
namespace Go.Proofs.YtfmfeipeeedfpaaGreat
namespace S
open Go.CheckFast (force force_eq)
open Go.RowKit (Below)
/-- Below the old size all is as it was. -/
structure Mb (w w' : World) : Prop extends Below w.heap.size w w' where
  dr : w.drawn ≤ w'.drawn
/-- An order is of no matter. -/
theorem dk {b : Bool} (h : b = true := by kernel_rfl) : b = true := h
section
variable {P : Program} {w0 : B0}
/-- Nothing keeps its number. -/
abbrev bz (w : World) : B0 := ⟨w, 0, fun _ => (0, 0)⟩
/-- A result is what it must be. -/
def leafP (v u : Value) : Prop := match v with
  | .complex _ re _ => bif Nat.beq re 1 then u = .bool true else u = .bool false
  | .int k a => u = .int k a
  | .string s => u = .string s
  | .bool b => u = .bool b
  | .iface _ x => u = x
  | .agg cs => bif cs.toList.all pur1 then u = .agg (cs.toList.map den1).toArray else False
  | .tuple cs => bif cs.toList.all pur2 then u = .tuple (cs.toList.map den2).toArray else False
  | v => bif pur1 v then u = v else False
theorem leafP_ok {k : K} {v u x : Value} (h : leafP v x) (hv : VX k v u) : u = x := by
  cases v with
  | complex a re c =>
    rw [hv.lit_inv]
    simp only [leafP] at h
    cases hb : Nat.beq re 1 <;> rw [hb] at h <;> exact h.symm
  | int a b => rw [hv.int_inv]; exact h.symm
  | string s => rw [hv.str_inv]; exact h.symm
  | bool b => rw [hv.bool_inv]; exact h.symm
  | iface t y => rw [hv.raw_inv]; exact h.symm
  | agg cs =>
    simp only [leafP] at h
    cases hp : cs.toList.all pur1 with
    | false => rw [hp] at h; exact h.elim
    | true => rw [hp] at h; rw [pur2_eq hv hp]; exact h.symm
  | tuple cs =>
    simp only [leafP] at h
    cases hp : cs.toList.all pur2 with
    | false => rw [hp] at h; exact h.elim
    | true => rw [hp] at h; rw [pur_eq hv hp]; exact h.symm
  | float a b => exact absurd h (by simp [leafP, pur1])
  | chan a => exact absurd h (by simp [leafP, pur1])
  | func a b c => exact absurd h (by simp [leafP, pur1])
  | pointer a =>
    cases a with
    | none => rw [pur1_eq hv rfl]; exact h.symm
    | some a => exact absurd h (by simp [leafP, pur1])
  | slice a b c =>
    cases a with
    | none => rw [pur1_eq hv rfl]; exact h.symm
    | some a => exact absurd h (by simp [leafP, pur1])
  | map a =>
    cases a with
    | none => rw [pur1_eq hv rfl]; exact h.symm
    | some a => exact absurd h (by simp [leafP, pur1])
  | nilFunc => rw [pur1_eq hv rfl]; exact h.symm
  | nilIface => rw [pur1_eq hv rfl]; exact h.symm
def retV (P : Program) (fn : Func) (v : Value) (e : Exit) (s : St) : Prop := match e with
  | .normal => resK P s.f s.h fn.results.toList fun vs => leafP (single vs) v
  | .ret => resK P s.f s.h fn.results.toList fun vs => leafP (single vs) v
  | _ => False
/-- A function that makes a value of values. -/
theorem fn_pure {w0 : World} {f : FuncId} {fn : Func} {c : Code} {v : Value} (vs : List Value) (hf : P.funcs[f]? = some fn) (hb : fn.body = some c) (hp : vs.all pur2 = true) (hm : Nat.ble vs.length fn.ntmps = true)
    (h : WC P (bz w0) c ⟨⟨fn.ntmps, argl 0 vs⟩, [], 0, w0⟩ (retV P fn v)) : Calls P f (vs.map den2).toArray w0 fun e W => e = .returned v ∧ Mb w0 W := by
  refine calls_of_wp hf hb ?_
  have hv : LR (VX fun _ => none) vs (vs.map den2) := LR.mk (p := pur2) (d := den2) (fun _ h => pur2_vx h) hp
  have R0 : Rl (bz w0) ⟨⟨fn.ntmps, argl 0 vs⟩, [], 0, w0⟩ (fun _ => none) w0 { tmps := (vs.map den2).toArray ++ Array.replicate (fn.ntmps - (vs.map den2).toArray.size) undef, defers := [] } :=
    ⟨args_fr hv (Nat.le_of_ble_eq_true hm), ⟨fun i hi => absurd (tb_ones.1 hi) (by simp), fun i j hi => absurd (tb_ones.1 hi) (by simp)⟩, fun i _ => by unfold hget; cases Nat.blt i 4096 <;> rfl, fun _ _ => rfl, ⟨Below.refl _ _, fun i b z h => (by cases h), fun b o h _ => h, fun i b z h => (by cases h), Nat.le_refl _, fun i hi => absurd hi (Nat.not_lt_zero i), Nat.le_refl _⟩⟩
  refine h _ _ _ _ R0 fun e s k W a Rs hC => ?_
  have key : resK P s.f s.h fn.results.toList (fun vs => leafP (single vs) v) → ∃ u, (results fn a.tmps).run P W = .ok u W ∧ (Ending.returned u = .returned v ∧ Mb w0 W) := fun hC => by
    obtain ⟨vs, u, h1, h2, h3⟩ := results_run Rs.fr (fun m => Rs.hr.all Rs.nn m) hC
    exact ⟨u, h3, by rw [leafP_ok h1 h2], Rs.am.old, Rs.am.dr⟩
  cases e with
  | normal => obtain ⟨u, h1, h2⟩ := key hC; exact ⟨Rs.fr.df, u, h1, h2⟩
  | ret => obtain ⟨u, h1, h2⟩ := key hC; exact ⟨Rs.fr.df, u, h1, h2⟩
  | _ => exact hC.elim
/-! Calls. -/
def callB (fn : Func) : Bool := fn.body.isSome && !(fn.name == "runtime.NumGoroutine")
theorem enter_ok {f : FuncId} {fn : Func} (hf : P.funcs[f]? = some fn) (hb : callB fn = true) (args : Array Value) (w : World) : (callFunc f args).run P w = .ok (.enter f args) w := by
  unfold callB at hb
  simp only [Bool.and_eq_true, Bool.not_eq_true'] at hb
  have h1 : fn.body.isNone = false := by cases h : fn.body <;> simp_all
  simp only [callFunc, Sem.run_bind, program, Sem.run, Result.andThen_ok, hf]
  rw [if_neg (by rw [hb.2]; simp), h1]
  simp
variable {X : World} {o : Oper} {fr : FT} {h : HT} {n : Nat}
/-- A call of values that comes to a value. -/
theorem r_call {t : Value} {f : FuncId} {fn : Func} {v : Value} {us : List Value} {cal : Callee} {xs : Array Operand} {ts : Array TypeId} (ho : o.op = .call { callee := cal, args := xs, argTypes := ts }) (hcal : cal = .value (.func f)) (hf : P.funcs[f]? = some fn)
    (hc : ∀ W, Mb w0.w W → (∀ a u, X.cell? a = some u → W.cell? a = some u) → Calls P f us.toArray W fun e W' => e = .returned v ∧ Mb W W')
    (hu : (evl fr xs.toList).map den2 = us := by rfl) (hv : den t = v := by rfl) (hb : callB fn = true := by rfl) (hp : (evl fr xs.toList).all pur2 = true := by rfl) (ht : pur t = true := by rfl) : Oa (Am w0 X) P o fr h n ⟨t, h, n, 0, 0⟩ := by
  subst hcal hu
  refine ⟨Ss.refl h n, fun k W a K' Q hA hop H hnew hk => ?_⟩
  have h8 := evl_rel (fr := fr) (k := k) (a := a) xs.toList (fun y hy => hop y (by rw [ho]; simp [Op.operands, Call.operands]; right; simpa using hy))
  have h9 := LR.map (p := pur2) (d := den2) (fun _ _ h => pur2_eq h) h8 hp
  have hrun : (execOp a.eval o).run P W = .ok (.enter f (xs.toList.map a.eval).toArray) W := by
    have : a.eval (.func f) = .func (.func f) #[] #[] := rfl
    simp only [execOp, ho, resolve, this, Deferred.ofValue, invoke, Sem.run_bind, Sem.run_pure, Result.andThen_ok, enter_ok hf hb]
    congr 2
    apply Array.ext'
    simp
  unfold Oper.wp
  rw [hrun, Oper.upon_enter, h9]
  refine (hc W ⟨hA.old, hA.dr⟩ (fun a u => hA.cell)).mono ?_
  rintro e W' ⟨rfl, hm⟩
  refine hk v W' k ⟨fun _ _ h => h, fun _ _ => rfl, HR.none.sub (fun i hi => (tb_or.1 hi).elim id id), fun b hb _ => hm.block b hb, fun _ _ _ h1 h2 => absurd h2 (by show ¬ _ < n; omega), fun _ _ h => h, hm.size, hm.os, ⟨hm.tape, hm.dr⟩, hm.output⟩ ?_
  rw [← hv]; exact pur_vx ht
/-! Slices of one's own as results. -/
/-! Loops. -/
/-- A value seen as another, own blocks under other numbers. -/
def ren (σ : List Nat) (k : K) : K := fun j => (σ[j]?).bind k
def fitV (σ : List Nat) (u v : Value) : Prop := ∀ k w, VX k u w → VX (ren σ k) v w
def fitF (σ : List Nat) (f : FT) : List (Nat × Value) → Prop
  | [] => True
  | x :: l => fitV σ (fget f x.1) x.2 ∧ fitF σ f l
def fitL (σ : List Nat) : List Value → List Value → Prop
  | [], l => l = []
  | u :: us, l => ∃ v vs, l = v :: vs ∧ fitV σ u v ∧ fitL σ us vs
def fitH (σ : List Nat) (h : HT) : HT → Prop
  | [] => True
  | x :: l => (match x.2 with
    | some cs => match σ[x.1]? with
      | some i => match hget h i with
        | some us => fitL σ us cs
        | none => False
      | none => False
    | none => True) ∧ fitH σ h l
def apartL : List Nat → Bool
  | [] => true
  | i :: l => bif l.any (Nat.beq i) then false else apartL l
/-- What can be seen of one world can be seen of another. -/
def Xf (s t : World) : Prop := t.heap.size ≤ s.heap.size ∧ ∀ (b : Nat) (o : Obj), t.heap[b]? = some o → o ≠ hole t → s.heap[b]? = some o ∧ o ≠ hole s
theorem xf {X : World} : Xf X X := ⟨Nat.le_refl _, fun _ _ h g => ⟨h, g⟩⟩
/-- The first ones keep their numbers. -/
def pfx (m : Nat) (σ : List Nat) : Bool := match m with
  | 0 => true
  | m + 1 => (match σ[m]? with
    | some i => Nat.beq i m
    | none => false) && pfx m σ
theorem pfx_at : ∀ {m : Nat} {σ : List Nat}, pfx m σ = true → ∀ i, i < m → σ[i]? = some i
  | 0, _, _, i, hi => absurd hi (Nat.not_lt_zero i)
  | m + 1, σ, h, i, hi => by
    simp only [pfx, Bool.and_eq_true] at h
    obtain ⟨h1, h2⟩ := h
    by_cases e : i = m
    · subst e
      split at h1
      · rename_i j hj; rw [hj, Nat.eq_of_beq_eq_true h1]
      · cases h1
    · exact pfx_at h2 i (by omega)
structure Fit (m0 : Nat) (s t : St) (σ : List Nat) : Prop where
  m : t.f.m = s.f.m
  f : fitF σ s.f t.f.l
  h : fitH σ s.h t.h
  X : Xf s.X t.X
  n : σ.length = t.n
  a : (apartL σ && pfx m0 σ) = true
theorem apartL_spec : ∀ {l : List Nat}, apartL l = true → ∀ (i j a : Nat), l[i]? = some a → l[j]? = some a → i = j
  | [], _, i, j, a, h, _ => by cases h
  | x :: l, hl, i, j, a, h1, h2 => by
    simp only [apartL] at hl
    obtain ⟨e1, e2⟩ : l.any (Nat.beq x) = false ∧ apartL l = true := by cases hx : l.any (Nat.beq x) <;> rw [hx] at hl <;> first | exact ⟨rfl, hl⟩ | cases hl
    have no : ∀ b, b ∈ l → x ≠ b := fun b hb e => by
      have := List.any_eq_false.1 e1 b hb
      exact this (by rw [Nat.beq_eq]; exact e)
    cases i with
    | zero =>
      simp at h1; subst h1
      cases j with
      | zero => rfl
      | succ j => exact absurd rfl (no _ (List.mem_of_getElem? (by simpa using h2)))
    | succ i =>
      cases j with
      | zero => simp at h2; subst h2; exact absurd rfl (no _ (List.mem_of_getElem? (by simpa using h1)))
      | succ j => have := apartL_spec e2 i j a (by simpa using h1) (by simpa using h2); omega
theorem ren_some {σ : List Nat} {j : Nat} {k : K} {p : Nat × Nat} (h : ren σ k j = some p) : ∃ i, σ[j]? = some i ∧ k i = some p := by
  unfold ren at h
  cases hi : σ[j]? with
  | none => rw [hi] at h; cases h
  | some i => rw [hi] at h; exact ⟨i, rfl, h⟩
theorem ren_at {σ : List Nat} {j i : Nat} {k : K} (h : σ[j]? = some i) : ren σ k j = k i := by unfold ren; rw [h]; rfl
theorem fitF_get {σ : List Nat} {f : FT} {k : K} {a : Act} (hf : ∀ t, VX k (fget f t) (a.tmps.getD t undef)) : ∀ (l : List (Nat × Value)), fitF σ f l → ∀ t, VX (ren σ k) (look l t) (a.tmps.getD t undef)
  | [], _, _ => unk_vx
  | x :: l, h, t => by
    simp only [look]
    by_cases e : x.1 = t
    · rw [show Nat.beq x.1 t = true by rw [Nat.beq_eq]; exact e]; subst e; exact h.1 k _ (hf x.1)
    · rw [beq_f e]; exact fitF_get hf l h.2 t
theorem fitL_rel {σ : List Nat} {k : K} : ∀ {us cs ws : List Value}, fitL σ us cs → LR (VX k) us ws → LR (VX (ren σ k)) cs ws
  | [], _, _, e, r => by rw [e]; exact r
  | u :: us, _, _, ⟨v, vs, e, h1, h2⟩, ⟨w, ws, e', r, q⟩ => by rw [e]; exact ⟨w, ws, e', h1 k w r, fitL_rel h2 q⟩
theorem fitH_get {σ : List Nat} {h : HT} : ∀ {l : HT}, fitH σ h l → ∀ {j : Nat} {cs : List Value}, hget l j = some cs → ∃ i us, σ[j]? = some i ∧ hget h i = some us ∧ fitL σ us cs
  | [], _, i, cs, e => by unfold hget at e; cases hb : Nat.blt i 4096 <;> rw [hb] at e <;> cases e
  | x :: l, hh, j, cs, e => by
    have hi := hget_lt e
    unfold hget at e
    rw [blt_t hi] at e
    simp only [cond_true, hlook] at e
    by_cases hx : x.1 = j
    · rw [show Nat.beq x.1 j = true by rw [Nat.beq_eq]; exact hx] at e
      simp only [cond_true] at e
      have h1 := hh.1
      rw [e, hx] at h1
      simp only at h1
      split at h1
      · rename_i i hi'
        split at h1
        · rename_i us hus; exact ⟨i, us, hi', hus, h1⟩
        · exact h1.elim
      · exact h1.elim
    · rw [beq_f hx] at e
      refine fitH_get hh.2 ?_
      unfold hget; rw [blt_t hi]; exact e
theorem Fit.rl {s t : St} {σ : List Nat} {k : K} {W : World} {a : Act} (F : Fit w0.m s t σ) (R : Rl w0 s k W a) : Rl w0 t (ren σ k) W a := by
  have rep : ∀ j, Rp (ren σ k) t.h W j := fun j cs hcs => by
    obtain ⟨i, us, h0, h1, h2⟩ := fitH_get F.h hcs
    exact ((R.hr.all R.nn (bit i)).rep i (tb_bit.2 rfl) us h1).mono (fun p hp => by rw [ren_at h0]; exact hp) (fun _ _ _ _ => rfl) (fun ws => fitL_rel h2)
  refine ⟨⟨F.m.trans R.fr.m, fun d => fitF_get R.fr.get _ F.f d, R.fr.df⟩, ⟨fun i _ => rep i, fun i j _ _ li lj hij b z b' z' ki kj => ?_⟩, fun j hj => ?_, fun j hj => ?_, ⟨R.am.old, fun i b z hk => ?_, fun b o h1 h2 => R.am.see b o (F.X.2 b o h1 h2).1 (F.X.2 b o h1 h2).2, fun i b z hk o ho => ?_, Nat.le_trans F.X.1 R.am.sz, fun i hi => by rw [ren_at (pfx_at (Bool.and_eq_true _ _ ▸ F.a).2 i hi)]; exact R.am.kp i hi, R.am.dr⟩⟩
  · obtain ⟨cs, hcs⟩ := li
    obtain ⟨cs', hcs'⟩ := lj
    obtain ⟨i0, us, h0, h1, _⟩ := fitH_get F.h hcs
    obtain ⟨j0, us', h0', h1', _⟩ := fitH_get F.h hcs'
    rw [ren_at h0] at ki
    rw [ren_at h0'] at kj
    have H := R.hr.all R.nn (Nat.lor (bit i0) (bit j0))
    exact H.inj i0 j0 (tb_or.2 (Or.inl (tb_bit.2 rfl))) (tb_or.2 (Or.inr (tb_bit.2 rfl))) ⟨us, h1⟩ ⟨us', h1'⟩ (fun e => hij (apartL_spec (Bool.and_eq_true _ _ ▸ F.a).1 i j i0 h0 (by rw [e]; exact h0'))) b z b' z' ki kj
  · cases e : hget t.h j with
    | none => rfl
    | some cs =>
      obtain ⟨i, _, h0, _⟩ := fitH_get F.h e
      have := (List.getElem?_eq_some_iff.1 h0).1
      have := F.n
      omega
  · unfold ren; rw [List.getElem?_eq_none (by rw [F.n]; exact hj)]; rfl
  · obtain ⟨i0, _, h2⟩ := ren_some hk; exact R.am.own i0 b z h2
  · obtain ⟨i0, _, h2⟩ := ren_some hk
    exact Classical.byContradiction fun hne => (F.X.2 b o ho hne).2 (R.am.out i0 b z h2 o (F.X.2 b o ho hne).1)
theorem fv {σ : List Nat} {u v : Value} (h : u = v := by rfl) (hp : pur2 v = true := by rfl) : fitV σ u v := fun k w hw => by
  subst h
  rw [pur2_eq hw hp]; exact pur2_vx hp
theorem fe {σ : List Nat} {k : IntKind} {a b : Int} (h : a = b := by omega) : fitV σ (.int k a) (.int k b) := fv (by rw [h])
theorem fl {σ : List Nat} {us cs : List Value} (h : us = cs) (hp : cs.all pur1 = true) : fitL σ us cs := by
  subst h
  induction us with
  | nil => rfl
  | cons u us ih =>
    simp only [List.all_cons, Bool.and_eq_true] at hp
    exact ⟨u, us, rfl, fun k w hw => by rw [pur1_eq hw hp.1]; exact pur1_vx hp.1, ih hp.2⟩
theorem flr {σ : List Nat} {us : List Value} {cs : List Value} (h : us = cs.map rel1) : fitL σ us (cs.map rel1) := fl h (by simp [pur_rel1])
/-- An own slice. -/
theorem fs {σ : List Nat} {i j q len es : Nat} (h : σ[j]? = some i := by rfl) : fitV σ (.slice (some ⟨i, q, none⟩) len es) (.slice (some ⟨j, q, none⟩) len es) := fun k w hw => by
  obtain ⟨h1, b, z, c, h2, h3⟩ := hw.slc_inv
  exact VX.of0 ⟨h1, b, z, c, by show ren σ k j = _; rw [ren_at h]; exact h2, h3⟩
/-- An own address. -/
theorem fp {σ : List Nat} {i j q : Nat} (h : σ[j]? = some i := by rfl) : fitV σ (.pointer (some ⟨i, q, none⟩)) (.pointer (some ⟨j, q, none⟩)) := fun k w hw => by
  obtain ⟨h1, b, z, h2, h3⟩ := hw.ptr_inv
  exact VX.of0 ⟨h1, b, z, by show ren σ k j = _; rw [ren_at h]; exact h2, h3⟩
/-- What is asked behind a round. -/
def loopK {α : Type} (m0 : Nat) (J : α → St) (pre : α → Prop) (μ : α → Nat) (a : α) (C : Exit → St → Prop) (e : Exit) (s : St) : Prop := match e with
  | .normal => ∃ a', pre a' ∧ μ a' < μ a ∧ ∃ σ, Fit m0 s (J a') σ
  | e => C e s
theorem w_loop {c : Code} {s : St} {C : Exit → St → Prop} {α : Type} (J : α → St) (pre : α → Prop) (μ : α → Nat) (a0 : α) (hp : pre a0) (σ : List Nat) (h0 : Fit w0.m s (J a0) σ) (hr : ∀ a, pre a → Rn P w0 (loopK w0.m J pre μ a C) (cf (J a) [co c])) : WC P w0 (.loop c) s C := by
  have key : ∀ (m : Nat) (a : α) (Q : Exit → Act → World → Prop) (k : K) (W : World) (act : Act), pre a → μ a ≤ m → Rl w0 (J a) k W act → (∀ e s' k' W' a', Rl w0 s' k' W' a' → C e s' → Q e a' W') → Code.rounds P c Q (m + 1) act W := by
    intro m
    induction m with
    | zero =>
      intro a Q k W act hpa hm R hQ
      refine run_ok (hr a hpa) _ _ _ _ R fun e s' k' W' a' R' hC => ?_
      cases e with
      | normal => obtain ⟨a', _, hlt, _⟩ := hC; omega
      | _ => exact hQ _ _ _ _ _ R' hC
    | succ m ih =>
      intro a Q k W act hpa hm R hQ
      refine run_ok (hr a hpa) _ _ _ _ R fun e s' k' W' a' R' hC => ?_
      cases e with
      | normal => obtain ⟨a2, hp2, hlt, σ2, hF⟩ := hC; exact ih a2 Q _ W' a' hp2 (by omega) (hF.rl R') hQ
      | _ => exact hQ _ _ _ _ _ R' hC
  intro Q k W act R hK
  exact wp_loop_rounds (μ a0 + 1) (key (μ a0) a0 Q _ W act hp (Nat.le_refl _) (h0.rl R) hK)
end
end S
end Go.Proofs.YtfmfeipeeedfpaaGreat
namespace Go.Proofs.YtfmfeipeeedfpaaGreat
namespace S
section
variable {P : Program} {w0 : B0} {X : World} {o : Oper} {fr : FT} {h : HT} {n : Nat}
theorem hr_mb {k : K} {W W' : World} {m : Nat} (H : HR k h W m) (hm : Mb W W') : HR k h W' m := ⟨fun i hi cs hc => by
  exact (H.rep i hi cs hc).mono (fun _ h => h) (fun b _ _ hb => hm.block b hb) (fun _ h => h), H.inj⟩
theorem run_call {a : Act} {f : FuncId} {fn : Func} {xs : Array Operand} {ts : Array TypeId} {W : World} (ho : o.op = .call { callee := .value (.func f), args := xs, argTypes := ts }) (hf : P.funcs[f]? = some fn) (hb : callB fn = true) : (execOp a.eval o).run P W = .ok (.enter f (xs.toList.map a.eval).toArray) W := by
  have : a.eval (.func f) = .func (.func f) #[] #[] := rfl
  simp only [execOp, ho, resolve, this, Deferred.ofValue, invoke, Sem.run_bind, Sem.run_pure, Result.andThen_ok, enter_ok hf hb]
  congr 2
  apply Array.ext'
  simp
theorem func_inv {k : K} {f : Fn} {u : Value} (h : VX k (.func f #[] #[]) u) : u = .func f #[] #[] := by
  obtain ⟨d, h⟩ := h
  cases d with
  | zero => exact (h : False).elim
  | succ d =>
    obtain ⟨a, c, rfl, h1, h2⟩ := h
    have e1 : a.toList = [] := h1
    have e2 : c.toList = [] := h2
    rw [Array.toList_eq_nil_iff] at e1 e2
    rw [e1, e2]
/-- A look into a map that came. -/
theorem r_look {t u m i : Value} {ty : TypeId} {x y : Operand} {ok : Bool} (ho : o.op = .lookup ty x y ok) (hr : ∀ W, (∀ (b : Nat) (o : Obj), X.heap[b]? = some o → o ≠ hole X → W.heap[b]? = some o) → (Instr.lookup ty m i ok).run P W = .ok u W)
    (hm : den2 (evo fr x) = m := by rfl) (hi : den2 (evo fr y) = i := by rfl) (hx : pur2 (evo fr x) = true := by rfl) (hy : pur2 (evo fr y) = true := by rfl) (hv : den t = u := by rfl) (ht : pur t = true := by rfl) : Oa (Am w0 X) P o fr h n ⟨t, h, n, 0, 0⟩ := by
  subst hm hi hv
  refine Oa.val fun k W a hA hop => ⟨_, pur_vx ht, ?_⟩
  have h1 := pur2_eq (hop x (by rw [ho]; simp [Op.operands])) hx
  have h2 := pur2_eq (hop y (by rw [ho]; simp [Op.operands])) hy
  simp [execOp, ho, h1, h2, hr W hA.see]
end
end S
end Go.Proofs.YtfmfeipeeedfpaaGreat
namespace Go.Proofs.YtfmfeipeeedfpaaGreat
namespace S
open Go.RowKit (Below)
/-- Blocks that lie there under their numbers. -/
structure Ky (k : K) (h : HT) (n : Nat) (W : World) : Prop where
  hr : HR k h W (ones n)
  nn : ∀ i, n ≤ i → hget h i = none
  nk : ∀ i, n ≤ i → k i = none
/-- A world in which all that X tells can be seen, apart from these blocks. -/
structure Sees (X : World) (k : K) (W : World) : Prop where
  see : ∀ (b : Nat) (o : Obj), X.heap[b]? = some o → o ≠ hole X → W.heap[b]? = some o
  out : ∀ i b z, k i = some (b, z) → ∀ o : Obj, X.heap[b]? = some o → o = hole X
  sz : X.heap.size ≤ W.heap.size
/-- Behind a call: the blocks, the first m of them where they were; all else stays. -/
structure Af (k : K) (n m : Nat) (W : World) (k' : K) (h' : HT) (n' : Nat) (W' : World) : Prop where
  ky : Ky k' h' n' W'
  keep : ∀ i, i < m → k' i = k i
  fresh : ∀ i b z, k' i = some (b, z) → W.heap.size ≤ b ∨ ∃ j z', j < n ∧ k j = some (b, z')
  frm : ∀ b, b < W.heap.size → (∀ j z, j < n → k j ≠ some (b, z)) → W'.heap[b]? = W.heap[b]?
  size : W.heap.size ≤ W'.heap.size
  os : W'.os = W.os
  tape : Tp W' W
  output : W'.output = W.output
/-- What a call comes to: of these values and blocks that value, and these blocks. -/
def Ctr (P : Program) (X : World) (f : FuncId) (vs : List Value) (h : HT) (n m : Nat) (t : Value) (h' : HT) (n' : Nat) : Prop :=
  ∀ (W : World) (k : K) (us : List Value), Ky k h n W → Sees X k W → LR (VX k) vs us → Calls P f us.toArray W fun e W' => ∃ u k', e = .returned u ∧ VX k' t u ∧ Af k n m W k' h' n' W'
/-- All of these blocks are there. -/
def full (h : HT) : Nat → Bool
  | 0 => true
  | n + 1 => (hget h n).isSome && full h n
theorem full_at {h : HT} : ∀ {n : Nat}, full h n = true → ∀ i, i < n → ∃ cs, hget h i = some cs
  | 0, _, i, hi => absurd hi (Nat.not_lt_zero i)
  | n + 1, hf, i, hi => by
    simp only [full, Bool.and_eq_true] at hf
    by_cases e : i = n
    · subst e; exact Option.isSome_iff_exists.1 hf.1
    · exact full_at hf.2 i (by omega)
def retC (P : Program) (fn : Func) (X : World) (m : Nat) (t : Value) (h' : HT) (n' : Nat) (e : Exit) (s : St) : Prop := s.X = X ∧ match e with
  | .normal => resK P s.f s.h fn.results.toList fun vs => ∃ σ, fitV σ (single vs) t ∧ fitH σ s.h h' ∧ σ.length = n' ∧ (apartL σ && pfx m σ) = true
  | .ret => resK P s.f s.h fn.results.toList fun vs => ∃ σ, fitV σ (single vs) t ∧ fitH σ s.h h' ∧ σ.length = n' ∧ (apartL σ && pfx m σ) = true
  | _ => False
theorem ex_hole (l : List Obj) : ∃ N : Nat, ∀ o ∈ l, o ≠ .cells #[] N (0, 0) := by
  have key : ∃ N : Nat, ∀ M : Nat, N ≤ M → ∀ o ∈ l, o ≠ .cells #[] M (0, 0) := by
    induction l with
    | nil => exact ⟨0, fun _ _ _ h => by cases h⟩
    | cons x l ih =>
      obtain ⟨N, hN⟩ := ih
      have key : ∃ N' : Nat, ∀ M : Nat, N' ≤ M → x ≠ .cells #[] M (0, 0) := by
        cases x with
        | cells c ty fz => exact ⟨ty + 1, fun M hM e => by cases e; exact absurd hM (Nat.not_succ_le_self _)⟩
        | _ => exact ⟨0, fun M _ e => by cases e⟩
      obtain ⟨N', hN'⟩ := key
      refine ⟨N + N', fun M hM o ho => ?_⟩
      rcases List.mem_cons.1 ho with rfl | ho
      · exact hN' M (by omega)
      · exact hN M (by omega) o ho
  obtain ⟨N, hN⟩ := key
  exact ⟨N, hN N (Nat.le_refl _)⟩
/-- Renamed blocks lie there too. -/
theorem ky_ren {k : K} {h h' : HT} {W : World} {σ : List Nat} {r : Nat} (H : HR k h W r) (hr : ∀ (j i : Nat), σ[j]? = some i → tb r i) (F : fitH σ h h') (ha : apartL σ = true) : Ky (ren σ k) h' σ.length W := by
  have rep : ∀ j, Rp (ren σ k) h' W j := fun j cs hcs => by
    obtain ⟨i, us, h0, h1, h2⟩ := fitH_get F hcs
    exact (H.rep i (hr j i h0) us h1).mono (fun p hp => by rw [ren_at h0]; exact hp) (fun _ _ _ _ => rfl) (fun ws => fitL_rel h2)
  refine ⟨⟨fun i _ => rep i, fun i j _ _ li lj hij b z b' z' ki kj => ?_⟩, fun j hj => ?_, fun j hj => ?_⟩
  · obtain ⟨cs, hcs⟩ := li
    obtain ⟨cs', hcs'⟩ := lj
    obtain ⟨i0, us, h0, h1, _⟩ := fitH_get F hcs
    obtain ⟨j0, us', h0', h1', _⟩ := fitH_get F hcs'
    rw [ren_at h0] at ki
    rw [ren_at h0'] at kj
    exact H.inj i0 j0 (hr i i0 h0) (hr j j0 h0') ⟨us, h1⟩ ⟨us', h1'⟩ (fun e => hij (apartL_spec ha i j i0 h0 (by rw [e]; exact h0'))) b z b' z' ki kj
  · cases e : hget h' j with
    | none => rfl
    | some cs =>
      obtain ⟨i, _, h0, _⟩ := fitH_get F e
      have := (List.getElem?_eq_some_iff.1 h0).1
      omega
  · unfold ren; rw [List.getElem?_eq_none hj]; rfl
section
variable {P : Program}
theorem fn_c {X : World} {f : FuncId} {fn : Func} {c : Code} {h h' : HT} {n m n' : Nat} {t : Value} (vs : List Value) (hf : P.funcs[f]? = some fn) (hb : fn.body = some c) (hm : Nat.ble vs.length fn.ntmps = true) (hfull : full h n = true) (hmn : Nat.ble m n = true)
    (H : ∀ w l X', Xf X' X → WC P ⟨w, m, l⟩ c ⟨⟨fn.ntmps, argl 0 vs⟩, h, n, X'⟩ (retC P fn X' m t h' n')) : Ctr P X f vs h n m t h' n' := by
  intro W k us ky hX hv
  refine calls_of_wp hf hb ?_
  obtain ⟨N, hN⟩ := ex_hole W.heap.toList
  have hN' : ∀ (b' : Nat) (o : Obj), W.heap[b']? = some o → o ≠ .cells #[] N (0, 0) := fun b' o ho => hN o (by
    obtain ⟨hlt, rfl⟩ := Array.getElem?_eq_some_iff.1 ho
    simp)
  have hmn' : m ≤ n := Nat.le_of_ble_eq_true hmn
  have hks : ∀ i, i < n → ∃ b z, k i = some (b, z) ∧ b < W.heap.size := fun i hi => by
    obtain ⟨cs, hcs⟩ := full_at hfull i hi
    exact (ky.hr.rep i (tb_ones.2 hi)).lt ⟨cs, hcs⟩
  let isO : Nat → Prop := fun b => ∃ j z, j < n ∧ k j = some (b, z)
  have dec : ∀ b, Decidable (isO b) := fun b => Classical.propDecidable _
  let X' : World := { W with heap := W.heap.mapIdx (fun b o => @ite Obj (isO b) (dec b) (.cells #[] N (0, 0)) o), drawn := N }
  have hXs : X'.heap.size = W.heap.size := by show (W.heap.mapIdx _).size = _; simp
  have hXo : ∀ b, ¬ isO b → X'.heap[b]? = W.heap[b]? := fun b hb => by
    show (W.heap.mapIdx _)[b]? = _
    rw [Array.getElem?_mapIdx]
    cases W.heap[b]? with
    | none => rfl
    | some o => simp only [Option.map_some, if_neg hb]
  have hXi : ∀ b o, isO b → X'.heap[b]? = some o → o = hole X' := fun b o hb ho => by
    have ho : (W.heap.mapIdx (fun b o => @ite Obj (isO b) (dec b) (.cells #[] N (0, 0)) o))[b]? = some o := ho
    rw [Array.getElem?_mapIdx] at ho
    cases hw : W.heap[b]? with
    | none => rw [hw] at ho; cases ho
    | some o' => rw [hw] at ho; simp only [Option.map_some, if_pos hb] at ho; cases ho; rfl
  have hXf : Xf X' X := by
    refine ⟨by rw [hXs]; exact hX.sz, fun b o h1 h2 => ?_⟩
    have h3 := hX.see b o h1 h2
    have h4 : ¬ isO b := fun ⟨j, z, _, hk⟩ => h2 (hX.out j b z hk o h1)
    exact ⟨by rw [hXo b h4]; exact h3, hN' b o h3⟩
  have R0 : Rl ⟨{ W with heap := #[] }, m, fun i => (k i).getD (0, 0)⟩ ⟨⟨fn.ntmps, argl 0 vs⟩, h, n, X'⟩ k W { tmps := us.toArray ++ Array.replicate (fn.ntmps - us.toArray.size) undef, defers := [] } := by
    refine ⟨args_fr hv (Nat.le_of_ble_eq_true hm), ky.hr, ky.nn, ky.nk, ⟨⟨rfl, rfl, rfl, Nat.zero_le _, fun b hb => absurd hb (Nat.not_lt_zero b)⟩, fun i b z _ => Nat.zero_le _, fun b o h1 h2 => ?_, fun i b z hk o ho => ?_, by rw [hXs]; exact Nat.le_refl _, fun i hi => ?_, Nat.le_refl _⟩⟩
    · have h4 : ¬ isO b := fun hb => h2 (hXi b o hb h1)
      rw [hXo b h4] at h1; exact h1
    · refine hXi b o ⟨i, z, ?_, hk⟩ ho
      rcases Nat.lt_or_ge i n with h' | h'
      · exact h'
      · rw [ky.nk i h'] at hk; cases hk
    · obtain ⟨b, z, hk, _⟩ := hks i (Nat.lt_of_lt_of_le hi hmn')
      show k i = some ((k i).getD (0, 0))
      rw [hk]; rfl
  refine H _ _ X' hXf _ _ _ _ R0 fun e s k1 W' a Rs hC => ?_
  obtain ⟨hX1, hC⟩ := hC
  have key : resK P s.f s.h fn.results.toList (fun vs => ∃ σ, fitV σ (single vs) t ∧ fitH σ s.h h' ∧ σ.length = n' ∧ (apartL σ && pfx m σ) = true) → ∃ u, (results fn a.tmps).run P W' = .ok u W' ∧ (∃ u' k', Ending.returned u = .returned u' ∧ VX k' t u' ∧ Af k n m W k' h' n' W') := fun hC => by
    obtain ⟨vs', u, ⟨σ, g1, g2, g3, g4⟩, h2, h3⟩ := results_run Rs.fr (fun m => Rs.hr.all Rs.nn m) hC
    rw [Bool.and_eq_true] at g4
    obtain ⟨g4, g5⟩ := g4
    have hr0 : ∀ r, HR k1 s.h W' r := fun r => Rs.hr.all Rs.nn r
    have kyf : Ky (ren σ k1) h' n' W' := by
      rw [← g3]
      have rep : ∀ (j i : Nat), σ[j]? = some i → tb (2 ^ (σ.foldl max 0 + 1) - 1) i := fun j i hj => by
        unfold tb
        rw [Nat.testBit_two_pow_sub_one]
        have : ∀ (l : List Nat) (a x : Nat), (x ∈ l ∨ x ≤ a) → x ≤ l.foldl max a := by
          intro l
          induction l with
          | nil => intro a x hx; rcases hx with hx | hx; cases hx; exact hx
          | cons y l ih => intro a x hx; refine ih _ _ ?_; rcases hx with hx | hx
                           · rcases List.mem_cons.1 hx with rfl | hx
                             · exact Or.inr (Nat.le_max_right _ _)
                             · exact Or.inl hx
                           · exact Or.inr (Nat.le_trans hx (Nat.le_max_left _ _))
        have := this σ 0 i (Or.inl (List.mem_of_getElem? hj))
        simp; omega
      exact ky_ren (hr0 _) rep g2 g4
    refine ⟨u, h3, u, ren σ k1, rfl, g1 k1 u h2, kyf, fun i hi => ?_, fun i b z hk => ?_, fun b hb hj => ?_, ?_, Rs.am.old.os, ⟨Rs.am.old.tape, Rs.am.dr⟩, Rs.am.old.output⟩
    · obtain ⟨b, z, hk, _⟩ := hks i (Nat.lt_of_lt_of_le hi hmn')
      rw [ren_at (pfx_at g5 i hi), Rs.am.kp i hi]
      show some ((k i).getD (0, 0)) = k i
      rw [hk]; rfl
    · obtain ⟨i0, _, hk0⟩ := ren_some hk
      rcases Nat.lt_or_ge b W.heap.size with h7 | h7
      · refine Or.inr (Classical.byContradiction fun hne => ?_)
        have hno : ¬ isO b := fun ⟨j, z', h8, h9⟩ => hne ⟨j, z', h8, h9⟩
        have h8 : W.heap[b]? = some W.heap[b] := Array.getElem?_eq_getElem h7
        have := Rs.am.out i0 b _ hk0 _ (by rw [hX1, hXo b hno]; exact h8)
        rw [hX1] at this
        exact hN' b _ h8 this
      · exact Or.inl h7
    · have hno : ¬ isO b := fun ⟨j, z', h8, h9⟩ => hj j z' h8 h9
      have h8 : W.heap[b]? = some W.heap[b] := Array.getElem?_eq_getElem hb
      rw [h8]
      refine Rs.am.see b _ (by rw [hX1, hXo b hno]; exact h8) ?_
      rw [hX1]; exact hN' b _ h8
    · have := Rs.am.sz
      rw [hX1, hXs] at this; exact this
  cases e with
  | normal => obtain ⟨u, h1, h2⟩ := key hC; exact ⟨Rs.fr.df, u, h1, h2⟩
  | ret => obtain ⟨u, h1, h2⟩ := key hC; exact ⟨Rs.fr.df, u, h1, h2⟩
  | _ => exact hC.elim
end
/-! Calling. -/
def unV (τ : List Nat) (t u : Value) : Prop := ∀ k w, VX (ren τ k) t w → VX k u w
def unL (τ : List Nat) : List Value → List Value → Prop
  | [], l => l = []
  | v :: vs, l => ∃ u us, l = u :: us ∧ unV τ v u ∧ unL τ vs us
def unH (τ : List Nat) (h : HT) : Nat → List (Option (List Value)) → Prop
  | _, [] => True
  | j, c :: l => (match c with
    | none => True
    | some cc => match hget h j with
      | some cs => unL τ cs cc
      | none => False) ∧ unH τ h (j + 1) l
def setsH (h : HT) : List (Nat × Option (List Value)) → HT
  | [] => h
  | p :: l => hs12 (setsH h l) p.1 p.2
def mskL (h : HT) : List Nat → HT
  | [] => h
  | i :: l => msk (mskL h l) i
def bitsL : List Nat → Nat
  | [] => 0
  | i :: l => Nat.lor (bit i) (bitsL l)
def upto : Nat → Nat → List Nat
  | _, 0 => []
  | i, m + 1 => i :: upto (i + 1) m
theorem upto_at : ∀ (m i j x : Nat), (upto i m)[j]? = some x ↔ x = i + j ∧ j < m
  | 0, i, j, x => by simp [upto]
  | m + 1, i, 0, x => by simp [upto]; exact ⟨fun h => h.symm, fun h => h.symm⟩
  | m + 1, i, j + 1, x => by
    show (upto (i + 1) m)[j]? = some x ↔ _
    rw [upto_at m (i + 1) j x]
    omega
theorem upto_mem {m i x : Nat} : x ∈ upto i m ↔ i ≤ x ∧ x < i + m := by
  rw [List.mem_iff_getElem?]
  constructor
  · rintro ⟨j, h⟩; have := (upto_at m i j x).1 h; omega
  · intro h; exact ⟨x - i, (upto_at m i (x - i) x).2 (by omega)⟩
theorem upto_len : ∀ m i : Nat, (upto i m).length = m
  | 0, _ => rfl
  | m + 1, i => by simp [upto, upto_len m (i + 1)]
theorem tb_bitsL {i : Nat} : ∀ {l : List Nat}, tb (bitsL l) i ↔ i ∈ l
  | [] => ⟨fun h => absurd h tb_zero, fun h => by cases h⟩
  | x :: l => by
    simp only [bitsL, tb_or, tb_bit, tb_bitsL (l := l), List.mem_cons]
    exact ⟨fun h => h.imp Eq.symm id, fun h => h.imp Eq.symm id⟩
theorem hget_mskL (h : HT) (i : Nat) : ∀ l, hget (mskL h l) i = hget h i
  | [] => rfl
  | x :: l => by simp only [mskL, hget_msk, hget_mskL h i l]
/-- What was put under a number is what was put there, or what was there. -/
theorem sets_get {h : HT} {i : Nat} : ∀ {l : List (Nat × Option (List Value))}, (∀ p ∈ l, p.1 < 4096) → (∃ c, (i, c) ∈ l ∧ hget (setsH h l) i = c) ∨ ((∀ c, (i, c) ∉ l) ∧ hget (setsH h l) i = hget h i)
  | [], _ => Or.inr ⟨fun c h => (by cases h), rfl⟩
  | p :: l, hl => by
    have hp := hl p (by simp)
    by_cases e : p.1 = i
    · subst e; exact Or.inl ⟨p.2, by simp, hget_same _ hp⟩
    · rcases sets_get (h := h) (i := i) (l := l) (fun q hq => hl q (by simp [hq])) with ⟨c, h1, h2⟩ | ⟨h1, h2⟩
      · exact Or.inl ⟨c, by simp [h1], by simp only [setsH]; rw [hget_ne _ hp e]; exact h2⟩
      · refine Or.inr ⟨fun c hc => ?_, by simp only [setsH]; rw [hget_ne _ hp e]; exact h2⟩
        rcases List.mem_cons.1 hc with rfl | hc
        · exact e rfl
        · exact h1 c hc
theorem unH_get {τ : List Nat} {h : HT} : ∀ {l : List (Option (List Value))} {j0 j : Nat} {cc : List Value}, unH τ h j0 l → l[j]? = some (some cc) → ∃ cs, hget h (j0 + j) = some cs ∧ unL τ cs cc
  | [], _, _, _, _, e => by cases e
  | c :: l, j0, j, cc, hu, e => by
    cases j with
    | zero =>
      simp at e; subst e
      have h1 := hu.1
      simp only at h1
      split at h1
      · rename_i cs hcs; exact ⟨cs, hcs, h1⟩
      · exact h1.elim
    | succ j =>
      obtain ⟨cs, h1, h2⟩ := unH_get hu.2 (j := j) (cc := cc) (by simpa using e)
      exact ⟨cs, by rw [show j0 + (j + 1) = j0 + 1 + j by omega]; exact h1, h2⟩
theorem unL_rel {τ : List Nat} {k : K} : ∀ {cs cc us : List Value}, unL τ cs cc → LR (VX (ren τ k)) cs us → LR (VX k) cc us
  | [], _, _, e, r => by rw [e]; exact r
  | v :: vs, _, _, ⟨u, us, e, h1, h2⟩, ⟨w, ws, e', r, q⟩ => by rw [e]; exact ⟨w, ws, e', h1 k w r, unL_rel h2 q⟩
section
variable {P : Program} {w0 : B0} {X : World} {o : Oper} {fr : FT} {hc : HT} {nc : Nat}
theorem r_c {f : FuncId} {fn : Func} {y : Operand} {xs : Array Operand} {ts : Array TypeId} {ca : Array Value} {vs : List Value} {h h' : HT} {n m n' : Nat} {t tc : Value} (σ : List Nat) (cl : List (Option (List Value))) (ms : List Nat)
    (ho : o.op = .call { callee := .value y, args := xs, argTypes := ts }) (hy : evo fr y = .func (.func f) #[] ca) (hctr : Ctr P X f vs h n m t h' n') (ha : fitL σ (evl fr xs.toList ++ ca.toList) vs) (hh : fitH σ hc h) (ht : unV (σ.take m ++ upto nc (n' - m)) t tc) (hu : unH (σ.take m ++ upto nc (n' - m)) h' 0 cl)
    (hf : P.funcs[f]? = some fn := by rfl) (hb : callB fn = true := by rfl)
    (hck : (apartL σ && full h n && Nat.beq σ.length n && Nat.beq cl.length n' && Nat.ble m n && Nat.ble m n' && Nat.ble (nc + (n' - m)) 4096 && σ.all (Nat.blt · nc)) = true := by rfl) :
    Oa (Am w0 X) P o fr hc nc ⟨tc, mskL (setsH hc ((σ.take m ++ upto nc (n' - m)).zip cl ++ (σ.drop m).map (fun i => (i, none)))) ms, nc + (n' - m), bitsL σ, bitsL (σ ++ upto nc (n' - m))⟩ := by
  simp only [Bool.and_eq_true, Nat.beq_eq, Nat.ble_eq, List.all_eq_true, Nat.blt_eq] at hck
  obtain ⟨⟨⟨⟨⟨⟨⟨hap, hfull⟩, hσ⟩, hcl⟩, hmn⟩, hmn'⟩, h4⟩, hlt⟩ := hck
  generalize hτ : σ.take m ++ upto nc (n' - m) = τ at *
  have τat : ∀ (j i : Nat), τ[j]? = some i ↔ (j < m ∧ σ[j]? = some i) ∨ (m ≤ j ∧ j < n' ∧ i = nc + (j - m)) := fun j i => by
    rw [← hτ]
    have hl : (σ.take m).length = m := by rw [List.length_take]; omega
    by_cases hj : j < m
    · rw [List.getElem?_append_left (by omega), List.getElem?_take, if_pos hj]
      exact ⟨fun h => Or.inl ⟨hj, h⟩, fun h => by rcases h with h | h; exact h.2; omega⟩
    · rw [List.getElem?_append_right (by omega), hl, upto_at]
      constructor
      · rintro ⟨h1, h2⟩; exact Or.inr ⟨by omega, by omega, h1⟩
      · rintro (h | ⟨h1, h2, h3⟩)
        · omega
        · exact ⟨h3, by omega⟩
  have τlen : τ.length = n' := by rw [← hτ]; simp [upto_len]; omega
  have σlt : ∀ (j i : Nat), σ[j]? = some i → i < nc := fun j i h => hlt i (List.mem_of_getElem? h)
  generalize hups : τ.zip cl ++ (σ.drop m).map (fun i => (i, none)) = ups
  have upl : ∀ p ∈ ups, p.1 < 4096 := fun p hp => by
    rw [← hups] at hp
    rcases List.mem_append.1 hp with hp | hp
    · have h1 := (List.of_mem_zip hp).1
      obtain ⟨j, hj⟩ := List.mem_iff_getElem?.1 h1
      rcases (τat j _).1 hj with ⟨_, h2⟩ | ⟨h2, h3, h5⟩
      · have := σlt j _ h2; omega
      · omega
    · obtain ⟨i, h1, rfl⟩ := List.mem_map.1 hp
      have := hlt i (List.mem_of_mem_drop h1)
      show i < 4096
      omega
  have upk : ∀ i, (i ∈ σ ∨ i ∈ upto nc (n' - m)) → ∃ c, (i, c) ∈ ups := fun i hi => by
    have inτ : i ∈ τ → ∃ c, (i, c) ∈ ups := fun h => by
      obtain ⟨j, hj⟩ := List.mem_iff_getElem?.1 h
      have hjl := (List.getElem?_eq_some_iff.1 hj).1
      have hc : cl[j]? = some cl[j] := List.getElem?_eq_getElem (by omega)
      refine ⟨cl[j], ?_⟩
      rw [← hups]
      refine List.mem_append.2 (Or.inl (List.mem_iff_getElem?.2 ⟨j, ?_⟩))
      rw [List.getElem?_zip_eq_some]; exact ⟨hj, hc⟩
    rcases hi with hi | hi
    · rw [← List.take_append_drop m σ] at hi
      rcases List.mem_append.1 hi with hi | hi
      · exact inτ (by rw [← hτ]; exact List.mem_append.2 (Or.inl hi))
      · exact ⟨none, by rw [← hups]; exact List.mem_append.2 (Or.inr (List.mem_map.2 ⟨i, hi, rfl⟩))⟩
    · exact inτ (by rw [← hτ]; exact List.mem_append.2 (Or.inr hi))
  have upi : ∀ i c, (i, c) ∈ ups → i ∈ σ ∨ i ∈ upto nc (n' - m) := fun i c h => by
    rw [← hups] at h
    rcases List.mem_append.1 h with h | h
    · have h1 := (List.of_mem_zip h).1
      rw [← hτ] at h1
      rcases List.mem_append.1 h1 with h1 | h1
      · exact Or.inl (List.mem_of_mem_take h1)
      · exact Or.inr h1
    · obtain ⟨i', h1, h2⟩ := List.mem_map.1 h
      cases h2
      exact Or.inl (List.mem_of_mem_drop h1)
  have A : ∀ i, ¬ (i ∈ σ ∨ i ∈ upto nc (n' - m)) → hget (mskL (setsH hc ups) ms) i = hget hc i := fun i hi => by
    rw [hget_mskL]
    rcases sets_get (h := hc) (i := i) upl with ⟨c, h1, _⟩ | ⟨_, h2⟩
    · exact absurd (upi i c h1) hi
    · exact h2
  have B : ∀ i cc, hget (mskL (setsH hc ups) ms) i = some cc → (i ∈ σ ∨ i ∈ upto nc (n' - m)) → ∃ (j : Nat) (cs : List Value), τ[j]? = some i ∧ hget h' j = some cs ∧ unL τ cs cc := fun i cc he hi => by
    rw [hget_mskL] at he
    rcases sets_get (h := hc) (i := i) upl with ⟨c, h1, h2⟩ | ⟨h1, _⟩
    · rw [h2] at he
      subst he
      rw [← hups] at h1
      rcases List.mem_append.1 h1 with h1 | h1
      · obtain ⟨j, hj⟩ := List.mem_iff_getElem?.1 h1
        rw [List.getElem?_zip_eq_some] at hj
        obtain ⟨cs, h3, h5⟩ := unH_get hu hj.2
        rw [Nat.zero_add] at h3
        exact ⟨j, cs, hj.1, h3, h5⟩
      · obtain ⟨i', _, h3⟩ := List.mem_map.1 h1
        cases h3
    · obtain ⟨c, h3⟩ := upk i hi
      exact absurd h3 (h1 c)
  have live0 : ∀ (j i : Nat), σ[j]? = some i → live hc i := fun j i hj => by
    obtain ⟨cs, hcs⟩ := full_at hfull j (by have := (List.getElem?_eq_some_iff.1 hj).1; omega)
    obtain ⟨i', us, h1, h2, _⟩ := fitH_get hh hcs
    rw [hj] at h1; cases h1
    exact ⟨us, h2⟩
  have wm : ∀ i, tb (bitsL (σ ++ upto nc (n' - m))) i ↔ (i ∈ σ ∨ i ∈ upto nc (n' - m)) := fun i => by rw [tb_bitsL, List.mem_append]
  refine ⟨⟨Nat.le_add_right _ _, fun nn i hi => ?_, fun i hi => A i (fun h => hi ((wm i).2 h)), fun i hi hn => ?_, fun i hi => ?_, fun i hi ⟨cs, hl⟩ => ?_⟩, fun k W a K' Q hA hop H hnew hk => ?_⟩
  · have hi : nc + (n' - m) ≤ i := hi
    show hget (mskL (setsH hc ups) ms) i = none
    rw [A i (fun h => by rcases h with h | h; have := hlt i h; omega; have := upto_mem.1 h; omega)]; exact nn i (by omega)
  · rcases (wm i).1 hi with h | h
    · exact tb_bitsL.2 h
    · have := upto_mem.1 h; omega
  · show i < nc + (n' - m)
    rcases (wm i).1 hi with h | h
    · have := hlt i h; omega
    · have := upto_mem.1 h; omega
  · by_cases h : i ∈ σ ∨ i ∈ upto nc (n' - m)
    · rcases h with h | h
      · obtain ⟨j, hj⟩ := List.mem_iff_getElem?.1 h; exact live0 j i hj
      · have := upto_mem.1 h; omega
    · have hl : hget (mskL (setsH hc ups) ms) i = some cs := hl
      rw [A i h] at hl; exact ⟨cs, hl⟩
  · have ky : Ky (ren σ k) h n W := by
      have := ky_ren H (fun j i hj => tb_bitsL.2 (List.mem_of_getElem? hj)) hh hap
      rw [hσ] at this; exact this
    have sees : Sees X (ren σ k) W := ⟨hA.see, fun i b z hk => by obtain ⟨i0, _, h1⟩ := ren_some hk; exact hA.out i0 b z h1, hA.sz⟩
    have h4' := hop y (by rw [ho]; simp [Op.operands, Call.operands])
    rw [hy] at h4'
    obtain ⟨fi, c2, h5, h6, h7⟩ := h4'.func_inv
    have h6' : fi = [] := h6
    subst h6'
    have h8 := evl_rel (fr := fr) (k := k) (a := a) xs.toList (fun y hy => hop y (by rw [ho]; simp [Op.operands, Call.operands]; right; simpa using hy))
    have h9 := fitL_rel ha (h8.app h7)
    have hrun : (execOp a.eval o).run P W = .ok (.enter f (xs.toList.map a.eval ++ c2).toArray) W := by
      simp only [execOp, ho, resolve, h5, Deferred.ofValue, invoke, Sem.run_bind, Sem.run_pure, Result.andThen_ok, enter_ok hf hb]
      congr 2
      apply Array.ext'
      simp
    unfold Oper.wp
    rw [hrun, Oper.upon_enter]
    refine (hctr W _ _ ky sees h9).mono ?_
    rintro e W' ⟨u, k1, rfl, hvx, af⟩
    let k2 : K := fun i => if nc ≤ i ∧ i < nc + (n' - m) then k1 (i - nc + m) else k i
    have kout : ∀ i, ¬ (nc ≤ i ∧ i < nc + (n' - m)) → k2 i = k i := fun i h => if_neg h
    have kin : ∀ i, nc ≤ i → i < nc + (n' - m) → k2 i = k1 (i - nc + m) := fun i h1 h2 => if_pos ⟨h1, h2⟩
    have hτk : ∀ (j i : Nat), τ[j]? = some i → k2 i = k1 j := fun j i hj => by
      rcases (τat j i).1 hj with ⟨h1, h2⟩ | ⟨h1, h2, h3⟩
      · rw [kout i (by have := σlt j i h2; omega), af.keep j h1, ren_at h2]
      · rw [kin i (by omega) (by omega)]; congr 1; omega
    have hren : ren τ k2 = k1 := by
      funext j
      cases hj : τ[j]? with
      | none =>
        have : n' ≤ j := by rw [← τlen]; exact List.getElem?_eq_none_iff.1 hj
        rw [af.ky.nk j this]; unfold ren; rw [hj]; rfl
      | some i => rw [ren_at hj, hτk j i hj]
    have jlt : ∀ (j : Nat) (cs : List Value), hget h' j = some cs → j < n' := fun j cs h => by
      rcases Nat.lt_or_ge j n' with h' | h'
      · exact h'
      · rw [af.ky.nn j h'] at h; cases h
    refine hk u W' k2 ⟨fun i p hp => ?_, fun i hi => kout i (by have hi : i < nc ∨ nc + (n' - m) ≤ i := hi; omega), ⟨fun i hi cs hcs => ?_, fun i i' hi hi' li li' hne b z b' z' kb kb' => ?_⟩, fun b hb hj => ?_, fun i b z h1 h2 hl hk2 => ?_, fun D hD hdj i b z hk2 hDb => ?_, af.size, af.os, af.tape, af.output⟩ (ht k2 u (by rw [hren]; exact hvx))
    · rw [kout i (fun h => by rw [hnew i h.1 h.2] at hp; cases hp)]; exact hp
    · have hi' : i ∈ σ ∨ i ∈ upto nc (n' - m) := by
        rcases tb_or.1 hi with h | h
        · exact Or.inl (tb_bitsL.1 h)
        · exact (wm i).1 h
      obtain ⟨j, cs', g1, g2, g3⟩ := B i cs hcs hi'
      refine (af.ky.hr.rep j (tb_ones.2 (jlt j cs' g2)) cs' g2).mono (fun p hp => by rw [hτk j i g1]; exact hp) (fun _ _ _ _ => rfl) (fun us hus => unL_rel g3 (by rw [hren]; exact hus))
    · have mem : ∀ i, tb (Nat.lor (bitsL σ) (bitsL (σ ++ upto nc (n' - m)))) i → i ∈ σ ∨ i ∈ upto nc (n' - m) := fun i hi => by
        rcases tb_or.1 hi with h | h
        · exact Or.inl (tb_bitsL.1 h)
        · exact (wm i).1 h
      obtain ⟨c1, e1⟩ := li
      obtain ⟨c1', e1'⟩ := li'
      obtain ⟨j, cs, g1, g2, _⟩ := B i c1 e1 (mem i hi)
      obtain ⟨j', cs', g1', g2', _⟩ := B i' c1' e1' (mem i' hi')
      rw [hτk j i g1] at kb
      rw [hτk j' i' g1'] at kb'
      exact af.ky.hr.inj j j' (tb_ones.2 (jlt j cs g2)) (tb_ones.2 (jlt j' cs' g2')) ⟨cs, g2⟩ ⟨cs', g2'⟩ (fun e => hne (by rw [e, g1'] at g1; cases g1; rfl)) b z b' z' kb kb'
    · refine af.frm b hb fun j z hjn hkj => ?_
      obtain ⟨i, g1, g2⟩ := ren_some hkj
      exact hj i z ((wm i).2 (Or.inl (List.mem_of_getElem? g1))) (live0 j i g1) g2
    · rw [kin i h1 h2] at hk2
      rcases af.fresh _ b z hk2 with h | ⟨j, z', hjn, hkj⟩
      · exact Or.inl h
      · obtain ⟨i0, g1, g2⟩ := ren_some hkj
        refine Or.inr ⟨i0, z', (wm i0).2 (Or.inl (List.mem_of_getElem? g1)), σlt j i0 g1, live0 j i0 g1, fun ⟨cc, hcc⟩ => ?_, g2⟩
        obtain ⟨q, cs, q1, q2, _⟩ := B i0 cc hcc (Or.inl (List.mem_of_getElem? g1))
        obtain ⟨cc', hcc'⟩ := hl
        obtain ⟨q', cs', q1', q2', _⟩ := B i cc' hcc' (Or.inr (upto_mem.2 ⟨h1, h2⟩))
        have e0 : k1 q = some (b, z') := by rw [← hτk q i0 q1, kout i0 (by have := σlt j i0 g1; omega)]; exact g2
        have e1 : k1 q' = some (b, z) := by rw [← hτk q' i q1', kin i h1 h2]; exact hk2
        have := σlt j i0 g1
        exact af.ky.hr.inj q q' (tb_ones.2 (jlt q cs q2)) (tb_ones.2 (jlt q' cs' q2')) ⟨cs, q2⟩ ⟨cs', q2'⟩ (fun e => by rw [e, q1'] at q1; cases q1; omega) b z' b z e0 e1 rfl
    · by_cases hr : nc ≤ i ∧ i < nc + (n' - m)
      · rw [kin i hr.1 hr.2] at hk2
        rcases af.fresh _ b z hk2 with h | ⟨j, z', hjn, hkj⟩
        · have := hD _ hDb; omega
        · obtain ⟨i0, _, g2⟩ := ren_some hkj; exact hdj i0 b z' g2 hDb
      · rw [kout i hr] at hk2; exact hdj i b z hk2 hDb
end
end S
end Go.Proofs.YtfmfeipeeedfpaaGreat
namespace Go.Proofs.YtfmfeipeeedfpaaGreat
namespace S
/-- An own map. -/
theorem fm {σ : List Nat} {i j : Nat} (h : σ[j]? = some i := by rfl) : fitV σ (.map (some i)) (.map (some j)) := fun k w hw => by
  obtain ⟨b, h2, h3⟩ := hw.map_inv
  exact VX.of0 ⟨b, by rw [ren_at h]; exact h2, h3⟩
theorem fitL_cons {σ : List Nat} {u v : Value} {us vs : List Value} (h : fitV σ u v) (hs : fitL σ us vs) : fitL σ (u :: us) (v :: vs) := ⟨v, vs, rfl, h, hs⟩
/-- A function with what it caught. -/
theorem ff {σ : List Nat} {f : Fn} {l m : List Value} (h : fitL σ l m) : fitV σ (.func f #[] l.toArray) (.func f #[] m.toArray) := fun k w hw => by
  obtain ⟨a, c, rfl, h1, h2⟩ := hw.func_inv
  have e1 : a = [] := h1
  subst e1
  exact VX.func (fitL_rel h h2)
theorem fr {σ : List Nat} {l m : List Value} (h : fitL σ l m) : fitV σ (.agg l.toArray) (.agg m.toArray) := fun k w hw => by
  obtain ⟨us, rfl, h2⟩ := hw.agg_inv
  exact VX.agg (fitL_rel h h2)
theorem uv {τ : List Nat} {u v : Value} (h : u = v := by rfl) (hp : pur v = true := by rfl) : unV τ u v := fun k w hw => by
  subst h; rw [pur_eq hw hp]; exact pur_vx hp
theorem us {τ : List Nat} {i j q len es : Nat} (h : τ[j]? = some i := by rfl) : unV τ (.slice (some ⟨j, q, none⟩) len es) (.slice (some ⟨i, q, none⟩) len es) := fun k w hw => by
  obtain ⟨h1, b, z, c, h2, h3⟩ := hw.slc_inv
  exact VX.of0 ⟨h1, b, z, c, by rw [← ren_at (k := k) h]; exact h2, h3⟩
theorem up {τ : List Nat} {i j q : Nat} (h : τ[j]? = some i := by rfl) : unV τ (.pointer (some ⟨j, q, none⟩)) (.pointer (some ⟨i, q, none⟩)) := fun k w hw => by
  obtain ⟨h1, b, z, h2, h3⟩ := hw.ptr_inv
  exact VX.of0 ⟨h1, b, z, by rw [← ren_at (k := k) h]; exact h2, h3⟩
theorem um {τ : List Nat} {i j : Nat} (h : τ[j]? = some i := by rfl) : unV τ (.map (some j)) (.map (some i)) := fun k w hw => by
  obtain ⟨b, h2, h3⟩ := hw.map_inv
  exact VX.of0 ⟨b, by rw [← ren_at (k := k) h]; exact h2, h3⟩
theorem unL_cons {τ : List Nat} {u v : Value} {us vs : List Value} (h : unV τ u v) (hs : unL τ us vs) : unL τ (u :: us) (v :: vs) := ⟨v, vs, rfl, h, hs⟩
theorem ul {τ : List Nat} {us cs : List Value} (h : us = cs) (hp : cs.all pur1 = true) : unL τ us cs := by
  subst h
  induction us with
  | nil => rfl
  | cons u us ih =>
    simp only [List.all_cons, Bool.and_eq_true] at hp
    exact ⟨u, us, rfl, fun k w hw => by rw [pur1_eq hw hp.1]; exact pur1_vx hp.1, ih hp.2⟩
theorem ulr {τ : List Nat} {us cs : List Value} (h : us = cs.map rel1) : unL τ us (cs.map rel1) := ul h (by simp [pur_rel1])
/-- Keys and values as they are. -/
def mpl (L : List (Value × Value)) : List Value := L.flatMap fun p => [raw p.1, raw p.2]
theorem mpl_inv {k : K} : ∀ {L : List (Value × Value)} {es : List MapEntry}, LR (VX k) (mpl L) (es.flatMap fun e => [e.key, e.val]) → es.map (fun e => (e.key, e.val)) = L
  | [], [], _ => rfl
  | [], e :: es, h => by cases h
  | p :: L, [], h => by obtain ⟨_, _, h, _⟩ := h; cases h
  | p :: L, e :: es, h => by
    obtain ⟨y, ys, h1, r1, z, zs, h2, r2, h3⟩ := h
    subst h2
    have h1' : [e.key, e.val] ++ es.flatMap (fun e => [e.key, e.val]) = y :: z :: zs := h1
    simp only [List.cons_append, List.nil_append, List.cons.injEq] at h1'
    obtain ⟨rfl, rfl, rfl⟩ := h1'
    rw [List.map_cons, mpl_inv h3, r1.raw_inv, r2.raw_inv]
theorem mpl_mk {k : K} : ∀ {L : List (Value × Value)} {es : List MapEntry}, es.map (fun e => (e.key, e.val)) = L → LR (VX k) (mpl L) (es.flatMap fun e => [e.key, e.val])
  | _, [], h => by subst h; rfl
  | _, e :: es, h => by
    subst h
    exact ⟨_, _, rfl, VX.raw, _, _, rfl, VX.raw, mpl_mk rfl⟩
theorem fml {σ : List Nat} {L M : List (Value × Value)} (h : L = M := by rfl) : fitL σ (mpl L) (mpl M) := by
  subst h
  exact fl rfl (by simp [mpl, pur1])
theorem uml {τ : List Nat} {L M : List (Value × Value)} (h : L = M := by rfl) : unL τ (mpl L) (mpl M) := by
  subst h
  exact ul rfl (by simp [mpl, pur1])
theorem born_push {es : Array MapEntry} {k v : Value} (h : ∀ (j : Nat) (e : MapEntry), es[j]? = some e → e.born = j) (j : Nat) (e : MapEntry) (he : (es.push { key := k, val := v, born := es.size })[j]? = some e) : e.born = j := by
  rw [Array.getElem?_push] at he
  split at he
  · rename_i hj; cases he; exact hj.symm
  · exact h j e he
theorem born_mod {es : Array MapEntry} {i : Nat} {f : MapEntry → MapEntry} (h : ∀ (j : Nat) (e : MapEntry), es[j]? = some e → e.born = j) (hf : ∀ e, (f e).born = e.born) (j : Nat) (e : MapEntry) (he : (es.modify i f)[j]? = some e) : e.born = j := by
  rw [Array.getElem?_modify] at he
  cases hj : es[j]? with
  | none => rw [hj] at he; split at he <;> cases he
  | some e0 =>
    rw [hj] at he
    have := h j e0 hj
    split at he
    · simp at he; rw [← he, hf]; exact this
    · cases he; exact this
section
variable {P : Program} {w0 : B0} {X : World} {o : Oper} {fr : FT} {h : HT} {n : Nat}
theorem r_mk {t : TypeId} (ho : o.op = .makeMap t none := by rfl) (hn : Nat.blt n 4096 = true := by rfl) : Oa (Am w0 X) P o fr h n ⟨.map (some n), msk (hs12 h n (some (mpl []))) n, n + 1, 0, bit n⟩ := by
  refine Oa.mask n ?_
  rw [Nat.blt_eq] at hn
  have hcs : hget (hs12 h n (some (mpl []))) n = some (mpl []) := hget_same _ hn
  have hd : ∀ i, i ≠ n → hget (hs12 h n (some (mpl []))) i = hget h i := fun i hi => hget_ne _ hn (Ne.symm hi)
  refine ⟨Ss.new (tb_bit.2 rfl) (fun i hi => Or.inl (hd i hi)) (fun i hi => Or.inl (tb_bit.1 hi).symm), fun k W a K' Q _ hop H hnew hk => ?_⟩
  have hkn : k n = none := hnew n (Nat.le_refl _) (Nat.lt_succ_self _)
  have hrun : (execOp a.eval o).run P W = .ok (.value (.map (some W.heap.size))) (W.alloc (.map #[] 0)) := by
    have : (Instr.makeMap t none).run P W = .ok (.map (some W.heap.size)) (W.alloc (.map #[] 0)) := rfl
    simp [execOp, ho, this]
  unfold Oper.wp
  rw [hrun, Oper.upon_value]
  exact hk _ _ _ (Sd.newM (B := W.heap.size) (es := #[]) hcs hd hkn (Nat.le_refl _) ⟨by show (W.heap.push _)[_]? = _; simp, fun j e h => (by simp at h)⟩ rfl (fun b hb => by show (W.heap.push _)[b]? = _; rw [Array.getElem?_push, if_neg (by omega)]) (by show _ ≤ (W.heap.push _).size; simp) rfl ⟨rfl, Nat.le_refl _⟩ rfl) (VX.of0 ⟨_, if_pos rfl, rfl⟩)
/-- An operation that looks into a map. -/
theorem r_see {m : Operand} {i : Nat} {L : List (Value × Value)} {u : Value} (v : Value) (hr : ∀ (W : World) (b : Nat) (es : Array MapEntry) (a : Act), a.eval m = .map (some b) → (∀ y ∈ o.op.operands.toList, pur2 (evo fr y) = true → a.eval y = den2 (evo fr y)) → MapAt W b es → es.toList.map (fun e => (e.key, e.val)) = L → (execOp a.eval o).run P W = .ok (.value u) W)
    (hm : m ∈ o.op.operands.toList) (hx : evo fr m = .map (some i)) (hcs : hget h i = some (mpl L)) (hv : den v = u) (hpv : pur v = true) : Oa (Am w0 X) P o fr h n ⟨v, h, n, bit i, 0⟩ := by
  refine ⟨Ss.read _ _ _, fun k W a K' Q _ hop H _ hkk => ?_⟩
  have h1 := hop m hm
  rw [hx] at h1
  obtain ⟨b, hb, h3⟩ := h1.map_inv
  obtain ⟨es, e1, e2⟩ := (H.rep i (tb_bit.2 rfl) _ hcs).map hb
  have h5 := hr W b es a h3 (fun y hy hp => pur2_eq (hop y hy) hp) e1 (mpl_inv e2)
  unfold Oper.wp
  rw [h5, Oper.upon_value]
  exact hkk u W k (Sd.read H) (by rw [← hv]; exact pur_vx hpv)
/-- An operation that changes a map. -/
theorem r_chg {m : Operand} {i : Nat} {L : List (Value × Value)} {u : Value} (v : Value) (L' : List (Value × Value)) (nn : ∀ i, n ≤ i → hget h i = none) (hr : ∀ (W : World) (b : Nat) (es : Array MapEntry) (a : Act), a.eval m = .map (some b) → (∀ y ∈ o.op.operands.toList, pur2 (evo fr y) = true → a.eval y = den2 (evo fr y)) → MapAt W b es → es.toList.map (fun e => (e.key, e.val)) = L → ∃ es', ((execOp a.eval o).run P W = .ok (.value u) { W with heap := W.heap.setIfInBounds b (.map es' es'.size) } ∨ (u = undef ∧ (execOp a.eval o).run P W = .ok .skip { W with heap := W.heap.setIfInBounds b (.map es' es'.size) })) ∧ (∀ (j : Nat) (e : MapEntry), es'[j]? = some e → e.born = j) ∧ es'.toList.map (fun e => (e.key, e.val)) = L')
    (hm : m ∈ o.op.operands.toList) (hx : evo fr m = .map (some i)) (hcs : hget h i = some (mpl L)) (hv : den v = u) (hpv : pur v = true) : Oa (Am w0 X) P o fr h n ⟨v, msk (hs12 h i (some (mpl L'))) i, n, bit i, bit i⟩ := by
  refine Oa.mask i ?_
  have hi := hget_lt hcs
  refine ⟨Ss.write nn hi hcs, fun k W a K' Q _ hop H _ hkk => ?_⟩
  have h1 := hop m hm
  rw [hx] at h1
  obtain ⟨b, hb, h3⟩ := h1.map_inv
  obtain ⟨es, e1, e2⟩ := (H.rep i (tb_bit.2 rfl) _ hcs).map hb
  obtain ⟨es', h5, hbo, h4⟩ := hr W b es a h3 (fun y hy hp => pur2_eq (hop y hy) hp) e1 (mpl_inv e2)
  have hlt := (Array.getElem?_eq_some_iff.1 e1.1).1
  have fin := hkk u { W with heap := W.heap.setIfInBounds b (.map es' es'.size) } k (Sd.writeM (B := b) (es := es') hi hcs hb ⟨by show (W.heap.setIfInBounds b _)[b]? = _; simp [hlt], hbo⟩ (mpl_mk h4) (fun b' hne _ => by show (W.heap.setIfInBounds b _)[b']? = _; rw [Array.getElem?_setIfInBounds_ne (Ne.symm hne)]) (by show _ ≤ (W.heap.setIfInBounds b _).size; simp) rfl ⟨rfl, Nat.le_refl _⟩ rfl) (by rw [← hv]; exact pur_vx hpv)
  unfold Oper.wp
  rcases h5 with h5 | ⟨rfl, h5⟩
  · rw [h5, Oper.upon_value]; exact fin
  · rw [h5, Oper.upon_skip]; exact fin
end
end S
end Go.Proofs.YtfmfeipeeedfpaaGreat
namespace Go.Proofs.YtfmfeipeeedfpaaGreat
open S
theorem mo : Tryz.prog.follows .mixedOrders = true := rfl
theorem wz {x : Int} (n : Nat) (h : x = (n : Int) := by omega) (hb : n < 9223372036854775808 := by omega) : IntKind.i64.wrap x = (n : Int) := by rw [h, IntKind.wrap_i64]; omega
theorem wi {x : Int} (h : -9223372036854775808 ≤ x ∧ x < 9223372036854775808 := by omega) : IntKind.i64.wrap x = x := by rw [IntKind.wrap_i64]; omega
/-- An expression. -/
structure Ex where
  k : Int
  op : Int
  nm : ByteArray
  sc : ByteArray
  vk : Int
  ng : Bool
  l0 : Int
  l1 : Int
  l2 : Int
  l3 : Int
  vs : Int
  fl : Bool
  tx : ByteArray
  er : Int
  s : Int
  pl : Int
  p : Option Addr
  cl : Nat
  a : List Ex
def Ex.c (x : Ex) : List Value := [.int .i64 x.k, .int .i64 x.op, .string x.nm, .string x.sc, .int .i64 x.vk, .bool x.ng, .int .u64 x.l0, .int .u64 x.l1, .int .u64 x.l2, .int .u64 x.l3, .int .i64 x.vs, .bool x.fl, .string x.tx, .int .i64 x.er, .int .i64 x.s, .int .i64 x.pl, .slice x.p x.a.length x.cl]
/-- It lies there, down to a depth. -/
def LX (w : World) : Nat → Ex → Prop
  | 0, _ => True
  | d + 1, x => x.a.length ≤ 9223372036854775807 ∧ ∀ i y, x.a[i]? = some y → (∃ b o, x.p = some ⟨b, o, none⟩ ∧ Lies w b (o + i * 17) y.c) ∧ LX w d y
theorem LX.mono {w W : World} (E : ∀ a u, w.cell? a = some u → W.cell? a = some u) : ∀ {d : Nat} {x : Ex}, LX w d x → LX W d x
  | 0, _, _ => trivial
  | d + 1, _, h3 => ⟨h3.1, fun i y hy => by
    obtain ⟨⟨b, o, h4, h5⟩, h8⟩ := h3.2 i y hy
    exact ⟨⟨b, o, h4, fun j u hj => E _ _ (h5 j u hj)⟩, LX.mono E h8⟩⟩
/-- Its size, as it is counted. -/
def szX : Nat → Ex → Int
  | 0, _ => 10000
  | d + 1, x => x.a.foldl (fun n y => IntKind.i64.wrap (n + szX d y)) 1
def SzC (d : Nat) : Prop := ∀ (x : Ex) (w : World), (d : Int) < 9223372036854775808 → LX w d x → Calls Tryz.prog 28 #[.agg x.c.toArray, .int .i64 (d : Int)] w fun e W => e = .returned (.int .i64 (szX d x)) ∧ Mb w W
set_option maxRecDepth 20000 in
theorem t_size0 : SzC 0 := fun x _ _ _ => fn_pure [.agg (x.c.map rel1).toArray, .int .i64 ((0 : Nat) : Int)] Tryz.func28 rfl rfl rfl (run_ok (st mo ⟨fun _ => st mo rfl, fun h => absurd rfl h⟩))
set_option maxRecDepth 20000 in
theorem t_size1 {d : Nat} (ih : SzC d) : SzC (d + 1) := fun x w hd hL => by
  refine fn_pure [.agg (x.c.map rel1).toArray, .int .i64 ((d + 1 : Nat) : Int)] Tryz.func28 rfl rfl rfl (run_ok (st mo ?_))
  refine ⟨fun h => absurd h (by omega), fun _ => st mo (st mo ?_)⟩
  refine w_loop (fun i : Nat => ⟨⟨25, [(1, .int .i64 ((d + 1 : Nat) : Int)), (5, .int .i64 ((x.a.take i).foldl (fun n y => IntKind.i64.wrap (n + szX d y)) 1)), (11, raw (.slice x.p x.a.length x.cl)), (12, .int .i64 (x.a.length : Int)), (13, .int .i64 (i : Int))]⟩, [], 0, w⟩)
    (fun i => i ≤ x.a.length) (fun i => x.a.length - i) 0 (by omega) [] ⟨rfl, ⟨fv, fv, fv, fv, fv, trivial⟩, trivial, xf, rfl, rfl⟩ ?_
  intro i hi
  refine st mo ⟨fun hlt => st mo ?_, fun hge => st mo (st mo ?_)⟩
  · have hil : i < x.a.length := by omega
    obtain ⟨y, hy⟩ : ∃ y, x.a[i]? = some y := ⟨_, List.getElem?_eq_getElem hil⟩
    obtain ⟨⟨b, o, h4, h5⟩, h8⟩ := hL.2 i y hy
    have hb := hL.1
    refine ⟨b, o, i, h4, rfl, hil, st mo ⟨y.c, rfl, h5, st mo ⟨_, wz d, st mo ?_⟩⟩⟩
    refine ⟨_, fun nn => r_call (t := .int .i64 (szX d y)) rfl rfl Tryz.func28 (fun W M E => ih y W (by omega) (h8.mono E)), st mo ⟨_, rfl, st mo ⟨_, wz (i + 1) rfl, st mo ?_⟩⟩⟩
    refine ⟨i + 1, hil, by dsimp; omega, [], rfl, ⟨fv, fv (by rw [List.take_add_one, hy, List.foldl_append]; rfl), fv, fv, fv, trivial⟩, trivial, xf, rfl, rfl⟩
  · show _ = _
    have : i = x.a.length := by omega
    subst this
    rw [List.take_length]; rfl
theorem t_size (d : Nat) : SzC d := by
  induction d with
  | zero => exact t_size0
  | succ d ih => exact t_size1 ih
/-- The whole of it lies there. -/
def LT (w : World) : Nat → Ex → Prop
  | 0, x => x.a = []
  | d + 1, x => x.a.length ≤ 9223372036854775807 ∧ ∀ i y, x.a[i]? = some y → (∃ b o, x.p = some ⟨b, o, none⟩ ∧ Lies w b (o + i * 17) y.c) ∧ LT w d y
theorem LT.mono {w W : World} (E : ∀ a u, w.cell? a = some u → W.cell? a = some u) : ∀ {d : Nat} {x : Ex}, LT w d x → LT W d x
  | 0, _, h => h
  | d + 1, _, h3 => ⟨h3.1, fun i y hy => by
    obtain ⟨⟨b, o, h4, h5⟩, h8⟩ := h3.2 i y hy
    exact ⟨⟨b, o, h4, fun j u hj => E _ _ (h5 j u hj)⟩, LT.mono E h8⟩⟩
theorem LT.len {w : World} {d : Nat} {x : Ex} (h : LT w d x) : x.a.length ≤ 9223372036854775807 := by
  cases d with
  | zero => rw [show x.a = [] from h]; decide
  | succ d => exact h.1
theorem LT.at {w : World} {d : Nat} {x y : Ex} {i : Nat} (h : LT w (d + 1) x) (hy : x.a[i]? = some y) : (∃ b o, x.p = some ⟨b, o, none⟩ ∧ Lies w b (o + i * 17) y.c) ∧ LT w d y := h.2 i y hy
theorem LT.lx {w : World} : ∀ {d : Nat} {x : Ex}, LT w d x → ∀ e, LX w e x
  | _, _, _, 0 => trivial
  | 0, x, h, e + 1 => ⟨by rw [show x.a = [] from h]; decide, fun i y hy => by rw [show x.a = [] from h] at hy; cases hy⟩
  | d + 1, _, h, e + 1 => ⟨h.1, fun i y hy => ⟨(h.2 i y hy).1, (h.2 i y hy).2.lx e⟩⟩
theorem LT.up {w : World} : ∀ {d : Nat} {x : Ex}, LT w d x → LT w (d + 1) x
  | 0, x, h => ⟨by rw [show x.a = [] from h]; decide, fun i y hy => by rw [show x.a = [] from h] at hy; cases hy⟩
  | d + 1, _, h => ⟨h.1, fun i y hy => ⟨(h.2 i y hy).1, (h.2 i y hy).2.up⟩⟩
end Go.Proofs.YtfmfeipeeedfpaaGreat
namespace Go.Proofs.YtfmfeipeeedfpaaGreat
open Go.RowKit

/-- The number of four limbs, the lowest first. -/
def vl (a b c d : Int) : Int := a + 18446744073709551616 * b + 340282366920938463463374607431768211456 * c + 6277101735386680763835789423207666416102355444464034512896 * d
def l0 (n : Int) : Int := n % 18446744073709551616
def l1 (n : Int) : Int := n / 18446744073709551616 % 18446744073709551616
def l2 (n : Int) : Int := n / 340282366920938463463374607431768211456 % 18446744073709551616
def l3 (n : Int) : Int := n / 6277101735386680763835789423207666416102355444464034512896 % 18446744073709551616
/-- 2 to the 256. -/
def MM : Int := 115792089237316195423570985008687907853269984665640564039457584007913129639936
def U1 (a : Int) : Prop := 0 ≤ a ∧ a < 18446744073709551616
def U4 (a b c d : Int) : Prop := U1 a ∧ U1 b ∧ U1 c ∧ U1 d

/-- A number of 256 bits as the program holds it. -/
abbrev nv (n : Int) : Value := .agg #[.int .u64 (l0 n), .int .u64 (l1 n), .int .u64 (l2 n), .int .u64 (l3 n)]

theorem u4_lb (n : Int) : U4 (l0 n) (l1 n) (l2 n) (l3 n) := by unfold U4 U1 l0 l1 l2 l3; omega
theorem vl_lb (n : Int) (h0 : 0 ≤ n) (h : n < MM) : vl (l0 n) (l1 n) (l2 n) (l3 n) = n := by unfold vl l0 l1 l2 l3; unfold MM at h; omega
theorem vl_bd {a b c d : Int} (h : U4 a b c d) : 0 ≤ vl a b c d ∧ vl a b c d < MM := by unfold vl MM; unfold U4 U1 at h; omega
theorem l0_vl {a b c d : Int} (h : U4 a b c d) : l0 (vl a b c d) = a := by unfold vl l0; unfold U4 U1 at h; omega
theorem l1_vl {a b c d : Int} (h : U4 a b c d) : l1 (vl a b c d) = b := by unfold vl l1; unfold U4 U1 at h; omega
theorem l2_vl {a b c d : Int} (h : U4 a b c d) : l2 (vl a b c d) = c := by unfold vl l2; unfold U4 U1 at h; omega
theorem l3_vl {a b c d : Int} (h : U4 a b c d) : l3 (vl a b c d) = d := by unfold vl l3; unfold U4 U1 at h; omega
theorem nv_vl {a b c d : Int} (h : U4 a b c d) : nv (vl a b c d) = .agg #[.int .u64 a, .int .u64 b, .int .u64 c, .int .u64 d] := by
  rw [nv, l0_vl h, l1_vl h, l2_vl h, l3_vl h]
theorem nv_of {a b c d n : Int} (h0 : a = l0 n) (h1 : b = l1 n) (h2 : c = l2 n) (h3 : d = l3 n) : (Value.agg #[.int .u64 a, .int .u64 b, .int .u64 c, .int .u64 d]) = nv n := by
  rw [h0, h1, h2, h3]
/-- How two numbers stand. -/
def cm (a b : Int) : Int := if a < b then -1 else if b < a then 1 else 0
theorem ret_int {k : IntKind} {a b : Int} (h : a = b) : Ending.returned (.int k a) = .returned (.int k b) := by rw [h]

/-- The world behind a call that only makes new blocks. -/
structure Mo (w w' : World) : Prop where
  mk ::
  b : Below w.heap.size w w'
  f : ∀ a, w'.frozen? a = w.frozen? a
  d : w.drawn ≤ w'.drawn
theorem Mo.refl (w : World) : Mo w w := ⟨Below.refl _ _, fun _ => rfl, Nat.le_refl _⟩
theorem Mo.trans {a b c : World} (h : Mo a b) (k : Mo b c) : Mo a c :=
  ⟨h.1.trans (k.1.mono h.1.size), fun x => (k.2 x).trans (h.2 x), Nat.le_trans h.3 k.3⟩
theorem Mo.drew {a b : World} (h : Mo a b) : Mo a b.drew := ⟨h.1.drew, h.2, Nat.le_succ_of_le h.3⟩
theorem Mo.drewN {a b : World} (h : Mo a b) (n : Nat) : Mo a (b.drewN n) := ⟨h.1.trans ⟨rfl, rfl, rfl, Nat.le_refl _, fun _ _ => rfl⟩, h.2, Nat.le_trans h.3 (Nat.le_add_right _ _)⟩
theorem drawn_set (b : World) (p : Addr) (v : Value) : (b.setCell p v).drawn = b.drawn := by
  unfold World.setCell; repeat (first | rfl | split)
theorem Mo.alloc {a b : World} (h : Mo a b) (c : Array Value) (t : TypeId) : Mo a (b.alloc (.cells c t)) :=
  ⟨h.1.alloc h.1.size _, fun x => (frozen?_alloc_cells _ _ _ x).trans (h.2 x), h.3⟩
theorem Mo.setCell {a b : World} (h : Mo a b) {p : Addr} (hp : a.heap.size ≤ p.block) (v : Value) : Mo a (b.setCell p v) :=
  ⟨h.1.setCell hp v, fun x => (World.frozen?_setCell _ _ _ _).trans (h.2 x), by rw [drawn_set]; exact h.3⟩
theorem Mo.size {a b : World} (h : Mo a b) : a.heap.size ≤ b.heap.size := h.1.size
theorem Mo.cell {a b : World} (h : Mo a b) : ∀ k o, k < a.heap.size → b.cell? ⟨k, o, none⟩ = a.cell? ⟨k, o, none⟩ := fun k o hk => h.1.cell (p := ⟨k, o, none⟩) hk

/-- math/bits.Add64: the model stands in for it. -/
theorem add64 (x y c : Int) (hx : 0 ≤ x) (hy : 0 ≤ y) (hc0 : 0 ≤ c) (hc : c ≤ 1) (w : World) : (callFunc 217 #[.int .u64 x, .int .u64 y, .int .u64 c]).run Tryz.prog w =
    .ok (.value (.tuple #[.int .u64 ((x + y + c) % 18446744073709551616), .int .u64 ((x + y + c) / 18446744073709551616)])) w := by
  rw [run_callFunc_extern Tryz.func217 (by kernel_rfl) (by kernel_rfl) (by kernel_rfl) (e := add64Entry) (by kernel_rfl), run_add64 x y c hx hy hc0 hc]
  rfl
theorem add64_0 (x y : Int) (hx : 0 ≤ x) (hy : 0 ≤ y) (w : World) : (callFunc 217 #[.int .u64 x, .int .u64 y, .int .u64 0]).run Tryz.prog w =
    .ok (.value (.tuple #[.int .u64 ((x + y) % 18446744073709551616), .int .u64 ((x + y) / 18446744073709551616)])) w := by
  simpa using add64 x y 0 hx hy (Int.le_refl 0) (by decide) w
/-- The number of limbs taken off any number: what it is short of 2 to the 256. -/
theorem vl_nv (n : Int) : vl (l0 n) (l1 n) (l2 n) (l3 n) = n % MM := by unfold vl l0 l1 l2 l3 MM; omega
theorem nv_mod (n : Int) : nv (n % MM) = nv n := by
  have h0 : l0 (n % MM) = l0 n := by unfold l0 MM; omega
  have h1 : l1 (n % MM) = l1 n := by unfold l1 MM; omega
  have h2 : l2 (n % MM) = l2 n := by unfold l2 MM; omega
  have h3 : l3 (n % MM) = l3 n := by unfold l3 MM; omega
  rw [nv, h0, h1, h2, h3]
/-- Too great; below 0. -/
def ov (n : Int) : Bool := decide (MM ≤ n)
def un (n : Int) : Bool := decide (n < 0)
theorem ov_ne {a b c d e f g h : Int} (h1 : U4 a b c d) (h2 : U4 e f g h) : ((vl a b c d + vl e f g h) / MM != 0) = ov (vl a b c d + vl e f g h) := by
  obtain ⟨p, q⟩ := vl_bd h1; obtain ⟨r, s⟩ := vl_bd h2
  unfold ov; unfold MM at *
  rw [Bool.eq_iff_iff]; simp; omega
theorem un_ne {a b c d e f g h : Int} (h1 : U4 a b c d) (h2 : U4 e f g h) : (-((vl a b c d - vl e f g h) / MM) != 0) = un (vl a b c d - vl e f g h) := by
  obtain ⟨p, q⟩ := vl_bd h1; obtain ⟨r, s⟩ := vl_bd h2
  unfold un; unfold MM at *
  rw [Bool.eq_iff_iff]; simp; omega
/-- The borrow of x less y and b. -/
def bw (x y b : Int) : Int := -((x - y - b) / 18446744073709551616)
theorem bw_bd {x y b : Int} (h1 : 0 ≤ x) (h2 : x < 18446744073709551616) (h3 : 0 ≤ y) (h4 : y < 18446744073709551616) (h5 : 0 ≤ b) (h6 : b ≤ 1) : 0 ≤ bw x y b ∧ bw x y b ≤ 1 := by unfold bw; omega
theorem sub64_nat (x y b : Nat) (hb : b ≤ 1) (w : World) : (callFunc 230 #[.int .u64 x, .int .u64 y, .int .u64 b]).run Tryz.prog w =
    .ok (.value (.tuple #[.int .u64 (((x + 18446744073709551616 - y - b) % 18446744073709551616 : Nat) : Int), .int .u64 ((if x < y + b then 1 else 0 : Nat) : Int)])) w := by
  have : b = 0 ∨ b = 1 := by omega
  rw [run_callFunc_extern Tryz.func230 (by kernel_rfl) (by kernel_rfl) (by kernel_rfl) (by rfl)]
  rcases this with rfl | rfl <;> rfl
/-- math/bits.Sub64: the model stands in for it. -/
theorem sub64 (x y b : Int) (h1 : 0 ≤ x) (h2 : x < 18446744073709551616) (h3 : 0 ≤ y) (h4 : y < 18446744073709551616) (h5 : 0 ≤ b) (h6 : b ≤ 1) (w : World) : (callFunc 230 #[.int .u64 x, .int .u64 y, .int .u64 b]).run Tryz.prog w =
    .ok (.value (.tuple #[.int .u64 ((x - y - b) % 18446744073709551616), .int .u64 (bw x y b)])) w := by
  obtain ⟨x, rfl⟩ := Int.eq_ofNat_of_zero_le h1
  obtain ⟨y, rfl⟩ := Int.eq_ofNat_of_zero_le h3
  obtain ⟨b, rfl⟩ := Int.eq_ofNat_of_zero_le h5
  have e1 : (((x + 18446744073709551616 - y - b) % 18446744073709551616 : Nat) : Int) = ((x : Int) - y - b) % 18446744073709551616 := by omega
  have e2 : ((if x < y + b then 1 else 0 : Nat) : Int) = bw x y b := by unfold bw; split <;> omega
  rw [← e1, ← e2]
  exact sub64_nat x y b (by omega) w
theorem sub64_0 (x y : Int) (h1 : 0 ≤ x) (h2 : x < 18446744073709551616) (h3 : 0 ≤ y) (h4 : y < 18446744073709551616) (w : World) : (callFunc 230 #[.int .u64 x, .int .u64 y, .int .u64 0]).run Tryz.prog w =
    .ok (.value (.tuple #[.int .u64 ((x - y) % 18446744073709551616), .int .u64 (bw x y 0)])) w := by
  simpa using sub64 x y 0 h1 h2 h3 h4 (Int.le_refl 0) (by decide) w
end Go.Proofs.YtfmfeipeeedfpaaGreat
namespace Go.Proofs.YtfmfeipeeedfpaaGreat
open S
abbrev M64 : Int := 18446744073709551616
def ad (x y c : Int) : Int := (x + y + c) % M64
def cy (x y c : Int) : Int := (x + y + c) / M64
/-- A call of what the model stands in for. -/
theorem r_ext {w0 : B0} {X : World} {P : Program} {o : Oper} {fr : FT} {h : HT} {n : Nat} {t u : Value} {f : FuncId} {us : List Value} {xs : Array Operand} {ts : Array TypeId} (ho : o.op = .call { callee := .value (.func f), args := xs, argTypes := ts })
    (hr : ∀ W, (callFunc f us.toArray).run P W = .ok (.value u) W) (hu : (evl fr xs.toList).map den2 = us := by rfl) (hv : den t = u := by rfl) (hp : (evl fr xs.toList).all pur2 = true := by rfl) (ht : pur t = true := by rfl) : Oa (Am w0 X) P o fr h n ⟨t, h, n, 0, 0⟩ := by
  subst hu hv
  refine Oa.val fun k W a hA hop => ⟨_, pur_vx ht, ?_⟩
  have h8 := evl_rel (fr := fr) (k := k) (a := a) xs.toList (fun y hy => hop y (by rw [ho]; simp [Op.operands, Call.operands]; right; simpa using hy))
  have h9 := LR.map (p := pur2) (d := den2) (fun _ _ h => pur2_eq h) h8 hp
  have : a.eval (.func f) = .func (.func f) #[] #[] := rfl
  have hx : xs.map a.eval = ((evl fr xs.toList).map den2).toArray := by apply Array.ext'; rw [← h9]; simp
  simp only [execOp, ho, resolve, this, Deferred.ofValue, invoke, Sem.run_bind, Sem.run_pure, Result.andThen_ok, hx]
  rw [show (#[] ++ ((evl fr xs.toList).map den2).toArray ++ #[] : Array Value) = ((evl fr xs.toList).map den2).toArray by simp]
  exact hr W
theorem add_r (x y c : Int) (hx : 0 ≤ x) (hy : 0 ≤ y) (h0 : 0 ≤ c) (hc : c ≤ 1) (W : World) : (callFunc 217 #[.int .u64 x, .int .u64 y, .int .u64 c]).run Tryz.prog W = .ok (.value (.tuple #[.int .u64 (ad x y c), .int .u64 (cy x y c)])) W := add64 x y c hx hy h0 hc W
abbrev wd (a0 a1 a2 a3 a4 : Int) : List Value := [.int .u64 a0, .int .u64 a1, .int .u64 a2, .int .u64 a3, .int .u64 a4]
def pk (l : List Int) (i : Nat) : Int := l.getD i 0
abbrev sw (i j : Nat) (s : Int) : Int := bif Nat.blt j i then s else 0
theorem cy_b {x y c : Int} (hx : 0 ≤ x ∧ x < M64) (hy : 0 ≤ y ∧ y < M64) (hc : 0 ≤ c ∧ c ≤ 1) : 0 ≤ cy x y c ∧ cy x y c ≤ 1 := by unfold cy; unfold M64 at *; omega
theorem ad_b (x y c : Int) : 0 ≤ ad x y c ∧ ad x y c < M64 := by unfold ad M64; omega
abbrev aw1 (a0 b0 : Int) : Int := cy a0 b0 0
abbrev aw2 (a0 a1 b0 b1 : Int) : Int := cy a1 b1 (aw1 a0 b0)
abbrev aw3 (a0 a1 a2 b0 b1 b2 : Int) : Int := cy a2 b2 (aw2 a0 a1 b0 b1)
abbrev aw4 (a0 a1 a2 a3 b0 b1 b2 b3 : Int) : Int := cy a3 b3 (aw3 a0 a1 a2 b0 b1 b2)
abbrev aw5 (a0 a1 a2 a3 a4 b0 b1 b2 b3 b4 : Int) : Int := cy a4 b4 (aw4 a0 a1 a2 a3 b0 b1 b2 b3)
set_option maxRecDepth 20000 in
theorem p_addW (a0 a1 a2 a3 a4 b0 b1 b2 b3 b4 : Int) (w : World) (ha : 0 ≤ a0 ∧ a0 < M64) (ha1 : 0 ≤ a1 ∧ a1 < M64) (ha2 : 0 ≤ a2 ∧ a2 < M64) (ha3 : 0 ≤ a3 ∧ a3 < M64) (ha4 : 0 ≤ a4 ∧ a4 < M64) (hb : 0 ≤ b0 ∧ b0 < M64) (hb1 : 0 ≤ b1 ∧ b1 < M64) (hb2 : 0 ≤ b2 ∧ b2 < M64) (hb3 : 0 ≤ b3 ∧ b3 < M64) (hb4 : 0 ≤ b4 ∧ b4 < M64) :
    Calls Tryz.prog 231 #[.agg (wd a0 a1 a2 a3 a4).toArray, .agg (wd b0 b1 b2 b3 b4).toArray] w fun r W => r = .returned (.agg (wd (ad a0 b0 0) (ad a1 b1 (aw1 a0 b0)) (ad a2 b2 (aw2 a0 a1 b0 b1)) (ad a3 b3 (aw3 a0 a1 a2 b0 b1 b2)) (ad a4 b4 (aw4 a0 a1 a2 a3 b0 b1 b2 b3))).toArray) ∧ Mb w W := by
  have c1 := cy_b ha hb (c := 0) (by decide)
  have c2 := cy_b ha1 hb1 c1
  have c3 := cy_b ha2 hb2 c2
  have c4 := cy_b ha3 hb3 c3
  refine fn_pure [.agg (wd a0 a1 a2 a3 a4).toArray, .agg (wd b0 b1 b2 b3 b4).toArray] Tryz.func231 rfl rfl rfl (run_ok (st mo ?_))
  generalize hs0 : ad a0 b0 0 = s0
  generalize hs1 : ad a1 b1 (aw1 a0 b0) = s1
  generalize hs2 : ad a2 b2 (aw2 a0 a1 b0 b1) = s2
  generalize hs3 : ad a3 b3 (aw3 a0 a1 a2 b0 b1 b2) = s3
  generalize hs4 : ad a4 b4 (aw4 a0 a1 a2 a3 b0 b1 b2 b3) = s4
  refine w_loop (fun i : Nat => ⟨⟨26, [(2, .pointer (some ⟨0, 0, none⟩)), (3, .pointer (some ⟨1, 0, none⟩)), (4, .pointer (some ⟨2, 0, none⟩)), (5, .pointer (some ⟨3, 0, none⟩)), (6, .int .u64 (pk [0, aw1 a0 b0, aw2 a0 a1 b0 b1, aw3 a0 a1 a2 b0 b1 b2, aw4 a0 a1 a2 a3 b0 b1 b2 b3, aw5 a0 a1 a2 a3 a4 b0 b1 b2 b3 b4] i)), (8, .int .i64 (i : Int))]⟩, [(0, some ((wd a0 a1 a2 a3 a4).map rel1)), (1, some ((wd b0 b1 b2 b3 b4).map rel1)), (2, some ((wd 0 0 0 0 0).map rel1)), (3, some ((wd (sw i 0 s0) (sw i 1 s1) (sw i 2 s2) (sw i 3 s3) (sw i 4 s4)).map rel1))], 4, w⟩) (fun i => i ≤ 5) (fun i => 5 - i) 0 (by omega) [0, 1, 2, 3] ⟨rfl, ⟨fp, fp, fp, fp, fv, fv, trivial⟩, ⟨flr rfl, flr rfl, flr rfl, flr rfl, trivial⟩, xf, rfl, rfl⟩ ?_
  intro i hi
  rcases i with _ | i
  · refine st mo ⟨fun _ => st mo ⟨0, rfl, by decide, st mo ⟨.int .u64 a0, rfl, st mo ⟨0, rfl, by decide, st mo ⟨.int .u64 b0, rfl, st mo ?_⟩⟩⟩⟩, fun h => absurd h (by omega)⟩
    refine ⟨_, fun nn => r_ext (t := .tuple #[.int .u64 s0, .int .u64 (aw1 a0 b0)]) rfl (fun W => by have q := add_r a0 b0 (0) ha.1 hb.1 (by decide) (by decide) W; rw [hs0] at q; exact q), st mo ⟨0, rfl, by decide, st mo ⟨Nat.le_of_ble_eq_true rfl, (wd (sw 1 0 s0) (sw 1 1 s1) (sw 1 2 s2) (sw 1 3 s3) (sw 1 4 s4)).map rel1, rfl, st mo ⟨dk, st mo ?_⟩⟩⟩⟩
    refine ⟨_, wz 1 rfl, st mo ?_⟩
    exact ⟨1, by omega, by decide, [0, 1, 2, 3], rfl, ⟨fp, fp, fp, fp, fv, fv, trivial⟩, ⟨flr rfl, flr rfl, flr rfl, flr rfl, trivial⟩, xf, rfl, rfl⟩
  rcases i with _ | i
  · refine st mo ⟨fun _ => st mo ⟨1, rfl, by decide, st mo ⟨.int .u64 a1, rfl, st mo ⟨1, rfl, by decide, st mo ⟨.int .u64 b1, rfl, st mo ?_⟩⟩⟩⟩, fun h => absurd h (by omega)⟩
    refine ⟨_, fun nn => r_ext (t := .tuple #[.int .u64 s1, .int .u64 (aw2 a0 a1 b0 b1)]) rfl (fun W => by have q := add_r a1 b1 (aw1 a0 b0) ha1.1 hb1.1 c1.1 c1.2 W; rw [hs1] at q; exact q), st mo ⟨1, rfl, by decide, st mo ⟨Nat.le_of_ble_eq_true rfl, (wd (sw 2 0 s0) (sw 2 1 s1) (sw 2 2 s2) (sw 2 3 s3) (sw 2 4 s4)).map rel1, rfl, st mo ⟨dk, st mo ?_⟩⟩⟩⟩
    refine ⟨_, wz 2 rfl, st mo ?_⟩
    exact ⟨2, by omega, by decide, [0, 1, 2, 3], rfl, ⟨fp, fp, fp, fp, fv, fv, trivial⟩, ⟨flr rfl, flr rfl, flr rfl, flr rfl, trivial⟩, xf, rfl, rfl⟩
  rcases i with _ | i
  · refine st mo ⟨fun _ => st mo ⟨2, rfl, by decide, st mo ⟨.int .u64 a2, rfl, st mo ⟨2, rfl, by decide, st mo ⟨.int .u64 b2, rfl, st mo ?_⟩⟩⟩⟩, fun h => absurd h (by omega)⟩
    refine ⟨_, fun nn => r_ext (t := .tuple #[.int .u64 s2, .int .u64 (aw3 a0 a1 a2 b0 b1 b2)]) rfl (fun W => by have q := add_r a2 b2 (aw2 a0 a1 b0 b1) ha2.1 hb2.1 c2.1 c2.2 W; rw [hs2] at q; exact q), st mo ⟨2, rfl, by decide, st mo ⟨Nat.le_of_ble_eq_true rfl, (wd (sw 3 0 s0) (sw 3 1 s1) (sw 3 2 s2) (sw 3 3 s3) (sw 3 4 s4)).map rel1, rfl, st mo ⟨dk, st mo ?_⟩⟩⟩⟩
    refine ⟨_, wz 3 rfl, st mo ?_⟩
    exact ⟨3, by omega, by decide, [0, 1, 2, 3], rfl, ⟨fp, fp, fp, fp, fv, fv, trivial⟩, ⟨flr rfl, flr rfl, flr rfl, flr rfl, trivial⟩, xf, rfl, rfl⟩
  rcases i with _ | i
  · refine st mo ⟨fun _ => st mo ⟨3, rfl, by decide, st mo ⟨.int .u64 a3, rfl, st mo ⟨3, rfl, by decide, st mo ⟨.int .u64 b3, rfl, st mo ?_⟩⟩⟩⟩, fun h => absurd h (by omega)⟩
    refine ⟨_, fun nn => r_ext (t := .tuple #[.int .u64 s3, .int .u64 (aw4 a0 a1 a2 a3 b0 b1 b2 b3)]) rfl (fun W => by have q := add_r a3 b3 (aw3 a0 a1 a2 b0 b1 b2) ha3.1 hb3.1 c3.1 c3.2 W; rw [hs3] at q; exact q), st mo ⟨3, rfl, by decide, st mo ⟨Nat.le_of_ble_eq_true rfl, (wd (sw 4 0 s0) (sw 4 1 s1) (sw 4 2 s2) (sw 4 3 s3) (sw 4 4 s4)).map rel1, rfl, st mo ⟨dk, st mo ?_⟩⟩⟩⟩
    refine ⟨_, wz 4 rfl, st mo ?_⟩
    exact ⟨4, by omega, by decide, [0, 1, 2, 3], rfl, ⟨fp, fp, fp, fp, fv, fv, trivial⟩, ⟨flr rfl, flr rfl, flr rfl, flr rfl, trivial⟩, xf, rfl, rfl⟩
  rcases i with _ | i
  · refine st mo ⟨fun _ => st mo ⟨4, rfl, by decide, st mo ⟨.int .u64 a4, rfl, st mo ⟨4, rfl, by decide, st mo ⟨.int .u64 b4, rfl, st mo ?_⟩⟩⟩⟩, fun h => absurd h (by omega)⟩
    refine ⟨_, fun nn => r_ext (t := .tuple #[.int .u64 s4, .int .u64 (aw5 a0 a1 a2 a3 a4 b0 b1 b2 b3 b4)]) rfl (fun W => by have q := add_r a4 b4 (aw4 a0 a1 a2 a3 b0 b1 b2 b3) ha4.1 hb4.1 c4.1 c4.2 W; rw [hs4] at q; exact q), st mo ⟨4, rfl, by decide, st mo ⟨Nat.le_of_ble_eq_true rfl, (wd (sw 5 0 s0) (sw 5 1 s1) (sw 5 2 s2) (sw 5 3 s3) (sw 5 4 s4)).map rel1, rfl, st mo ⟨dk, st mo ?_⟩⟩⟩⟩
    refine ⟨_, wz 5 rfl, st mo ?_⟩
    exact ⟨5, by omega, by decide, [0, 1, 2, 3], rfl, ⟨fp, fp, fp, fp, fv, fv, trivial⟩, ⟨flr rfl, flr rfl, flr rfl, flr rfl, trivial⟩, xf, rfl, rfl⟩
  obtain rfl : i = 0 := by omega
  refine st mo ⟨fun h => absurd h (by omega), fun _ => st mo (st mo rfl)⟩
def nt (x : Int) : Int := 18446744073709551615 - x
theorem nt_x {a : Int} (h : 0 ≤ a ∧ a < M64) : IntKind.u64.wrap (((BitVec.ofInt IntKind.u64.bits (if IntKind.u64.signed = true then -1 else IntKind.u64.max) ^^^ BitVec.ofInt IntKind.u64.bits a).toNat : Nat) : Int) = nt a := by
  have e : BitVec.ofInt IntKind.u64.bits (if IntKind.u64.signed = true then -1 else IntKind.u64.max) = BitVec.allOnes 64 := by
    show BitVec.ofInt 64 18446744073709551615 = _
    decide
  rw [e]
  show IntKind.u64.wrap (((BitVec.allOnes 64 ^^^ BitVec.ofInt 64 a).toNat : Nat) : Int) = nt a
  rw [BitVec.allOnes_xor, BitVec.toNat_not, BitVec.toNat_ofInt, IntKind.wrap_u64]
  unfold nt
  unfold M64 at h
  omega
abbrev tu (i j : Nat) (s : Int) : Int := bif Nat.blt j i then nt s else s
theorem nt_b {x : Int} (h : 0 ≤ x ∧ x < M64) : 0 ≤ nt x ∧ nt x < M64 := by unfold nt; unfold M64 at *; omega
abbrev mc1 (a0 : Int) : Int := aw1 (nt a0) 1
abbrev mc2 (a0 a1 : Int) : Int := aw2 (nt a0) (nt a1) 1 0
abbrev mc3 (a0 a1 a2 : Int) : Int := aw3 (nt a0) (nt a1) (nt a2) 1 0 0
abbrev mc4 (a0 a1 a2 a3 : Int) : Int := aw4 (nt a0) (nt a1) (nt a2) (nt a3) 1 0 0 0
def m0 (a0 : Int) : Int := ad (nt a0) 1 0
def m1 (a0 a1 : Int) : Int := ad (nt a1) 0 (mc1 a0)
def m2 (a0 a1 a2 : Int) : Int := ad (nt a2) 0 (mc2 a0 a1)
def m3 (a0 a1 a2 a3 : Int) : Int := ad (nt a3) 0 (mc3 a0 a1 a2)
def m4 (a0 a1 a2 a3 a4 : Int) : Int := ad (nt a4) 0 (mc4 a0 a1 a2 a3)
set_option maxRecDepth 20000 in
theorem p_minus (a0 a1 a2 a3 a4 : Int) (w : World) (ha0 : 0 ≤ a0 ∧ a0 < M64) (ha1 : 0 ≤ a1 ∧ a1 < M64) (ha2 : 0 ≤ a2 ∧ a2 < M64) (ha3 : 0 ≤ a3 ∧ a3 < M64) (ha4 : 0 ≤ a4 ∧ a4 < M64) :
    Calls Tryz.prog 227 #[.agg (wd a0 a1 a2 a3 a4).toArray] w fun r W => r = .returned (.agg (wd (m0 a0) (m1 a0 a1) (m2 a0 a1 a2) (m3 a0 a1 a2 a3) (m4 a0 a1 a2 a3 a4)).toArray) ∧ Mb w W := by
  refine fn_pure [.agg (wd a0 a1 a2 a3 a4).toArray] Tryz.func227 rfl rfl rfl (run_ok (st mo ?_))
  refine w_loop (fun i : Nat => ⟨⟨Tryz.f227.ntmps, [(1, .pointer (some ⟨0, 0, none⟩)), (2, .pointer (some ⟨1, 0, none⟩)), (4, .int .i64 (i : Int))]⟩, [(0, some ((wd (tu i 0 a0) (tu i 1 a1) (tu i 2 a2) (tu i 3 a3) (tu i 4 a4)).map rel1)), (1, some ((wd 0 0 0 0 0).map rel1))], 2, w⟩) (fun i => i ≤ 5) (fun i => 5 - i) 0 (by omega) [0, 1] ⟨rfl, ⟨fp, fp, fv, trivial⟩, ⟨flr rfl, flr rfl, trivial⟩, xf, rfl, rfl⟩ ?_
  intro i hi
  rcases i with _ | i
  · refine st mo ⟨fun _ => st mo ⟨0, rfl, by decide, st mo ⟨.int .u64 a0, rfl, st mo ?_⟩⟩, fun h => absurd h (by omega)⟩
    refine ⟨_, nt_x ha0, st mo ⟨0, rfl, by decide, st mo ⟨Nat.le_of_ble_eq_true rfl, (wd (tu 1 0 a0) (tu 1 1 a1) (tu 1 2 a2) (tu 1 3 a3) (tu 1 4 a4)).map rel1, rfl, st mo ?_⟩⟩⟩
    refine ⟨_, wz 1 rfl, st mo ?_⟩
    exact ⟨1, by omega, by decide, [0, 1], rfl, ⟨fp, fp, fv, trivial⟩, ⟨flr rfl, flr rfl, trivial⟩, xf, rfl, rfl⟩
  rcases i with _ | i
  · refine st mo ⟨fun _ => st mo ⟨1, rfl, by decide, st mo ⟨.int .u64 a1, rfl, st mo ?_⟩⟩, fun h => absurd h (by omega)⟩
    refine ⟨_, nt_x ha1, st mo ⟨1, rfl, by decide, st mo ⟨Nat.le_of_ble_eq_true rfl, (wd (tu 2 0 a0) (tu 2 1 a1) (tu 2 2 a2) (tu 2 3 a3) (tu 2 4 a4)).map rel1, rfl, st mo ?_⟩⟩⟩
    refine ⟨_, wz 2 rfl, st mo ?_⟩
    exact ⟨2, by omega, by decide, [0, 1], rfl, ⟨fp, fp, fv, trivial⟩, ⟨flr rfl, flr rfl, trivial⟩, xf, rfl, rfl⟩
  rcases i with _ | i
  · refine st mo ⟨fun _ => st mo ⟨2, rfl, by decide, st mo ⟨.int .u64 a2, rfl, st mo ?_⟩⟩, fun h => absurd h (by omega)⟩
    refine ⟨_, nt_x ha2, st mo ⟨2, rfl, by decide, st mo ⟨Nat.le_of_ble_eq_true rfl, (wd (tu 3 0 a0) (tu 3 1 a1) (tu 3 2 a2) (tu 3 3 a3) (tu 3 4 a4)).map rel1, rfl, st mo ?_⟩⟩⟩
    refine ⟨_, wz 3 rfl, st mo ?_⟩
    exact ⟨3, by omega, by decide, [0, 1], rfl, ⟨fp, fp, fv, trivial⟩, ⟨flr rfl, flr rfl, trivial⟩, xf, rfl, rfl⟩
  rcases i with _ | i
  · refine st mo ⟨fun _ => st mo ⟨3, rfl, by decide, st mo ⟨.int .u64 a3, rfl, st mo ?_⟩⟩, fun h => absurd h (by omega)⟩
    refine ⟨_, nt_x ha3, st mo ⟨3, rfl, by decide, st mo ⟨Nat.le_of_ble_eq_true rfl, (wd (tu 4 0 a0) (tu 4 1 a1) (tu 4 2 a2) (tu 4 3 a3) (tu 4 4 a4)).map rel1, rfl, st mo ?_⟩⟩⟩
    refine ⟨_, wz 4 rfl, st mo ?_⟩
    exact ⟨4, by omega, by decide, [0, 1], rfl, ⟨fp, fp, fv, trivial⟩, ⟨flr rfl, flr rfl, trivial⟩, xf, rfl, rfl⟩
  rcases i with _ | i
  · refine st mo ⟨fun _ => st mo ⟨4, rfl, by decide, st mo ⟨.int .u64 a4, rfl, st mo ?_⟩⟩, fun h => absurd h (by omega)⟩
    refine ⟨_, nt_x ha4, st mo ⟨4, rfl, by decide, st mo ⟨Nat.le_of_ble_eq_true rfl, (wd (tu 5 0 a0) (tu 5 1 a1) (tu 5 2 a2) (tu 5 3 a3) (tu 5 4 a4)).map rel1, rfl, st mo ?_⟩⟩⟩
    refine ⟨_, wz 5 rfl, st mo ?_⟩
    exact ⟨5, by omega, by decide, [0, 1], rfl, ⟨fp, fp, fv, trivial⟩, ⟨flr rfl, flr rfl, trivial⟩, xf, rfl, rfl⟩
  obtain rfl : i = 0 := by omega
  refine st mo ⟨fun h => absurd h (by omega), fun _ => st mo (st mo ?_)⟩
  refine ⟨_, fun nn => r_call (t := .agg (wd (m0 a0) (m1 a0 a1) (m2 a0 a1 a2) (m3 a0 a1 a2 a3) (m4 a0 a1 a2 a3 a4)).toArray) rfl rfl Tryz.func231 (fun W M E => p_addW (nt a0) (nt a1) (nt a2) (nt a3) (nt a4) 1 0 0 0 0 W (nt_b ha0) (nt_b ha1) (nt_b ha2) (nt_b ha3) (nt_b ha4) (by decide) (by decide) (by decide) (by decide) (by decide)), st mo ?_⟩
  rfl
end Go.Proofs.YtfmfeipeeedfpaaGreat
namespace Go.Proofs.YtfmfeipeeedfpaaGreat
open Go.RowKit
theorem part0 (x0 x1 x2 x3 : Value) (w : World) : (part 22 #[x0, x1, x2, x3] 0).run Tryz.prog w = .ok x0 w := by kernel_rfl
theorem part1 (x0 x1 x2 x3 : Value) (w : World) : (part 22 #[x0, x1, x2, x3] 1).run Tryz.prog w = .ok x1 w := by kernel_rfl
theorem part2 (x0 x1 x2 x3 : Value) (w : World) : (part 22 #[x0, x1, x2, x3] 2).run Tryz.prog w = .ok x2 w := by kernel_rfl
theorem part3 (x0 x1 x2 x3 : Value) (w : World) : (part 22 #[x0, x1, x2, x3] 3).run Tryz.prog w = .ok x3 w := by kernel_rfl
theorem cells22 : Tryz.prog.cellsOf 22 = 1 := by kernel_rfl
theorem info22 : ∃ i, Tryz.prog.info? 22 = some i := Option.isSome_iff_exists.1 (by kernel_rfl)
theorem eq4 (a b c d e f g h : Int) (w : World) : (Op.equalIn 10000 24 (.agg #[.int .u64 a, .int .u64 b, .int .u64 c, .int .u64 d]) (.agg #[.int .u64 e, .int .u64 f, .int .u64 g, .int .u64 h])).run Tryz.prog w = .ok (a == e && (b == f && (c == g && d == h))) w := by
  obtain ⟨i, hi⟩ := info22
  rw [show (10000 : Nat) = 9998 + 1 + 1 from rfl, run_equalIn_array w (9998 + 1) _ _ Tryz.underlying24 hi, cells22]
  have q : ∀ (x y : Int), (Op.equalIn 9999 22 (.int .u64 x) (.int .u64 y)).run Tryz.prog w = .ok (x == y) w := fun x y => run_equalIn_int w 9998 22 .u64 .u64 x y Tryz.underlying22
  rw [show List.range 4 = [0, 1, 2, 3] from rfl]
  cases ha : a == e <;> cases hb : b == f <;> cases hc : c == g <;> cases hd : d == h <;> simp [Op.eqItems, Sem.run_bind, part0, part1, part2, part3, Result.andThen_ok, q, ha, hb, hc, hd, Sem.run_pure]
end Go.Proofs.YtfmfeipeeedfpaaGreat
namespace Go.Proofs.YtfmfeipeeedfpaaGreat
open S Go.RowKit
theorem Mo.mb {w W : World} (h : Mo w W) : S.Mb w W := ⟨h.1, h.3⟩
abbrev dc (b : Bool) (n s : Int) : Value := .agg #[.bool b, .int .u64 (l0 n), .int .u64 (l1 n), .int .u64 (l2 n), .int .u64 (l3 n), .int .i64 s]
/-- A number of twice as many bits. -/
abbrev dw (X : Int) : Value := .agg #[.int .u64 (l0 (X / MM)), .int .u64 (l1 (X / MM)), .int .u64 (l2 (X / MM)), .int .u64 (l3 (X / MM)), .int .u64 (l0 X), .int .u64 (l1 X), .int .u64 (l2 X), .int .u64 (l3 X)]
def sc (s : Int) : Bool := decide (0 ≤ s) && decide (s ≤ 18)
def ck (b : Bool) (n s : Int) : Int := if sc s && !(b && decide (n = 0)) then 0 else 20
def ab (v : Int) : Int := if v < 0 then -v else v
def aw (b : Bool) (q r d p : Int) : Bool := if r = 0 then false else if p = 1 then decide (d ≤ r + r) else if p = 2 then (decide (d < r + r) || (decide (r + r = d) && decide (q % 2 = 1))) else if p = 4 then true else if p = 5 then b else false
/-- So many digits taken off, rounded. -/
def ro (b : Bool) (X : Int) (k : Nat) (p : Int) : Int := X / 10 ^ k + if aw b (X / 10 ^ k) (X % 10 ^ k) (10 ^ k) p then 1 else 0
/-- Ten to the k. -/
def pw (k : Int) : Int := 10 ^ k.toNat
def rdV (b : Bool) (X f S p : Int) : Int := if f ≤ S then X * pw (S - f) else ro b X (f - S).toNat p
/-- The sum of two numbers, in the last digits of the greater scale. -/
def addV (u s v t : Int) : Int := u * pw (max s t - s) + v * pw (max s t - t)
/-- What decimal answers: a number and an error. -/
structure DR where
  b : Bool
  n : Int
  s : Int
  e : Int
abbrev DR.v (r : DR) : Value := .tuple #[dc r.b r.n r.s, .int .i64 r.e]
def erR (c : Int) : DR := ⟨false, 0, 0, c⟩
def fzR (V S : Int) : DR := if ab V < MM then ⟨decide (V < 0), ab V, S, 0⟩ else erR 7
def fxR (b : Bool) (V S : Int) : DR := if V < MM then ⟨b && !decide (V = 0), V, S, 0⟩ else erR 7
/-- The number with its sign. -/
def sgn (b : Bool) (n : Int) : Int := if b then -n else n
def addR (b : Bool) (n s : Int) (c : Bool) (m t : Int) : DR := fzR (addV (sgn b n) s (sgn c m) t) (max s t)
def subR (b : Bool) (n s : Int) (c : Bool) (m t : Int) : DR := fzR (addV (sgn b n) s (-(sgn c m)) t) (max s t)
def mulR (b : Bool) (n s : Int) (c : Bool) (m t : Int) : DR := fxR (b != c) (rdV (b != c) (n * m) (s + t) (min (s + t) 18) 2) (min (s + t) 18)
def cmpR (b : Bool) (n s : Int) (c : Bool) (m t : Int) : Int := cm (sgn b n * pw (max s t - s)) (sgn c m * pw (max s t - t))
def negR (b : Bool) (n s : Int) : DR := ⟨!b && !decide (n = 0), n, s, 0⟩
def mtoR (b : Bool) (n s : Int) (c : Bool) (m t S p : Int) : DR := if sc S then (if 1 ≤ p ∧ p ≤ 5 then fxR (b != c) (rdV (b != c) (n * m) (s + t) S p) S else erR 22) else erR 21
def rndR (b : Bool) (n s S p : Int) : DR := if sc S then (if 1 ≤ p ∧ p ≤ 5 then fxR b (rdV b n s S p) S else erR 22) else erR 21
theorem pw_pos (k : Int) : 0 < pw k := Int.pow_pos (by decide)
theorem pw_nat (k : Nat) : pw (k : Int) = 10 ^ k := rfl
theorem ab_nn (v : Int) : 0 ≤ ab v := by unfold ab; split <;> omega
theorem ab_c (v : Int) : (v < 0 ∧ ab v = -v) ∨ (0 ≤ v ∧ ab v = v) := by
  unfold ab; by_cases h : v < 0
  · exact Or.inl ⟨h, if_pos h⟩
  · exact Or.inr ⟨by omega, if_neg h⟩
theorem sc_iff {s : Int} : sc s = true ↔ 0 ≤ s ∧ s ≤ 18 := by unfold sc; simp
theorem ck_0 {b : Bool} {n s : Int} (h : ck b n s = 0) : sc s = true ∧ (b = true → ¬ n = 0) := by
  unfold ck at h
  split at h
  next hh => simp at hh; exact ⟨hh.1, fun hb => by subst hb; simpa using hh.2⟩
  next => exact absurd h (by decide)
theorem ck_s {b : Bool} {n s : Int} (h : ck b n s = 0) : sc s = true := (ck_0 h).1
theorem ck_ok {b : Bool} {n s : Int} (h : sc s = true) (hb : b = true → ¬ n = 0) : ck b n s = 0 := by
  unfold ck; rw [h]; cases b
  · rfl
  · simp [hb rfl]
/-! == of numbers. -/
theorem nv_inj {n m : Int} (hn0 : 0 ≤ n) (hn : n < MM) (hm0 : 0 ≤ m) (hm : m < MM) (h : l0 n = l0 m ∧ l1 n = l1 m ∧ l2 n = l2 m ∧ l3 n = l3 m) : n = m := by
  rw [← vl_lb n hn0 hn, ← vl_lb m hm0 hm, h.1, h.2.1, h.2.2.1, h.2.2.2]
theorem limbs_eq {n m : Int} (hn0 : 0 ≤ n) (hn : n < MM) (hm0 : 0 ≤ m) (hm : m < MM) : (l0 n == l0 m && (l1 n == l1 m && (l2 n == l2 m && l3 n == l3 m))) = decide (n = m) := by
  rw [Bool.eq_iff_iff]
  simp
  constructor
  · rintro ⟨a, b, c, d⟩; exact nv_inj hn0 hn hm0 hm ⟨a, b, c, d⟩
  · rintro rfl; exact ⟨rfl, rfl, rfl, rfl⟩
theorem gt24 : Tryz.prog.eqGuardType Tryz.prog.depth 24 = false := by kernel_rfl
theorem gt203 : Tryz.prog.eqGuardType Tryz.prog.depth 203 = false := by kernel_rfl
theorem guard_run {op : BinOp} {ty : TypeId} {a b : Array Value} {w : World} (x y : Operand) (hg : Tryz.prog.eqGuardType Tryz.prog.depth ty = false) : (eqGuard op ty x y (.agg a) (.agg b)).run Tryz.prog w = .ok () w := by
  unfold eqGuard
  cases op <;> simp [hg]
theorem eqa_run {ty : TypeId} {a b : Array Value} {r : Bool} {w : World} (hg : Tryz.prog.eqGuardType Tryz.prog.depth ty = false) (q : (Op.equalIn 10000 ty (.agg a) (.agg b)).run Tryz.prog w = .ok r w) (x y : Operand) :
    (do eqGuard .eql ty x y (.agg a) (.agg b); binOp .eql ty (.agg a) (.agg b)).run Tryz.prog w = .ok (.bool r) w := by
  have e : binOp .eql ty (.agg a) (.agg b) = (do pure (.bool (← Op.equalIn 10000 ty (.agg a) (.agg b)))) := rfl
  rw [Sem.run_bind, guard_run x y hg, e, Result.andThen_ok, Sem.run_bind, q]; rfl
theorem nea_run {ty : TypeId} {a b : Array Value} {r : Bool} {w : World} (hg : Tryz.prog.eqGuardType Tryz.prog.depth ty = false) (q : (Op.equalIn 10000 ty (.agg a) (.agg b)).run Tryz.prog w = .ok r w) (x y : Operand) :
    (do eqGuard .neq ty x y (.agg a) (.agg b); binOp .neq ty (.agg a) (.agg b)).run Tryz.prog w = .ok (.bool (!r)) w := by
  have e : binOp .neq ty (.agg a) (.agg b) = (do pure (.bool (!(← Op.equalIn 10000 ty (.agg a) (.agg b))))) := rfl
  rw [Sem.run_bind, guard_run x y hg, e, Result.andThen_ok, Sem.run_bind, q]; rfl
theorem eq4d (d : Nat) (a b c e f g h i : Int) (w : World) : (Op.equalIn (d + 1 + 1) 24 (.agg #[.int .u64 a, .int .u64 b, .int .u64 c, .int .u64 e]) (.agg #[.int .u64 f, .int .u64 g, .int .u64 h, .int .u64 i])).run Tryz.prog w = .ok (a == f && (b == g && (c == h && e == i))) w := by
  obtain ⟨j, hj⟩ := info22
  rw [run_equalIn_array w (d + 1) _ _ Tryz.underlying24 hj, cells22]
  have q : ∀ (x y : Int), (Op.equalIn (d + 1) 22 (.int .u64 x) (.int .u64 y)).run Tryz.prog w = .ok (x == y) w := fun x y => run_equalIn_int w d 22 .u64 .u64 x y Tryz.underlying22
  rw [show List.range 4 = [0, 1, 2, 3] from rfl]
  cases ha : a == f <;> cases hb : b == g <;> cases hc : c == h <;> cases hd : e == i <;> simp [Op.eqItems, Sem.run_bind, part0, part1, part2, part3, Result.andThen_ok, q, ha, hb, hc, hd, Sem.run_pure]
theorem ht81 : Tryz.prog.underlying 203 = some (.struct (Tryz.prog.fieldsOf 203)) := by kernel_rfl
theorem hp81 : Tryz.prog.stoodInHeld 203 = false := by kernel_rfl
theorem fo81 : (Tryz.prog.fieldsOf 203).toList.map (fun f => (f.name, f.type, f.offset)) = [("high", 24, 0), ("low", 24, 4)] := by kernel_rfl
theorem pt80 (x0 x1 x2 x3 x4 x5 x6 x7 : Value) (w : World) : (part 24 #[x0, x1, x2, x3, x4, x5, x6, x7] 0).run Tryz.prog w = .ok (.agg #[x0, x1, x2, x3]) w := by kernel_rfl
theorem pt84 (x0 x1 x2 x3 x4 x5 x6 x7 : Value) (w : World) : (part 24 #[x0, x1, x2, x3, x4, x5, x6, x7] 4).run Tryz.prog w = .ok (.agg #[x4, x5, x6, x7]) w := by kernel_rfl
theorem eq81n (a0 a1 a2 a3 a4 a5 a6 a7 b0 b1 b2 b3 b4 b5 b6 b7 : Int) (w : World) : (Op.equalIn 10000 203 (.agg #[.int .u64 a0, .int .u64 a1, .int .u64 a2, .int .u64 a3, .int .u64 a4, .int .u64 a5, .int .u64 a6, .int .u64 a7]) (.agg #[.int .u64 b0, .int .u64 b1, .int .u64 b2, .int .u64 b3, .int .u64 b4, .int .u64 b5, .int .u64 b6, .int .u64 b7])).run Tryz.prog w = .ok ((a0 == b0 && (a1 == b1 && (a2 == b2 && a3 == b3))) && (a4 == b4 && (a5 == b5 && (a6 == b6 && a7 == b7)))) w := by
  rw [show (10000 : Nat) = 9999 + 1 from rfl, run_equalIn_struct w 9999 203 _ _ ht81 hp81]
  have h := fo81
  generalize (Tryz.prog.fieldsOf 203).toList = L at h
  have hl : L.length = 2 := by have := congrArg List.length h; simpa using this
  match L, hl with
  | [f0, f1], _ =>
    simp at h
    obtain ⟨⟨x0, x1, x2⟩, ⟨y0, y1, y2⟩⟩ := h
    have q1 := eq4d 9997 a0 a1 a2 a3 b0 b1 b2 b3 w
    have q2 := eq4d 9997 a4 a5 a6 a7 b4 b5 b6 b7 w
    generalize hz : (a0 == b0 && (a1 == b1 && (a2 == b2 && a3 == b3))) = z at q1 ⊢
    generalize hz : (a4 == b4 && (a5 == b5 && (a6 == b6 && a7 == b7))) = y at q2 ⊢
    simp only [Op.eqFields, x0, x1, x2, y0, y1, y2]
    cases z <;> cases y <;> simp [Sem.run_bind, pt80, pt84, Result.andThen_ok, q1, q2, Sem.run_pure]
theorem l0_mod (n : Int) : l0 (n % MM) = l0 n := by unfold l0 MM; omega
theorem l1_mod (n : Int) : l1 (n % MM) = l1 n := by unfold l1 MM; omega
theorem l2_mod (n : Int) : l2 (n % MM) = l2 n := by unfold l2 MM; omega
theorem l3_mod (n : Int) : l3 (n % MM) = l3 n := by unfold l3 MM; omega
theorem wide_eqn {X Y : Int} (hX0 : 0 ≤ X) (hX : X < MM * MM) (hY0 : 0 ≤ Y) (hY : Y < MM * MM) : ((l0 (X / MM) == l0 (Y / MM) && (l1 (X / MM) == l1 (Y / MM) && (l2 (X / MM) == l2 (Y / MM) && l3 (X / MM) == l3 (Y / MM)))) && (l0 X == l0 Y && (l1 X == l1 Y && (l2 X == l2 Y && l3 X == l3 Y)))) = decide (X = Y) := by
  have p : (0 : Int) < MM := by decide
  rw [limbs_eq (Int.ediv_nonneg hX0 (by omega)) (Int.ediv_lt_of_lt_mul p hX) (Int.ediv_nonneg hY0 (by omega)) (Int.ediv_lt_of_lt_mul p hY), ← l0_mod X, ← l1_mod X, ← l2_mod X, ← l3_mod X, ← l0_mod Y, ← l1_mod Y, ← l2_mod Y, ← l3_mod Y, limbs_eq (Int.emod_nonneg _ (by omega)) (Int.emod_lt_of_pos _ p) (Int.emod_nonneg _ (by omega)) (Int.emod_lt_of_pos _ p)]
  rw [Bool.eq_iff_iff]
  simp
  constructor
  · rintro ⟨a, b⟩
    rw [← Int.mul_ediv_add_emod X MM, ← Int.mul_ediv_add_emod Y MM, a, b]
  · rintro rfl; exact ⟨rfl, rfl⟩
section
variable {w0 : B0} {X : World} {o : Oper} {fr : FT} {h : HT} {n : Nat} {y z : Operand} {t' : TypeId}
theorem eq_limbs (a b : Int) (ha : 0 ≤ a ∧ a < MM) (hb : 0 ≤ b ∧ b < MM) (w : World) : (Op.equalIn 10000 24 (nv a) (nv b)).run Tryz.prog w = .ok (decide (a = b)) w := by
  rw [eq4, limbs_eq ha.1 ha.2 hb.1 hb.2]
/-- == and != of two numbers. -/
theorem r_eqN (a b : Int) (ha : 0 ≤ a ∧ a < MM) (hb : 0 ≤ b ∧ b < MM) (ho : o.op = .binOp .eql 24 y z t' := by rfl) (hy : den2 (evo fr y) = nv a := by rfl) (hz : den2 (evo fr z) = nv b := by rfl) (hpy : pur2 (evo fr y) = true := by rfl) (hpz : pur2 (evo fr z) = true := by rfl) : Oa (Am w0 X) Tryz.prog o fr h n ⟨.bool (decide (a = b)), h, n, 0, 0⟩ :=
  Oo.to (s_bin0 ho (fun k u hu => by rw [pur2_eq hu hpy, hy]) (fun k u hu => by rw [pur2_eq hu hpz, hz]) rfl (fun w => eqa_run gt24 (eq_limbs a b ha hb w) y z))
theorem r_neN (a b : Int) (ha : 0 ≤ a ∧ a < MM) (hb : 0 ≤ b ∧ b < MM) (ho : o.op = .binOp .neq 24 y z t' := by rfl) (hy : den2 (evo fr y) = nv a := by rfl) (hz : den2 (evo fr z) = nv b := by rfl) (hpy : pur2 (evo fr y) = true := by rfl) (hpz : pur2 (evo fr z) = true := by rfl) : Oa (Am w0 X) Tryz.prog o fr h n ⟨.bool (!decide (a = b)), h, n, 0, 0⟩ :=
  Oo.to (s_bin0 ho (fun k u hu => by rw [pur2_eq hu hpy, hy]) (fun k u hu => by rw [pur2_eq hu hpz, hz]) rfl (fun w => nea_run gt24 (eq_limbs a b ha hb w) y z))
theorem r_eqW (a b : Int) (ha : 0 ≤ a ∧ a < MM * MM) (hb : 0 ≤ b ∧ b < MM * MM) (ho : o.op = .binOp .eql 203 y z t' := by rfl) (hy : den2 (evo fr y) = dw a := by rfl) (hz : den2 (evo fr z) = dw b := by rfl) (hpy : pur2 (evo fr y) = true := by rfl) (hpz : pur2 (evo fr z) = true := by rfl) : Oa (Am w0 X) Tryz.prog o fr h n ⟨.bool (decide (a = b)), h, n, 0, 0⟩ :=
  Oo.to (s_bin0 ho (fun k u hu => by rw [pur2_eq hu hpy, hy]) (fun k u hu => by rw [pur2_eq hu hpz, hz]) rfl (fun w => eqa_run gt203 (by rw [← wide_eqn ha.1 ha.2 hb.1 hb.2]; exact eq81n ..) y z))
end
end Go.Proofs.YtfmfeipeeedfpaaGreat
namespace Go.Proofs.YtfmfeipeeedfpaaGreat
open Go.RowKit
/-- The block k holds these limbs. -/
def At4 (w : World) (k : Nat) (a b c d : Int) : Prop := w.cell? ⟨k, 0, none⟩ = some (.int .u64 a) ∧ w.cell? ⟨k, 1, none⟩ = some (.int .u64 b) ∧ w.cell? ⟨k, 2, none⟩ = some (.int .u64 c) ∧ w.cell? ⟨k, 3, none⟩ = some (.int .u64 d)
def At8 (w : World) (k : Nat) (a b c d e f g h : Int) : Prop := w.cell? ⟨k, 0, none⟩ = some (.int .u64 a) ∧ w.cell? ⟨k, 1, none⟩ = some (.int .u64 b) ∧ w.cell? ⟨k, 2, none⟩ = some (.int .u64 c) ∧ w.cell? ⟨k, 3, none⟩ = some (.int .u64 d) ∧ w.cell? ⟨k, 4, none⟩ = some (.int .u64 e) ∧ w.cell? ⟨k, 5, none⟩ = some (.int .u64 f) ∧ w.cell? ⟨k, 6, none⟩ = some (.int .u64 g) ∧ w.cell? ⟨k, 7, none⟩ = some (.int .u64 h)
/-- No cell of the block k is frozen. -/
def Fz (w : World) (k : Nat) : Prop := ∀ o, w.frozen? ⟨k, o, none⟩ = false
theorem At4.mo {w w' : World} {k : Nat} {a b c d : Int} (h : At4 w k a b c d) (m : Mo w w') (hk : k < w.heap.size) : At4 w' k a b c d := by
  unfold At4 at *; simp only [m.cell k _ hk]; exact h
theorem At8.mo {w w' : World} {k : Nat} {a b c d e f g i : Int} (h : At8 w k a b c d e f g i) (m : Mo w w') (hk : k < w.heap.size) : At8 w' k a b c d e f g i := by
  unfold At8 at *; simp only [m.cell k _ hk]; exact h
theorem Fz.mo {w w' : World} {k : Nat} (h : Fz w k) (m : Mo w w') : Fz w' k := fun o => (m.2 _).trans (h o)

theorem idx0 (x0 x1 x2 x3 : Value) (w : World) : (Instr.index 24 (.agg #[x0, x1, x2, x3]) (.int .i64 0)).run Tryz.prog w = .ok x0 w := by kernel_rfl
theorem idx1 (x0 x1 x2 x3 : Value) (w : World) : (Instr.index 24 (.agg #[x0, x1, x2, x3]) (.int .i64 1)).run Tryz.prog w = .ok x1 w := by kernel_rfl
theorem idx2 (x0 x1 x2 x3 : Value) (w : World) : (Instr.index 24 (.agg #[x0, x1, x2, x3]) (.int .i64 2)).run Tryz.prog w = .ok x2 w := by kernel_rfl
theorem idx3 (x0 x1 x2 x3 : Value) (w : World) : (Instr.index 24 (.agg #[x0, x1, x2, x3]) (.int .i64 3)).run Tryz.prog w = .ok x3 w := by kernel_rfl
end Go.Proofs.YtfmfeipeeedfpaaGreat
namespace Go.Proofs.YtfmfeipeeedfpaaGreat
/-- What holds at each test of the guess q and its rest r: y = h, l in halves; u below y; d the next digit. -/
structure Gs (u d h l q r : Int) : Prop where
  hh : 2147483648 ≤ h
  hh2 : h < 4294967296
  hl : 0 ≤ l
  hl2 : l < 4294967296
  hd : 0 ≤ d
  hd2 : d < 4294967296
  hu : 0 ≤ u
  hu2 : u < h * 4294967296 + l
  hq : 0 ≤ q
  hr : 0 ≤ r
  hr2 : r < 4294967296
  hqr : q * h + r = u
  ht : (u * 4294967296 + d) / (h * 4294967296 + l) ≤ q
theorem Gs.qy {h l : Int} (q : Int) : q * (h * 4294967296 + l) = q * h * 4294967296 + q * l := by
  rw [Int.mul_add, Int.mul_assoc]
theorem Gs.tlt {u d h l q r : Int} (g : Gs u d h l q r) : (u * 4294967296 + d) / (h * 4294967296 + l) < 4294967296 := by
  have := g.hh; have := g.hl; have := g.hu2; have := g.hd2
  apply Int.ediv_lt_of_lt_mul (by omega)
  have : 4294967296 * (h * 4294967296 + l) ≥ 4294967296 * (u + 1) := Int.mul_le_mul_of_nonneg_left (by omega) (by decide)
  omega
theorem Gs.start {u d h l : Int} (hh : 2147483648 ≤ h) (hh2 : h < 4294967296) (hl : 0 ≤ l) (hl2 : l < 4294967296) (hd : 0 ≤ d) (hd2 : d < 4294967296) (hu : 0 ≤ u) (hu2 : u < h * 4294967296 + l) :
    Gs u d h l (u / h) (u % h) := by
  have e := Int.emod_lt_of_pos u (show 0 < h by omega)
  have e0 := Int.emod_nonneg u (show h ≠ 0 by omega)
  have e1 : u / h * h + u % h = u := by rw [Int.mul_comm]; exact Int.mul_ediv_add_emod u h
  refine ⟨hh, hh2, hl, hl2, hd, hd2, hu, hu2, Int.ediv_nonneg hu (by omega), e0, by omega, e1, ?_⟩
  have hy : 0 < h * 4294967296 + l := by omega
  have t := Int.ediv_mul_le (u * 4294967296 + d) (show h * 4294967296 + l ≠ 0 by omega)
  have tn : 0 ≤ (u * 4294967296 + d) / (h * 4294967296 + l) := Int.ediv_nonneg (by omega) (by omega)
  generalize (u * 4294967296 + d) / (h * 4294967296 + l) = T at *
  rw [Gs.qy] at t
  have : 0 ≤ T * l := Int.mul_nonneg tn hl
  exact (Int.le_ediv_iff_mul_le (by omega)).2 (by omega)
/-- No number goes round at the test. -/
theorem Gs.fit {u d h l q r : Int} (g : Gs u d h l q r) (hq : q < 4294967296) : 0 ≤ q * l ∧ q * l < 18446744073709551616 := by
  have := g.hl; have := g.hl2; have := g.hq
  refine ⟨Int.mul_nonneg g.hq g.hl, ?_⟩
  have : q * l ≤ 4294967295 * 4294967295 := Int.mul_le_mul (by omega) (by omega) g.hl (by decide)
  omega
theorem Gs.done {u d h l q r : Int} (g : Gs u d h l q r) (ht : q * l ≤ 4294967296 * r + d) : q = (u * 4294967296 + d) / (h * 4294967296 + l) := by
  have := g.ht
  have hy : 0 < h * 4294967296 + l := by have := g.hh; have := g.hl; omega
  have : q ≤ (u * 4294967296 + d) / (h * 4294967296 + l) := by
    apply (Int.le_ediv_iff_mul_le hy).2
    rw [Gs.qy]
    have := g.hqr
    omega
  omega
theorem Gs.down {u d h l q r : Int} (g : Gs u d h l q r) (ht : 4294967296 ≤ q ∨ 4294967296 * r + d < q * l) : 1 ≤ q ∧ (u * 4294967296 + d) / (h * 4294967296 + l) ≤ q - 1 := by
  have hy : 0 < h * 4294967296 + l := by have := g.hh; have := g.hl; omega
  have tn : 0 ≤ (u * 4294967296 + d) / (h * 4294967296 + l) := by have := g.hu; have := g.hd; exact Int.ediv_nonneg (by omega) (by omega)
  have tl := g.tlt
  rcases ht with ht | ht
  · omega
  · have : (u * 4294967296 + d) / (h * 4294967296 + l) < q := by
      apply Int.ediv_lt_of_lt_mul hy
      rw [Gs.qy]
      have := g.hqr
      omega
    omega
theorem Gs.next {u d h l q r : Int} (g : Gs u d h l q r) (ht : 4294967296 ≤ q ∨ 4294967296 * r + d < q * l) (hr : r + h < 4294967296) : Gs u d h l (q - 1) (r + h) := by
  obtain ⟨d1, d2⟩ := g.down ht
  refine ⟨g.hh, g.hh2, g.hl, g.hl2, g.hd, g.hd2, g.hu, g.hu2, by omega, ?_, hr, ?_, d2⟩
  · have := g.hr; have := g.hh; omega
  · have := g.hqr; rw [Int.sub_mul]; omega
theorem Gs.stop {u d h l q r : Int} (g : Gs u d h l q r) (ht : 4294967296 ≤ q ∨ 4294967296 * r + d < q * l) (hr : 4294967296 ≤ r + h) : q - 1 = (u * 4294967296 + d) / (h * 4294967296 + l) := by
  obtain ⟨d1, d2⟩ := g.down ht
  have hy : 0 < h * 4294967296 + l := by have := g.hh; have := g.hl; omega
  have e : (q - 1) * h + (r + h) = u := by have := g.hqr; rw [Int.sub_mul]; omega
  have lt : q - 1 < 4294967296 := by
    apply Int.lt_of_not_ge
    intro hge
    have := Int.mul_le_mul_of_nonneg_right (c := h) hge (by have := g.hh; omega)
    have := g.hu2; have := g.hl2
    omega
  have m : (q - 1) * l ≤ 4294967295 * 4294967295 := Int.mul_le_mul (by omega) (by have := g.hl2; omega) g.hl (by decide)
  have : q - 1 ≤ (u * 4294967296 + d) / (h * 4294967296 + l) := by
    apply (Int.le_ediv_iff_mul_le hy).2
    rw [Gs.qy]
    have := g.hd
    omega
  omega
end Go.Proofs.YtfmfeipeeedfpaaGreat
namespace Go.Proofs.YtfmfeipeeedfpaaGreat
open Go.RowKit
set_option maxHeartbeats 1000000 in
theorem div64_0 (lo y : Int) (w : World) (h0 : 0 ≤ lo) (h1 : lo < 18446744073709551616) (h2 : 0 < y) (h3 : y < 18446744073709551616) :
    Calls Tryz.prog 232 #[.int .u64 0, .int .u64 lo, .int .u64 y] w fun e w' =>
      e = .returned (.tuple #[.int .u64 (lo / y), .int .u64 (lo % y)]) ∧ ∃ n, w' = w.drewN n := by
  have hy : (y == 0) = false := by rw [beq_eq_false_iff_ne]; omega
  have hy2 : ¬ y ≤ 0 := by omega
  have hy3 : y ≠ 0 := by omega
  go_enter Tryz.func232, Tryz.ntmps232
  go_wp2
  go_quiet (fail)
  go_wp2
  go_ret2
  exact ⟨rfl, _, rfl⟩
end Go.Proofs.YtfmfeipeeedfpaaGreat
namespace Go.Proofs
open Go.Shelf
def Tryz.lays134_ren : Go.Shelf.Ren := ⟨fun | 134 => 233 | 129 => 126 | n => n, fun | 53 => 22 | 3 => 3 | 4 => 4 | 46 => 121 | 5 => 5 | 9 => 9 | n => n, fun | n => n⟩
theorem Tryz.lays134 : Go.Proofs.Lays.n134 Tryz.prog Tryz.lays134_ren := {
  mixed := by kernel_rfl
  f129 := Tryz.func126.trans (congrArg some (by kernel_rfl))
  f134 := Tryz.func233.trans (congrArg some (by kernel_rfl))
  t3 := Tryz.underlying3
  a3 := Tryz.isAgg3
  z3 := Tryz.sizeOf3
  v3 := Tryz.zeroValue3
  t4 := Tryz.underlying4
  a4 := Tryz.isAgg4
  z4 := Tryz.sizeOf4
  v4 := Tryz.zeroValue4
  t5 := Tryz.underlying5
  a5 := Tryz.isAgg5
  z5 := Tryz.sizeOf5
  v5 := Tryz.zeroValue5
  t9 := Tryz.underlying9
  a9 := Tryz.isAgg9
  z9 := Tryz.sizeOf9
  v9 := Tryz.zeroValue9
  t46 := Tryz.underlying121
  a46 := Tryz.isAgg121
  z46 := Tryz.sizeOf121
  v46 := Tryz.zeroValue121
  t53 := Tryz.underlying22
  a53 := Tryz.isAgg22
  z53 := Tryz.sizeOf22
  v53 := Tryz.zeroValue22 }
theorem Tryz.bits_LeadingZeros64 (x : Int) (w : World) (h0 : 0 ≤ x) (h1 : x ≤ 18446744073709551615) :
    Calls Tryz.prog 233 #[.int .u64 x] w fun e w' => e = .returned (.int .i64 (64 - (Lib.bitLen x.toNat : Int))) ∧ w' = w := Any.bits_LeadingZeros64 Tryz.lays134 x w h0 h1
def Tryz.lays129_ren : Go.Shelf.Ren := ⟨fun | 129 => 126 | n => n, fun | 53 => 22 | 3 => 3 | 4 => 4 | 46 => 121 | 5 => 5 | 9 => 9 | n => n, fun | n => n⟩
theorem Tryz.lays129 : Go.Proofs.Lays.n129 Tryz.prog Tryz.lays129_ren := {
  mixed := by kernel_rfl
  f129 := Tryz.func126.trans (congrArg some (by kernel_rfl))
  t3 := Tryz.underlying3
  a3 := Tryz.isAgg3
  z3 := Tryz.sizeOf3
  v3 := Tryz.zeroValue3
  t4 := Tryz.underlying4
  a4 := Tryz.isAgg4
  z4 := Tryz.sizeOf4
  v4 := Tryz.zeroValue4
  t5 := Tryz.underlying5
  a5 := Tryz.isAgg5
  z5 := Tryz.sizeOf5
  v5 := Tryz.zeroValue5
  t9 := Tryz.underlying9
  a9 := Tryz.isAgg9
  z9 := Tryz.sizeOf9
  v9 := Tryz.zeroValue9
  t46 := Tryz.underlying121
  a46 := Tryz.isAgg121
  z46 := Tryz.sizeOf121
  v46 := Tryz.zeroValue121
  t53 := Tryz.underlying22
  a53 := Tryz.isAgg22
  z53 := Tryz.sizeOf22
  v53 := Tryz.zeroValue22 }
theorem Tryz.bits_Len64 (x : Int) (w : World) (h0 : 0 ≤ x) (h1 : x ≤ 18446744073709551615) :
    Calls Tryz.prog 126 #[.int .u64 x] w fun e w' => e = .returned (.int .i64 (Lib.bitLen x.toNat)) ∧ w' = w := Any.bits_Len64 Tryz.lays129 x w h0 h1
def Tryz.lays264_ren : Go.Shelf.Ren := ⟨fun | 264 => 228 | n => n, fun | 53 => 22 | 46 => 121 | n => n, fun | n => n⟩
theorem Tryz.lays264 : Go.Proofs.Lays.n264 Tryz.prog Tryz.lays264_ren := {
  mixed := by kernel_rfl
  f264 := Tryz.func228.trans (congrArg some (by kernel_rfl))
  t46 := Tryz.underlying121
  a46 := Tryz.isAgg121
  z46 := Tryz.sizeOf121
  v46 := Tryz.zeroValue121
  t53 := Tryz.underlying22
  a53 := Tryz.isAgg22
  z53 := Tryz.sizeOf22
  v53 := Tryz.zeroValue22 }
open Go.RowKit Go.Lib in
theorem Tryz.bits_Mul64 (x y : Nat) (hx : x < 18446744073709551616) (hy : y < 18446744073709551616) (w : World) :
    Calls Tryz.prog 228 #[.int .u64 x, .int .u64 y] w fun e w' => e = .returned (.tuple #[.int .u64 ((x * y / 18446744073709551616 : Nat) : Int), .int .u64 ((x * y % 18446744073709551616 : Nat) : Int)]) ∧ w' = w := Any.bits_Mul64 Tryz.lays264 x y hx hy w
end Go.Proofs
namespace Go.Proofs.YtfmfeipeeedfpaaGreat
open Go.RowKit
theorem bitLen_zero : Lib.bitLen 0 = 0 := by decide
theorem bitLen_bd : ∀ (k x : Nat), x < 2 ^ k → k ≤ 64 → x ≠ 0 → 1 ≤ Lib.bitLen x ∧ Lib.bitLen x ≤ k ∧ 2 ^ (Lib.bitLen x - 1) ≤ x ∧ x < 2 ^ Lib.bitLen x
  | 0, x, h, _, h0 => by simp at h; omega
  | k + 1, x, h, hk, h0 => by
    have h64 : x < 2 ^ 64 := Nat.lt_of_lt_of_le h (Nat.pow_le_pow_right (n := 2) (by decide) hk)
    have e := Lib.bitLen_half x h0 h64
    by_cases hx : x / 2 = 0
    · rw [hx, bitLen_zero] at e
      have : x = 1 := by omega
      subst this
      rw [e]; simp
    · have h2 : x / 2 < 2 ^ k := by rw [Nat.pow_succ] at h; omega
      obtain ⟨a, b, c, d⟩ := bitLen_bd k (x / 2) h2 (by omega) hx
      rw [e]
      generalize Lib.bitLen (x / 2) = m at *
      obtain ⟨m, rfl⟩ : ∃ j, m = j + 1 := ⟨m - 1, by omega⟩
      have c' : 2 ^ m ≤ x / 2 := by simpa using c
      refine ⟨by omega, by omega, ?_, ?_⟩
      · rw [show 1 + (m + 1) - 1 = m + 1 from by omega, Nat.pow_succ]; omega
      · rw [show 1 + (m + 1) = m + 1 + 1 from by omega, Nat.pow_succ]; omega
/-- How far a word is from having its top bit set. -/
theorem lead (y : Int) (h0 : 0 < y) (h1 : y < 18446744073709551616) : ∃ k : Nat, (64 - (Lib.bitLen y.toNat : Int)) = k ∧ k ≤ 63 ∧ 9223372036854775808 ≤ y * 2 ^ k ∧ y * 2 ^ k < 18446744073709551616 := by
  obtain ⟨x, rfl⟩ := Int.eq_ofNat_of_zero_le (show 0 ≤ y by omega)
  obtain ⟨a, b, c, d⟩ := bitLen_bd 64 x (by omega) (by omega) (by omega)
  refine ⟨64 - Lib.bitLen x, ?_, by omega, ?_, ?_⟩
  · simp; omega
  · have h : 2 ^ (Lib.bitLen x - 1) * 2 ^ (64 - Lib.bitLen x) ≤ x * 2 ^ (64 - Lib.bitLen x) := Nat.mul_le_mul_right _ c
    rw [← Nat.pow_add, show Lib.bitLen x - 1 + (64 - Lib.bitLen x) = 63 from by omega] at h
    have e : ((x * 2 ^ (64 - Lib.bitLen x) : Nat) : Int) = (x : Int) * 2 ^ (64 - Lib.bitLen x) := by rw [Int.natCast_mul, Int.natCast_pow]; rfl
    rw [← e]
    generalize x * 2 ^ (64 - Lib.bitLen x) = z at *
    omega
  · have h : x * 2 ^ (64 - Lib.bitLen x) < 2 ^ Lib.bitLen x * 2 ^ (64 - Lib.bitLen x) := Nat.mul_lt_mul_of_pos_right d (Nat.pow_pos (by decide))
    rw [← Nat.pow_add, show Lib.bitLen x + (64 - Lib.bitLen x) = 64 from by omega] at h
    have e : ((x * 2 ^ (64 - Lib.bitLen x) : Nat) : Int) = (x : Int) * 2 ^ (64 - Lib.bitLen x) := by rw [Int.natCast_mul, Int.natCast_pow]; rfl
    rw [← e]
    generalize x * 2 ^ (64 - Lib.bitLen x) = z at *
    omega

theorem div_fit {u h : Int} (hu : 0 ≤ u) (hh : 0 < h) : 0 ≤ u / h ∧ u / h ≤ u ∧ 0 ≤ u / h * h ∧ u / h * h ≤ u := by
  have a := Int.ediv_nonneg hu (show 0 ≤ h by omega)
  have b := Int.ediv_mul_le u (show h ≠ 0 by omega)
  refine ⟨a, ?_, Int.mul_nonneg a (by omega), b⟩
  exact Int.ediv_le_self h hu
theorem mod_sub (u h : Int) : u % h = u - u / h * h := by rw [Int.emod_def, Int.mul_comm]

set_option maxHeartbeats 2000000 in
theorem div64_core (hi lo y Y h l u v d1 d0 T1 R1 T0 R0 : Int) (k : Nat) (w : World) (h0 : 0 < hi) (h1 : hi < y) (_h2 : 0 ≤ lo) (_h3 : lo < 18446744073709551616) (h4 : y < 18446744073709551616)
    (hk : Hid ((64 - (Lib.bitLen y.toNat : Int)) = k)) (hk2 : k ≤ 63)
    (eY : IntKind.u64.wrap (y * 2 ^ k) = Y) (eh : Y / 4294967296 = h) (el : bits .and .u64 Y 4294967295 = l)
    (eu : bits .or .u64 (IntKind.u64.wrap (hi * 2 ^ k)) (lo / 2 ^ (64 - k)) = u) (ev : IntKind.u64.wrap (lo * 2 ^ k) = v) (e1 : v / 4294967296 = d1) (e0 : bits .and .u64 v 4294967295 = d0)
    (hY : Hid (Y = h * 4294967296 + l)) (bh : 2147483648 ≤ h) (bh2 : h < 4294967296) (bl : 0 ≤ l) (bl2 : l < 4294967296) (bd1 : 0 ≤ d1) (bd1' : d1 < 4294967296) (bd0 : 0 ≤ d0) (bd0' : d0 < 4294967296) (bu : 0 ≤ u) (bu2 : u < Y) (bY2 : Y < 18446744073709551616)
    (q1 : Hid (T1 = (u * 4294967296 + d1) / Y)) (q2 : Hid (R1 = (u * 4294967296 + d1) % Y)) (q3 : Hid (T0 = (R1 * 4294967296 + d0) / Y)) (q4 : Hid (R0 = (R1 * 4294967296 + d0) % Y))
    (bT1 : 0 ≤ T1) (bT1' : T1 < 4294967296) (bR1 : 0 ≤ R1) (bR1' : R1 < Y) (bT0 : 0 ≤ T0) (bT0' : T0 < 4294967296) (bR0 : 0 ≤ R0) (bR0' : R0 < Y) :
    Calls Tryz.prog 232 #[.int .u64 hi, .int .u64 lo, .int .u64 y] w fun e w' =>
      e = .returned (.tuple #[.int .u64 (T1 * 4294967296 + T0), .int .u64 (R0 / 2 ^ k)]) ∧ w' = w := by
  have hy : (y == 0) = false := by rw [beq_eq_false_iff_ne]; omega
  have hy2 : ¬ y ≤ hi := by omega
  have hh : (hi == 0) = false := by rw [beq_eq_false_iff_ne]; omega
  have hh0 : h ≠ 0 := by omega
  obtain ⟨a1, a2, a3, a4⟩ := div_fit bu (show 0 < h by omega)
  obtain ⟨a5, a6, a7, a8⟩ := div_fit bR1 (show 0 < h by omega)
  have r1 : IntKind.u64.wrap (IntKind.u64.wrap (IntKind.u64.wrap (u * 4294967296) + d1) - IntKind.u64.wrap (T1 * Y)) = R1 := by
    have := q2.out; have e := q1.out
    have m := mod_sub (u * 4294967296 + d1) Y
    rw [← e] at m
    simp only [IntKind.wrap_u64]
    omega
  have r0 : IntKind.u64.wrap (IntKind.u64.wrap (IntKind.u64.wrap (R1 * 4294967296) + d0) - IntKind.u64.wrap (T0 * Y)) = R0 := by
    have := q4.out; have e := q3.out
    have m := mod_sub (R1 * 4294967296 + d0) Y
    rw [← e] at m
    simp only [IntKind.wrap_u64]
    omega
  have G1 : Gs u d1 h l (u / h) (u - u / h * h) := by
    rw [← mod_sub]; exact Gs.start bh bh2 bl bl2 bd1 bd1' bu (by rw [← hY.out]; exact bu2)
  have G0 : Gs R1 d0 h l (R1 / h) (R1 - R1 / h * h) := by
    rw [← mod_sub]; exact Gs.start bh bh2 bl bl2 bd0 bd0' bR1 (by rw [← hY.out]; exact bR1')
  have Hr1 : Hid _ := r1
  have Hr0 : Hid _ := r0
  clear r1 r0
  go_enter Tryz.func232, Tryz.ntmps232
  go_upto_block 0 with (go_at_call 233; refine (Tryz.bits_LeadingZeros64 y _ (by omega) (by omega)).mono ?_; rintro e w' ⟨rfl, rfl⟩; rw [hk.out])
  go_cut [15, 16] from 67 to 85 (fun a _ wx => a = .int .u64 T1 ∧ wx = w')
  case first =>
    go_wp2
    go_loop [15, 16] (fun a b => ∃ q r : Int, a = .int .u64 q ∧ b = .int .u64 r ∧ Gs u d1 h l q r) (fun a _ => (intOf a).toNat)
    case atStart => exact ⟨_, _, rfl, rfl, G1⟩
    case round =>
      obtain ⟨q, r, rfl, rfl, g⟩ := hrel
      have i1 := g.hq
      have i2 := g.hr
      have i3 := g.hr2
      have i4 : q ≤ u := by
        have m1 : q * 1 ≤ q * h := Int.mul_le_mul_of_nonneg_left (show (1 : Int) ≤ h by omega) i1
        have m2 := g.hqr
        omega
      by_cases hq : 4294967296 ≤ q
      · obtain ⟨j1, _⟩ := g.down (Or.inl hq)
        by_cases hs : 4294967296 ≤ r + h
        · have hT : q - 1 = T1 := by rw [q1.out, hY.out]; exact g.stop (Or.inl hq) hs
          have HT : Hid _ := hT
          clear hT
          go_wp2
          go_meet
          case rel => exact ⟨by rw [HT.out], rfl⟩
        · go_wp2
          go_round
          case rel => exact ⟨_, _, rfl, rfl, g.next (Or.inl hq) (by omega)⟩
          case measure => simp [intOf]; omega
      · obtain ⟨f1, f2⟩ := g.fit (by omega)
        by_cases ht : 4294967296 * r + d1 < q * l
        · obtain ⟨j1, _⟩ := g.down (Or.inr ht)
          by_cases hs : 4294967296 ≤ r + h
          · have hT : q - 1 = T1 := by rw [q1.out, hY.out]; exact g.stop (Or.inr ht) hs
            have HT : Hid _ := hT
            clear hT
            go_wp2
            go_meet
            case rel => exact ⟨by rw [HT.out], rfl⟩
          · go_wp2
            go_round
            case rel => exact ⟨_, _, rfl, rfl, g.next (Or.inr ht) (by omega)⟩
            case measure => simp [intOf]; omega
        · have hT : q = T1 := by rw [q1.out, hY.out]; exact g.done (by omega)
          have HT : Hid _ := hT
          clear hT
          go_wp2
          go_meet
          case rel => exact ⟨by rw [HT.out], rfl⟩
  case rest =>
    obtain ⟨rfl, rfl⟩ := hcut
    have r1 := Hr1.out
    go_upto_block 2 with fail
    go_cut [18, 16] from 102 to 120 (fun a _ wx => a = .int .u64 T0 ∧ wx = wc)
    case first =>
      go_wp2
      go_loop [18, 16] (fun a b => ∃ q r : Int, a = .int .u64 q ∧ b = .int .u64 r ∧ Gs R1 d0 h l q r) (fun a _ => (intOf a).toNat)
      case atStart => exact ⟨_, _, rfl, rfl, G0⟩
      case round =>
        obtain ⟨q, r, rfl, rfl, g⟩ := hrel
        have i1 := g.hq
        have i2 := g.hr
        have i3 := g.hr2
        have i4 : q ≤ R1 := by
          have m1 : q * 1 ≤ q * h := Int.mul_le_mul_of_nonneg_left (show (1 : Int) ≤ h by omega) i1
          have m2 := g.hqr
          omega
        by_cases hq : 4294967296 ≤ q
        · obtain ⟨j1, _⟩ := g.down (Or.inl hq)
          by_cases hs : 4294967296 ≤ r + h
          · have hT : q - 1 = T0 := by rw [q3.out, hY.out]; exact g.stop (Or.inl hq) hs
            have HT : Hid _ := hT
            clear hT
            go_wp2
            go_meet
            case rel => exact ⟨by rw [HT.out], rfl⟩
          · go_wp2
            go_round
            case rel => exact ⟨_, _, rfl, rfl, g.next (Or.inl hq) (by omega)⟩
            case measure => simp [intOf]; omega
        · obtain ⟨f1, f2⟩ := g.fit (by omega)
          by_cases ht : 4294967296 * r + d0 < q * l
          · obtain ⟨j1, _⟩ := g.down (Or.inr ht)
            by_cases hs : 4294967296 ≤ r + h
            · have hT : q - 1 = T0 := by rw [q3.out, hY.out]; exact g.stop (Or.inr ht) hs
              have HT : Hid _ := hT
              clear hT
              go_wp2
              go_meet
              case rel => exact ⟨by rw [HT.out], rfl⟩
            · go_wp2
              go_round
              case rel => exact ⟨_, _, rfl, rfl, g.next (Or.inr ht) (by omega)⟩
              case measure => simp [intOf]; omega
          · have hT : q = T0 := by rw [q3.out, hY.out]; exact g.done (by omega)
            have HT : Hid _ := hT
            clear hT
            go_wp2
            go_meet
            case rel => exact ⟨by rw [HT.out], rfl⟩
    case rest =>
      obtain ⟨rfl, rfl⟩ := hcut
      have r0 := Hr0.out
      go_wp2
      go_ret2
      exact ⟨rfl, rfl⟩

theorem mask32 (a : Int) (h0 : 0 ≤ a) (h1 : a < 18446744073709551616) : bits .and .u64 a 4294967295 = a % 4294967296 := by
  obtain ⟨x, rfl⟩ := Int.eq_ofNat_of_zero_le h0
  rw [Mul64.maskN x (by omega)]
  omega
/-- Two words joined: no bit in both. -/
theorem or_join (a b : Int) (k : Nat) (ha : 0 ≤ a) (hb : 0 ≤ b) (hb2 : b < 2 ^ k) (h : a * 2 ^ k + b < 18446744073709551616) : bits .or .u64 (a * 2 ^ k) b = a * 2 ^ k + b := by
  obtain ⟨x, rfl⟩ := Int.eq_ofNat_of_zero_le ha
  obtain ⟨z, rfl⟩ := Int.eq_ofNat_of_zero_le hb
  have e : ((x * 2 ^ k : Nat) : Int) = (x : Int) * 2 ^ k := by rw [Int.natCast_mul, Int.natCast_pow]; rfl
  have e2 : ((2 ^ k : Nat) : Int) = (2 : Int) ^ k := by rw [Int.natCast_pow]; rfl
  rw [← e] at h ⊢
  rw [← e2] at hb2
  have j : x * 2 ^ k ||| z = x * 2 ^ k + z := by
    rw [Nat.mul_comm x]; exact (Nat.two_pow_add_eq_or_of_lt (by omega) x).symm
  rw [bits_or_u64_nat (x * 2 ^ k) z (by omega) (by omega), j]
  omega
theorem pow_split (k : Nat) (hk : k ≤ 63) : (2 : Int) ^ (64 - k) * 2 ^ k = 18446744073709551616 := by
  rw [← Int.pow_add, show 64 - k + k = 64 from by omega]; decide

theorem div64_big (hi lo y : Int) (w : World) (h0 : 0 < hi) (h1 : hi < y) (h2 : 0 ≤ lo) (h3 : lo < 18446744073709551616) (h4 : y < 18446744073709551616) :
    Calls Tryz.prog 232 #[.int .u64 hi, .int .u64 lo, .int .u64 y] w fun e w' =>
      e = .returned (.tuple #[.int .u64 ((hi * 18446744073709551616 + lo) / y), .int .u64 ((hi * 18446744073709551616 + lo) % y)]) ∧ w' = w := by
  obtain ⟨k, hk, hk2, c1, c2⟩ := lead y (by omega) h4
  have hP : (0 : Int) < 2 ^ k := Int.pow_pos (by decide)
  have hQ : (0 : Int) < 2 ^ (64 - k) := Int.pow_pos (by decide)
  have hPQ := pow_split k hk2
  -- the words, shifted
  have lq : lo / 2 ^ (64 - k) < 2 ^ k := Int.ediv_lt_of_lt_mul hQ (by rw [Int.mul_comm, hPQ]; exact h3)
  have lq0 : 0 ≤ lo / 2 ^ (64 - k) := Int.ediv_nonneg h2 (by omega)
  have hy1 : (hi + 1) * 2 ^ k ≤ y * 2 ^ k := Int.mul_le_mul_of_nonneg_right (by omega) (by omega)
  rw [Int.add_mul, Int.one_mul] at hy1
  have hiP : 0 ≤ hi * 2 ^ k := Int.mul_nonneg (by omega) (by omega)
  have lop : lo * 2 ^ k / 18446744073709551616 = lo / 2 ^ (64 - k) := by
    rw [← hPQ]; exact Int.mul_ediv_mul_of_pos_left _ _ hP
  have eY : IntKind.u64.wrap (y * 2 ^ k) = y * 2 ^ k := by rw [IntKind.wrap_u64]; omega
  have ehi : IntKind.u64.wrap (hi * 2 ^ k) = hi * 2 ^ k := by rw [IntKind.wrap_u64]; omega
  have eu : bits .or .u64 (IntKind.u64.wrap (hi * 2 ^ k)) (lo / 2 ^ (64 - k)) = hi * 2 ^ k + lo / 2 ^ (64 - k) := by
    rw [ehi]; exact or_join hi _ k (by omega) lq0 lq (by omega)
  have ev : IntKind.u64.wrap (lo * 2 ^ k) = lo * 2 ^ k % 18446744073709551616 := by rw [IntKind.wrap_u64]
  have whole : (hi * 2 ^ k + lo / 2 ^ (64 - k)) * 18446744073709551616 + lo * 2 ^ k % 18446744073709551616 = (hi * 18446744073709551616 + lo) * 2 ^ k := by
    rw [Int.add_mul (hi * 18446744073709551616), Int.mul_right_comm hi 18446744073709551616, ← lop, Int.add_mul]; omega
  have div1 : (hi * 18446744073709551616 + lo) * 2 ^ k / (y * 2 ^ k) = (hi * 18446744073709551616 + lo) / y := Int.mul_ediv_mul_of_pos_left _ _ hP
  have mod1 : (hi * 18446744073709551616 + lo) * 2 ^ k % (y * 2 ^ k) = (hi * 18446744073709551616 + lo) % y * 2 ^ k := by
    rw [mod_sub, div1, mod_sub, Int.sub_mul, Int.mul_assoc]
  have mod2 : (hi * 18446744073709551616 + lo) % y * 2 ^ k / 2 ^ k = (hi * 18446744073709551616 + lo) % y := Int.mul_ediv_cancel _ (by omega)
  generalize hYe : y * 2 ^ k = Y at *
  generalize hue : hi * 2 ^ k + lo / 2 ^ (64 - k) = u at *
  generalize hve : lo * 2 ^ k % 18446744073709551616 = v at *
  have hv : 0 ≤ v ∧ v < 18446744073709551616 := by omega
  have hu : 0 ≤ u ∧ u < Y := by omega
  have hY0 : Y ≠ 0 := by omega
  -- the digits
  have b1 := Int.emod_nonneg (u * 4294967296 + v / 4294967296) hY0
  have b2 := Int.emod_lt_of_pos (u * 4294967296 + v / 4294967296) (show 0 < Y by omega)
  have t1 : (u * 4294967296 + v / 4294967296) / Y < 4294967296 := Int.ediv_lt_of_lt_mul (by omega) (by omega)
  have t1' : 0 ≤ (u * 4294967296 + v / 4294967296) / Y := Int.ediv_nonneg (by omega) (by omega)
  have s1 := mod_sub (u * 4294967296 + v / 4294967296) Y
  generalize hT1 : (u * 4294967296 + v / 4294967296) / Y = T1 at *
  generalize hR1 : (u * 4294967296 + v / 4294967296) % Y = R1 at *
  have b3 := Int.emod_nonneg (R1 * 4294967296 + v % 4294967296) hY0
  have b4 := Int.emod_lt_of_pos (R1 * 4294967296 + v % 4294967296) (show 0 < Y by omega)
  have t0 : (R1 * 4294967296 + v % 4294967296) / Y < 4294967296 := Int.ediv_lt_of_lt_mul (by omega) (by omega)
  have t0' : 0 ≤ (R1 * 4294967296 + v % 4294967296) / Y := Int.ediv_nonneg (by omega) (by omega)
  have s0 := mod_sub (R1 * 4294967296 + v % 4294967296) Y
  generalize hT0 : (R1 * 4294967296 + v % 4294967296) / Y = T0 at *
  generalize hR0 : (R1 * 4294967296 + v % 4294967296) % Y = R0 at *
  have key : (hi * 18446744073709551616 + lo) * 2 ^ k = R0 + Y * (T1 * 4294967296 + T0) := by
    rw [← whole, Int.mul_add, ← Int.mul_assoc, Int.mul_comm Y T1, Int.mul_comm Y T0]; omega
  have fq : (hi * 18446744073709551616 + lo) / y = T1 * 4294967296 + T0 := by
    rw [← div1, key, Int.add_mul_ediv_left _ _ hY0, Int.ediv_eq_zero_of_lt b3 b4, Int.zero_add]
  have fr : (hi * 18446744073709551616 + lo) % y = R0 / 2 ^ k := by
    rw [← mod2, ← mod1, key, Int.add_mul_emod_self_left, Int.emod_eq_of_lt b3 b4]
  rw [fq, fr]
  exact div64_core hi lo y Y (Y / 4294967296) (Y % 4294967296) u v (v / 4294967296) (v % 4294967296) T1 R1 T0 R0 k w h0 h1 h2 h3 h4 hk hk2 (by rw [hYe]; exact eY) rfl (mask32 Y (by omega) c2) eu ev rfl (mask32 v hv.1 hv.2)
    (show Y = Y / 4294967296 * 4294967296 + Y % 4294967296 by omega) (by omega) (by omega) (by omega) (by omega) (by omega) (by omega) (by omega) (by omega) hu.1 hu.2 c2 hT1.symm hR1.symm hT0.symm hR0.symm t1' t1 b1 b2 t0' t0 b3 b4

theorem div64_any (hi lo y : Int) (w : World) (h0 : 0 ≤ hi) (h1 : hi < y) (h2 : 0 ≤ lo) (h3 : lo < 18446744073709551616) (h4 : y < 18446744073709551616) :
    Calls Tryz.prog 232 #[.int .u64 hi, .int .u64 lo, .int .u64 y] w fun e w' =>
      e = .returned (.tuple #[.int .u64 ((hi * 18446744073709551616 + lo) / y), .int .u64 ((hi * 18446744073709551616 + lo) % y)]) ∧ ∃ n, w' = w.drewN n := by
  by_cases h : hi = 0
  · subst h
    rw [Int.zero_mul, Int.zero_add]
    exact div64_0 lo y w h2 h3 (by omega) h4
  · refine (div64_big hi lo y w (by omega) h1 h2 h3 h4).mono ?_
    rintro e w' ⟨rfl, rfl⟩
    exact ⟨rfl, 0, rfl⟩
end Go.Proofs.YtfmfeipeeedfpaaGreat
namespace Go.Proofs.YtfmfeipeeedfpaaGreat
/-- How many bits a number has. -/
def bln (n : Int) : Int := if n = 0 then 0 else (Nat.log2 n.toNat : Int) + 1
theorem cast_pow (k : Nat) : ((2 ^ k : Nat) : Int) = (2 : Int) ^ k := by rw [Int.natCast_pow]; rfl
theorem bln_of {n : Int} (k : Nat) (h1 : (2 : Int) ^ k ≤ n) (h2 : n < 2 ^ (k + 1)) : bln n = k + 1 := by
  have hp : (0 : Int) < 2 ^ k := Int.pow_pos (by decide)
  obtain ⟨m, rfl⟩ := Int.eq_ofNat_of_zero_le (show 0 ≤ n by omega)
  rw [← cast_pow] at h1 h2
  have : Nat.log2 m = k := (Nat.log2_eq_iff (by omega)).2 ⟨by omega, by omega⟩
  unfold bln
  rw [if_neg (by omega), Int.toNat_natCast, this]
theorem bln_join {a low : Int} (s : Nat) (ha : 0 < a) (ha2 : a < 18446744073709551616) (h0 : 0 ≤ low) (h1 : low < 2 ^ s) : bln (a * 2 ^ s + low) = s + Lib.bitLen a.toNat := by
  obtain ⟨x, rfl⟩ := Int.eq_ofNat_of_zero_le (show 0 ≤ a by omega)
  obtain ⟨b1, b2, b3, b4⟩ := bitLen_bd 64 x (by omega) (by omega) (by omega)
  rw [Int.toNat_natCast]
  generalize Lib.bitLen x = L at *
  obtain ⟨m, rfl⟩ : ∃ j, L = j + 1 := ⟨L - 1, by omega⟩
  have b3' : 2 ^ m ≤ x := by simpa using b3
  have c3 : (2 : Int) ^ m ≤ x := by rw [← cast_pow]; omega
  have c4 : (x : Int) + 1 ≤ 2 ^ (m + 1) := by rw [← cast_pow]; omega
  have hp : (0 : Int) ≤ 2 ^ s := Int.le_of_lt (Int.pow_pos (by decide))
  have e := bln_of (n := (x : Int) * 2 ^ s + low) (s + m) ?_ ?_
  · rw [e]; omega
  · have := Int.mul_le_mul_of_nonneg_right c3 hp
    rw [← Int.pow_add, Nat.add_comm] at this
    omega
  · have := Int.mul_le_mul_of_nonneg_right c4 hp
    rw [← Int.pow_add, Int.add_mul, Int.one_mul, show m + 1 + s = s + m + 1 from by omega] at this
    omega
end Go.Proofs.YtfmfeipeeedfpaaGreat
namespace Go.Proofs.YtfmfeipeeedfpaaGreat
open Go.RowKit
/-- The block k holds the limbs of n. -/
def AtN (w : World) (k : Nat) (n : Int) : Prop := At4 w k (l0 n) (l1 n) (l2 n) (l3 n) ∧ Fz w k ∧ k < w.heap.size
/-- A number stored into the block k. -/
abbrev st4 (w : World) (k : Nat) (z : Int) : World := (((w.setCell ⟨k, 0, none⟩ (.int .u64 (l0 z))).setCell ⟨k, 1, none⟩ (.int .u64 (l1 z))).setCell ⟨k, 2, none⟩ (.int .u64 (l2 z))).setCell ⟨k, 3, none⟩ (.int .u64 (l3 z))
theorem AtN.mo {w w' : World} {k : Nat} {n : Int} (h : AtN w k n) (m : Mo w w') : AtN w' k n :=
  ⟨h.1.mo m h.2.2, h.2.1.mo m, Nat.lt_of_lt_of_le h.2.2 m.size⟩
theorem AtN.same {w : World} {k : Nat} {n : Int} (h : AtN w k n) (z : Int) : AtN (st4 w k z) k z := by
  obtain ⟨⟨b0, b1, b2, b3⟩, f, s⟩ := h
  refine ⟨by simp [At4, go_sem, *], fun o => by simp [World.frozen?_setCell, f o], by simpa [World.setCell] using s⟩
theorem AtN.other {w : World} {k j : Nat} {n : Int} (h : AtN w j n) (hk : j ≠ k) (z : Int) : AtN (st4 w k z) j n := by
  obtain ⟨⟨b0, b1, b2, b3⟩, f, s⟩ := h
  refine ⟨by simp [At4, go_sem, *], fun o => by simp [World.frozen?_setCell, f o], by simpa [World.setCell] using s⟩
theorem AtN.new (w : World) (n : Int) : AtN (w.alloc (.cells #[.int .u64 (l0 n), .int .u64 (l1 n), .int .u64 (l2 n), .int .u64 (l3 n)] 24)) w.heap.size n :=
  ⟨by simp [At4, go_sem], fun o => by simp [go_sem], by simp⟩
theorem Mo.st4 {a b : World} (h : Mo a b) {k : Nat} (hk : a.heap.size ≤ k) (z : Int) : Mo a (st4 b k z) :=
  (((h.setCell hk _).setCell hk _).setCell hk _).setCell hk _
/-- The blocks of the call: high, low, by, and the two results. -/
def VW (w wx : World) (h l d : Int) : Prop := Mo w wx ∧ AtN wx w.heap.size h ∧ AtN wx (w.heap.size + 1) l ∧ AtN wx (w.heap.size + 1 + 1) d ∧ AtN wx (w.heap.size + 1 + 1 + 1) 0 ∧ AtN wx (w.heap.size + 1 + 1 + 1 + 1) 0
theorem VW.mo {w wx w1 : World} {h l d : Int} (v : VW w wx h l d) (m : Mo wx w1) : VW w w1 h l d := by
  obtain ⟨v1, v2, v3, v4, v5, v6⟩ := v
  exact ⟨v1.trans m, v2.mo m, v3.mo m, v4.mo m, v5.mo m, v6.mo m⟩
theorem VW.setd {w wx : World} {h l d : Int} (v : VW w wx h l d) (z : Int) : VW w (st4 wx (w.heap.size + 1 + 1) z) h l z := by
  obtain ⟨v1, v2, v3, v4, v5, v6⟩ := v
  exact ⟨v1.st4 (by omega) z, v2.other (by omega) z, v3.other (by omega) z, v4.same z, v5.other (by omega) z, v6.other (by omega) z⟩
theorem VW.setl {w wx : World} {h l d : Int} (v : VW w wx h l d) (z : Int) : VW w (st4 wx (w.heap.size + 1) z) h z d := by
  obtain ⟨v1, v2, v3, v4, v5, v6⟩ := v
  exact ⟨v1.st4 (by omega) z, v2.other (by omega) z, v3.same z, v4.other (by omega) z, v5.other (by omega) z, v6.other (by omega) z⟩
theorem VW.setk {w wx : World} {h l d : Int} (v : VW w wx h l d) {k : Nat} (hk : w.heap.size + 1 + 1 + 1 + 1 < k) (z : Int) : VW w (st4 wx k z) h l d := by
  obtain ⟨v1, v2, v3, v4, v5, v6⟩ := v
  exact ⟨v1.st4 (by omega) z, v2.other (by omega) z, v3.other (by omega) z, v4.other (by omega) z, v5.other (by omega) z, v6.other (by omega) z⟩
theorem VW.start (w : World) (h l d : Int) : VW w (((((w.alloc (.cells #[.int .u64 (l0 h), .int .u64 (l1 h), .int .u64 (l2 h), .int .u64 (l3 h)] 24)).alloc (.cells #[.int .u64 (l0 l), .int .u64 (l1 l), .int .u64 (l2 l), .int .u64 (l3 l)] 24)).alloc (.cells #[.int .u64 (l0 d), .int .u64 (l1 d), .int .u64 (l2 d), .int .u64 (l3 d)] 24)).alloc (.cells #[.int .u64 0, .int .u64 0, .int .u64 0, .int .u64 0] 24)).alloc (.cells #[.int .u64 0, .int .u64 0, .int .u64 0, .int .u64 0] 24)) h l d := by
  have z0 : l0 0 = 0 := by decide
  have z1 : l1 0 = 0 := by decide
  have z2 : l2 0 = 0 := by decide
  have z3 : l3 0 = 0 := by decide
  refine ⟨(((((Mo.refl _).alloc _ _).alloc _ _).alloc _ _).alloc _ _).alloc _ _, ⟨by simp [At4, go_sem], fun o => by simp [go_sem], by simp <;> omega⟩, ⟨by simp [At4, go_sem], fun o => by simp [go_sem], by simp <;> omega⟩, ⟨by simp [At4, go_sem], fun o => by simp [go_sem], by simp <;> omega⟩, ⟨by simp [At4, go_sem, z0, z1, z2, z3], fun o => by simp [go_sem], by simp <;> omega⟩, ⟨by simp [At4, go_sem, z0, z1, z2, z3], fun o => by simp [go_sem], by simp <;> omega⟩⟩

/-- How far the divisor is from having its top bit set. -/
theorem dshift {D : Int} (h0 : 0 < D) (h : D < MM) : ∃ s : Nat, 256 - bln D = (s : Int) ∧ s ≤ 255 ∧ D * 2 ^ s < MM ∧ 57896044618658097711785492504343953926634992332820282019728792003956564819968 ≤ D * 2 ^ s := by
  obtain ⟨m, rfl⟩ := Int.eq_ofNat_of_zero_le (show 0 ≤ D by omega)
  have ne : m ≠ 0 := by omega
  have a1 := Nat.log2_self_le ne
  have a2 := @Nat.lt_log2_self m
  have lt : Nat.log2 m < 256 := (Nat.log2_lt ne).2 (by unfold MM at h; omega)
  refine ⟨255 - Nat.log2 m, ?_, by omega, ?_, ?_⟩
  · unfold bln; rw [if_neg (by omega), Int.toNat_natCast]; omega
  · have b : m * 2 ^ (255 - Nat.log2 m) < 2 ^ (Nat.log2 m + 1) * 2 ^ (255 - Nat.log2 m) := Nat.mul_lt_mul_of_pos_right a2 (Nat.pow_pos (by decide))
    rw [← Nat.pow_add, show Nat.log2 m + 1 + (255 - Nat.log2 m) = 256 from by omega] at b
    have e : ((m * 2 ^ (255 - Nat.log2 m) : Nat) : Int) = (m : Int) * 2 ^ (255 - Nat.log2 m) := by rw [Int.natCast_mul, cast_pow]
    rw [← e]
    generalize m * 2 ^ (255 - Nat.log2 m) = z at *
    unfold MM; omega
  · have b : 2 ^ Nat.log2 m * 2 ^ (255 - Nat.log2 m) ≤ m * 2 ^ (255 - Nat.log2 m) := Nat.mul_le_mul_right _ a1
    rw [← Nat.pow_add, show Nat.log2 m + (255 - Nat.log2 m) = 255 from by omega] at b
    have e : ((m * 2 ^ (255 - Nat.log2 m) : Nat) : Int) = (m : Int) * 2 ^ (255 - Nat.log2 m) := by rw [Int.natCast_mul, cast_pow]
    rw [← e]
    generalize m * 2 ^ (255 - Nat.log2 m) = z at *
    omega

theorem step_bd {P e D : Int} (h0 : 0 ≤ P) (h : P < D) (he : U1 e) : U1 ((P * 18446744073709551616 + e) / D) ∧ 0 ≤ (P * 18446744073709551616 + e) % D ∧ (P * 18446744073709551616 + e) % D < D ∧ D * ((P * 18446744073709551616 + e) / D) + (P * 18446744073709551616 + e) % D = P * 18446744073709551616 + e := by
  obtain ⟨a, b⟩ := he
  refine ⟨⟨Int.ediv_nonneg (by omega) (by omega), Int.ediv_lt_of_lt_mul (by omega) (by omega)⟩, Int.emod_nonneg _ (by omega), Int.emod_lt_of_pos _ (by omega), Int.mul_ediv_add_emod _ _⟩
/-- Four steps make the quotient and the rest. -/
theorem steps_eq {P4 P3 P2 P1 P0 q3 q2 q1 q0 low D : Int} (h0 : 0 ≤ P4) (h : P4 < D) (hl0 : 0 ≤ low) (hl : low < MM)
    (e3 : q3 = (P4 * 18446744073709551616 + l3 low) / D) (f3 : P3 = (P4 * 18446744073709551616 + l3 low) % D) (e2 : q2 = (P3 * 18446744073709551616 + l2 low) / D) (f2 : P2 = (P3 * 18446744073709551616 + l2 low) % D)
    (e1 : q1 = (P2 * 18446744073709551616 + l1 low) / D) (f1 : P1 = (P2 * 18446744073709551616 + l1 low) % D) (e0 : q0 = (P1 * 18446744073709551616 + l0 low) / D) (f0 : P0 = (P1 * 18446744073709551616 + l0 low) % D) :
    U4 q0 q1 q2 q3 ∧ (0 ≤ P3 ∧ P3 < D) ∧ (0 ≤ P2 ∧ P2 < D) ∧ (0 ≤ P1 ∧ P1 < D) ∧ (0 ≤ P0 ∧ P0 < D) ∧ vl q0 q1 q2 q3 = (P4 * MM + low) / D ∧ P0 = (P4 * MM + low) % D := by
  obtain ⟨u0, u1, u2, u3⟩ := u4_lb low
  obtain ⟨a3, b3, c3, d3⟩ := step_bd h0 h u3
  rw [← e3, ← f3] at d3; rw [← e3] at a3; rw [← f3] at b3 c3
  obtain ⟨a2, b2, c2, d2⟩ := step_bd b3 c3 u2
  rw [← e2, ← f2] at d2; rw [← e2] at a2; rw [← f2] at b2 c2
  obtain ⟨a1, b1, c1, d1⟩ := step_bd b2 c2 u1
  rw [← e1, ← f1] at d1; rw [← e1] at a1; rw [← f1] at b1 c1
  obtain ⟨a0, b0, c0, d0⟩ := step_bd b1 c1 u0
  rw [← e0, ← f0] at d0; rw [← e0] at a0; rw [← f0] at b0 c0
  have lw := vl_lb low hl0 hl
  have key : P4 * MM + low = P0 + D * vl q0 q1 q2 q3 := by
    have e : D * vl q0 q1 q2 q3 = D * q0 + 18446744073709551616 * (D * q1) + 340282366920938463463374607431768211456 * (D * q2) + 6277101735386680763835789423207666416102355444464034512896 * (D * q3) := by
      unfold vl; rw [Int.mul_add, Int.mul_add, Int.mul_add, Int.mul_left_comm, Int.mul_left_comm D _ q2, Int.mul_left_comm D _ q3]
    rw [e, ← lw]
    clear e e0 e1 e2 e3 f0 f1 f2 f3 lw
    unfold vl MM
    omega
  refine ⟨⟨a0, a1, a2, a3⟩, ⟨b3, c3⟩, ⟨b2, c2⟩, ⟨b1, c1⟩, ⟨b0, c0⟩, ?_, ?_⟩
  · rw [key, Int.add_mul_ediv_left _ _ (by omega), Int.ediv_eq_zero_of_lt b0 c0, Int.zero_add]
  · rw [key, Int.add_mul_emod_self_left, Int.emod_eq_of_lt b0 c0]
/-- Both sides shifted: the same quotient, the rest shifted. -/
theorem shifted {H L D : Int} {s : Nat} (hs : s ≤ 255) (hH : 0 ≤ H) (hHD : H < D) (hL0 : 0 ≤ L) (hL : L < MM) :
    0 ≤ H * 2 ^ s + L / 2 ^ (256 - s) ∧ H * 2 ^ s + L / 2 ^ (256 - s) < D * 2 ^ s ∧
    ((H * 2 ^ s + L / 2 ^ (256 - s)) * MM + L * 2 ^ s % MM) / (D * 2 ^ s) = (H * MM + L) / D ∧ ((H * 2 ^ s + L / 2 ^ (256 - s)) * MM + L * 2 ^ s % MM) % (D * 2 ^ s) / 2 ^ s = (H * MM + L) % D := by
  have hP : (0 : Int) < 2 ^ s := Int.pow_pos (by decide)
  have hQ : (0 : Int) < 2 ^ (256 - s) := Int.pow_pos (by decide)
  have hPQ : (2 : Int) ^ (256 - s) * 2 ^ s = MM := by rw [← Int.pow_add, show 256 - s + s = 256 from by omega]; decide
  have lq0 : 0 ≤ L / 2 ^ (256 - s) := Int.ediv_nonneg hL0 (by omega)
  have lq : L / 2 ^ (256 - s) < 2 ^ s := Int.ediv_lt_of_lt_mul hQ (by rw [Int.mul_comm, hPQ]; exact hL)
  have hy1 : (H + 1) * 2 ^ s ≤ D * 2 ^ s := Int.mul_le_mul_of_nonneg_right (by omega) (by omega)
  rw [Int.add_mul, Int.one_mul] at hy1
  have hiP : 0 ≤ H * 2 ^ s := Int.mul_nonneg hH (by omega)
  have lop : L * 2 ^ s / MM = L / 2 ^ (256 - s) := by rw [← hPQ]; exact Int.mul_ediv_mul_of_pos_left _ _ hP
  have whole : (H * 2 ^ s + L / 2 ^ (256 - s)) * MM + L * 2 ^ s % MM = (H * MM + L) * 2 ^ s := by
    rw [Int.add_mul (H * MM), Int.mul_right_comm H MM, ← lop, Int.add_mul]
    have := Int.mul_ediv_add_emod (L * 2 ^ s) MM
    rw [Int.mul_comm MM] at this
    omega
  have div1 : (H * MM + L) * 2 ^ s / (D * 2 ^ s) = (H * MM + L) / D := Int.mul_ediv_mul_of_pos_left _ _ hP
  refine ⟨by omega, by omega, ?_, ?_⟩
  · rw [whole, div1]
  · rw [whole, mod_sub, div1, mod_sub, ← Int.mul_assoc, ← Int.sub_mul, Int.mul_ediv_cancel _ (by omega)]
theorem AtN.al {w : World} {k : Nat} {n : Int} (h : AtN w k n) {x : Array Value} {t : TypeId} : AtN (w.alloc (.cells x t)) k n := h.mo ((Mo.refl _).alloc _ _)
theorem AtN.at (w : World) (n : Int) {k : Nat} (h : k = w.heap.size) : AtN (w.alloc (.cells #[.int .u64 (l0 n), .int .u64 (l1 n), .int .u64 (l2 n), .int .u64 (l3 n)] 24)) k n := by subst h; exact AtN.new w n
/-- The block k holds the first limbs of a number, and 0 else. -/
def H4 (w : World) (k : Nat) (n : Int) (i : Nat) : Prop := At4 w k (if 0 < i then l0 n else 0) (if 1 < i then l1 n else 0) (if 2 < i then l2 n else 0) (if 3 < i then l3 n else 0) ∧ Fz w k ∧ k < w.heap.size
theorem H4.put {w : World} {k : Nat} {n : Int} {i i' : Nat} {o : Nat} {v : Int} (h : H4 w k n i) (e : At4 (w.setCell ⟨k, o, none⟩ (.int .u64 v)) k (if 0 < i' then l0 n else 0) (if 1 < i' then l1 n else 0) (if 2 < i' then l2 n else 0) (if 3 < i' then l3 n else 0)) : H4 (w.setCell ⟨k, o, none⟩ (.int .u64 v)) k n i' :=
  ⟨e, fun o => by simp [World.frozen?_setCell, h.2.1 o], by simpa [World.setCell] using h.2.2⟩
theorem H4.mo {w w' : World} {k : Nat} {n : Int} {i : Nat} (h : H4 w k n i) (m : Mo w w') : H4 w' k n i :=
  ⟨h.1.mo m h.2.2, h.2.1.mo m, by have := m.size; have := h.2.2; omega⟩

theorem addc_eq {a0 a1 a2 a3 b0 b1 b2 b3 n : Int} (_ha : U4 a0 a1 a2 a3) (_hb : U4 b0 b1 b2 b3) (hn : n = vl a0 a1 a2 a3 + vl b0 b1 b2 b3) :
   (a0 + b0) % 18446744073709551616 = l0 n ∧ (a1 + b1 + (a0 + b0) / 18446744073709551616) % 18446744073709551616 = l1 n ∧
   (a2 + b2 + (a1 + b1 + (a0 + b0) / 18446744073709551616) / 18446744073709551616) % 18446744073709551616 = l2 n ∧
   (a3 + b3 + (a2 + b2 + (a1 + b1 + (a0 + b0) / 18446744073709551616) / 18446744073709551616) / 18446744073709551616) % 18446744073709551616 = l3 n ∧
   (a3 + b3 + (a2 + b2 + (a1 + b1 + (a0 + b0) / 18446744073709551616) / 18446744073709551616) / 18446744073709551616) / 18446744073709551616 = n / MM := by
  subst hn
  unfold U4 U1 at _ha _hb; unfold vl l0 l1 l2 l3 MM
  omega

set_option maxHeartbeats 2000000 in
theorem addCarry_any (a0 a1 a2 a3 b0 b1 b2 b3 : Int) (w : World) (ha : U4 a0 a1 a2 a3) (hb : U4 b0 b1 b2 b3) :
    Calls Tryz.prog 224 #[.agg #[.int .u64 a0, .int .u64 a1, .int .u64 a2, .int .u64 a3], .agg #[.int .u64 b0, .int .u64 b1, .int .u64 b2, .int .u64 b3]] w fun e w' => 
      e = .returned (.tuple #[nv (vl a0 a1 a2 a3 + vl b0 b1 b2 b3), .int .u64 ((vl a0 a1 a2 a3 + vl b0 b1 b2 b3) / MM)]) ∧ Mo w w' := by
  have ha' := ha
  have hb' := hb
  obtain ⟨⟨p0, q0⟩, ⟨p1, q1⟩, ⟨p2, q2⟩, ⟨p3, q3⟩⟩ := ha'
  obtain ⟨⟨r0, s0⟩, ⟨r1, s1⟩, ⟨r2, s2⟩, ⟨r3, s3⟩⟩ := hb'
  have k1 : 0 ≤ (a0 + b0) / 18446744073709551616 := by omega
  have k1' : (a0 + b0) / 18446744073709551616 ≤ 1 := by omega
  have k2 : 0 ≤ (a1 + b1 + (a0 + b0) / 18446744073709551616) / 18446744073709551616 := by omega
  have k2' : (a1 + b1 + (a0 + b0) / 18446744073709551616) / 18446744073709551616 ≤ 1 := by omega
  have k3 : 0 ≤ (a2 + b2 + (a1 + b1 + (a0 + b0) / 18446744073709551616) / 18446744073709551616) / 18446744073709551616 := by omega
  have k3' : (a2 + b2 + (a1 + b1 + (a0 + b0) / 18446744073709551616) / 18446744073709551616) / 18446744073709551616 ≤ 1 := by omega
  go_enter Tryz.func224, Tryz.ntmps224
  go_wp2
  refine wp_loop_rounds 5 ?_
  rw [rounds_succ]
  go_wp2
  go_region_held3 (fun w' => w'.cell? ⟨w.heap.size, 0, none⟩ = some (.int .u64 a0) ∧ w'.cell? ⟨w.heap.size + 1, 0, none⟩ = some (.int .u64 b0)) (simp [go_sem, World.cell?_alloc_past])
    (first | simp only [add64_0 a0 b0 p0 r0])
  go_wp2
  rw [rounds_succ]
  go_wp2
  go_region_held3 (fun w' => w'.cell? ⟨w.heap.size, 1, none⟩ = some (.int .u64 a1) ∧ w'.cell? ⟨w.heap.size + 1, 1, none⟩ = some (.int .u64 b1)) (simp [go_sem, World.cell?_alloc_past])
    (first | simp only [add64 a1 b1 _ p1 r1 k1 k1'])
  go_wp2
  rw [rounds_succ]
  go_wp2
  go_region_held3 (fun w' => w'.cell? ⟨w.heap.size, 2, none⟩ = some (.int .u64 a2) ∧ w'.cell? ⟨w.heap.size + 1, 2, none⟩ = some (.int .u64 b2)) (simp [go_sem, World.cell?_alloc_past])
    (first | simp only [add64 a2 b2 _ p2 r2 k2 k2'])
  go_wp2
  rw [rounds_succ]
  go_wp2
  go_region_held3 (fun w' => w'.cell? ⟨w.heap.size, 3, none⟩ = some (.int .u64 a3) ∧ w'.cell? ⟨w.heap.size + 1, 3, none⟩ = some (.int .u64 b3)) (simp [go_sem, World.cell?_alloc_past])
    (first | simp only [add64 a3 b3 _ p3 r3 k3 k3'])
  go_wp2
  rw [rounds_succ]
  go_wp2
  refine bodyPost_ret (by simp [results, Tryz.results224, go_sem]; rfl) rfl ?_
  obtain ⟨e0, e1, e2, e3, e4⟩ := addc_eq ha hb rfl
  rw [nv_of e0 e1 e2 e3, e4]
  refine ⟨rfl, ?_⟩
  repeat (first | exact Mo.refl _ | apply Mo.drew | apply Mo.alloc)

theorem subc_eq {a0 a1 a2 a3 b0 b1 b2 b3 n c1 c2 c3 : Int} (_ha : U4 a0 a1 a2 a3) (_hb : U4 b0 b1 b2 b3) (hn : n = vl a0 a1 a2 a3 - vl b0 b1 b2 b3) (h1 : c1 = bw a0 b0 0) (h2 : c2 = bw a1 b1 c1) (h3 : c3 = bw a2 b2 c2) :
   (a0 - b0) % 18446744073709551616 = l0 (n % MM) ∧ (a1 - b1 - c1) % 18446744073709551616 = l1 (n % MM) ∧ (a2 - b2 - c2) % 18446744073709551616 = l2 (n % MM) ∧ (a3 - b3 - c3) % 18446744073709551616 = l3 (n % MM) ∧ bw a3 b3 c3 = -(n / MM) := by
  subst hn
  unfold bw at *
  unfold U4 U1 at _ha _hb; unfold vl l0 l1 l2 l3 MM
  omega

set_option maxHeartbeats 2000000 in
theorem subBorrow_any (a0 a1 a2 a3 b0 b1 b2 b3 : Int) (w : World) (ha : U4 a0 a1 a2 a3) (hb : U4 b0 b1 b2 b3) :
    Calls Tryz.prog 225 #[.agg #[.int .u64 a0, .int .u64 a1, .int .u64 a2, .int .u64 a3], .agg #[.int .u64 b0, .int .u64 b1, .int .u64 b2, .int .u64 b3]] w fun e w' =>
      e = .returned (.tuple #[nv ((vl a0 a1 a2 a3 - vl b0 b1 b2 b3) % MM), .int .u64 (-((vl a0 a1 a2 a3 - vl b0 b1 b2 b3) / MM))]) ∧ Mo w w' := by
  have ha' := ha
  have hb' := hb
  obtain ⟨⟨p0, q0⟩, ⟨p1, q1⟩, ⟨p2, q2⟩, ⟨p3, q3⟩⟩ := ha'
  obtain ⟨⟨r0, s0⟩, ⟨r1, s1⟩, ⟨r2, s2⟩, ⟨r3, s3⟩⟩ := hb'
  obtain ⟨k1, k1'⟩ := bw_bd p0 q0 r0 s0 (Int.le_refl 0) (by decide)
  obtain ⟨k2, k2'⟩ := bw_bd p1 q1 r1 s1 k1 k1'
  obtain ⟨k3, k3'⟩ := bw_bd p2 q2 r2 s2 k2 k2'
  go_enter Tryz.func225, Tryz.ntmps225
  go_wp2
  refine wp_loop_rounds 5 ?_
  rw [rounds_succ]
  go_wp2
  go_region_held3 (fun w' => w'.cell? ⟨w.heap.size, 0, none⟩ = some (.int .u64 a0) ∧ w'.cell? ⟨w.heap.size + 1, 0, none⟩ = some (.int .u64 b0)) (simp [go_sem, World.cell?_alloc_past])
    (first | simp only [sub64_0 a0 b0 p0 q0 r0 s0])
  go_wp2
  rw [rounds_succ]
  go_wp2
  go_region_held3 (fun w' => w'.cell? ⟨w.heap.size, 1, none⟩ = some (.int .u64 a1) ∧ w'.cell? ⟨w.heap.size + 1, 1, none⟩ = some (.int .u64 b1)) (simp [go_sem, World.cell?_alloc_past])
    (first | simp only [sub64 a1 b1 _ p1 q1 r1 s1 k1 k1'])
  go_wp2
  rw [rounds_succ]
  go_wp2
  go_region_held3 (fun w' => w'.cell? ⟨w.heap.size, 2, none⟩ = some (.int .u64 a2) ∧ w'.cell? ⟨w.heap.size + 1, 2, none⟩ = some (.int .u64 b2)) (simp [go_sem, World.cell?_alloc_past])
    (first | simp only [sub64 a2 b2 _ p2 q2 r2 s2 k2 k2'])
  go_wp2
  rw [rounds_succ]
  go_wp2
  go_region_held3 (fun w' => w'.cell? ⟨w.heap.size, 3, none⟩ = some (.int .u64 a3) ∧ w'.cell? ⟨w.heap.size + 1, 3, none⟩ = some (.int .u64 b3)) (simp [go_sem, World.cell?_alloc_past])
    (first | simp only [sub64 a3 b3 _ p3 q3 r3 s3 k3 k3'])
  go_wp2
  rw [rounds_succ]
  go_wp2
  refine bodyPost_ret (by simp [results, Tryz.results225, go_sem]; rfl) rfl ?_
  obtain ⟨e0, e1, e2, e3, e4⟩ := subc_eq ha hb rfl rfl rfl rfl
  rw [nv_of e0 e1 e2 e3, e4]
  refine ⟨rfl, ?_⟩
  repeat (first | exact Mo.refl _ | apply Mo.drew | apply Mo.alloc)

set_option maxHeartbeats 1000000 in
theorem add_any (a0 a1 a2 a3 b0 b1 b2 b3 : Int) (w : World) (ha : U4 a0 a1 a2 a3) (hb : U4 b0 b1 b2 b3) :
    Calls Tryz.prog 207 #[.agg #[.int .u64 a0, .int .u64 a1, .int .u64 a2, .int .u64 a3], .agg #[.int .u64 b0, .int .u64 b1, .int .u64 b2, .int .u64 b3]] w fun e w' =>
      e = .returned (.tuple #[nv (vl a0 a1 a2 a3 + vl b0 b1 b2 b3), .bool (ov (vl a0 a1 a2 a3 + vl b0 b1 b2 b3))]) ∧ Mo w w' := by
  rw [← ov_ne ha hb]
  go_enter Tryz.func207, Tryz.ntmps207
  go_wp2_with fail
  refine (addCarry_any a0 a1 a2 a3 b0 b1 b2 b3 _ ha hb).mono ?_
  rintro e w1 ⟨rfl, hm⟩
  have hc := hm.cell
  have hf := hm.2
  have hz := hm.size
  simp only [World.size_alloc] at hz hc
  have hz2 : w.heap.size + 1 + 1 < w1.heap.size := by omega
  go_wp2
  refine bodyPost_ret (by simp [results, Tryz.results207, go_sem, hc, hz2]; rfl) rfl ?_
  refine ⟨rfl, ?_⟩
  repeat (first | exact Mo.refl _ | with_reducible apply Mo.drew | with_reducible apply Mo.drewN | with_reducible apply Mo.alloc | with_reducible refine Mo.setCell ?_ (by simp <;> omega) _ | with_reducible refine Mo.trans ?_ (by assumption))

set_option maxHeartbeats 1000000 in
theorem sub_any (a0 a1 a2 a3 b0 b1 b2 b3 : Int) (w : World) (ha : U4 a0 a1 a2 a3) (hb : U4 b0 b1 b2 b3) :
    Calls Tryz.prog 210 #[.agg #[.int .u64 a0, .int .u64 a1, .int .u64 a2, .int .u64 a3], .agg #[.int .u64 b0, .int .u64 b1, .int .u64 b2, .int .u64 b3]] w fun e w' =>
      e = .returned (.tuple #[nv ((vl a0 a1 a2 a3 - vl b0 b1 b2 b3) % MM), .bool (un (vl a0 a1 a2 a3 - vl b0 b1 b2 b3))]) ∧ Mo w w' := by
  rw [← un_ne ha hb]
  go_enter Tryz.func210, Tryz.ntmps210
  go_wp2_with fail
  refine (subBorrow_any a0 a1 a2 a3 b0 b1 b2 b3 _ ha hb).mono ?_
  rintro e w1 ⟨rfl, hm⟩
  have hc := hm.cell
  have hf := hm.2
  have hz := hm.size
  simp only [World.size_alloc] at hz hc
  have hz2 : w.heap.size + 1 + 1 < w1.heap.size := by omega
  go_wp2
  refine bodyPost_ret (by simp [results, Tryz.results210, go_sem, hc, hz2]; rfl) rfl ?_
  refine ⟨rfl, ?_⟩
  repeat (first | exact Mo.refl _ | with_reducible apply Mo.drew | with_reducible apply Mo.drewN | with_reducible apply Mo.alloc | with_reducible refine Mo.setCell ?_ (by simp <;> omega) _ | with_reducible refine Mo.trans ?_ (by assumption))

set_option maxHeartbeats 400000 in
theorem from20_any (u : Int) (w : World) (h : U1 u) :
    Calls Tryz.prog 159 #[.int .u64 u] w fun e w' => e = .returned (nv u) ∧ Mo w w' := by
  have e0 : l0 u = u := by unfold U1 at h; unfold l0; omega
  have e1 : l1 u = 0 := by unfold U1 at h; unfold l1; omega
  have e2 : l2 u = 0 := by unfold U1 at h; unfold l2; omega
  have e3 : l3 u = 0 := by unfold U1 at h; unfold l3; omega
  rw [nv, e0, e1, e2, e3]
  clear e0 e1 e2 e3
  go_enter Tryz.func159, Tryz.ntmps159
  go_wp2
  refine bodyPost_ret (by simp [results, Tryz.results159, go_sem]; rfl) rfl ?_
  refine ⟨rfl, ?_⟩
  repeat (first | exact Mo.refl _ | with_reducible apply Mo.drew | with_reducible apply Mo.drewN | with_reducible apply Mo.alloc | with_reducible refine Mo.setCell ?_ (by simp <;> omega) _ | with_reducible refine Mo.trans ?_ (by assumption))

/-- The two words of a product of two words. -/
def mh (x y : Int) : Int := x * y / 18446744073709551616
def ml (x y : Int) : Int := x * y % 18446744073709551616
theorem mul64 (x y : Int) (hx : U1 x) (hy : U1 y) (w : World) :
    Calls Tryz.prog 228 #[.int .u64 x, .int .u64 y] w fun e w' => e = .returned (.tuple #[.int .u64 (mh x y), .int .u64 (ml x y)]) ∧ w' = w := by
  obtain ⟨x0, x1⟩ := hx
  obtain ⟨y0, y1⟩ := hy
  obtain ⟨x, rfl⟩ := Int.eq_ofNat_of_zero_le x0
  obtain ⟨y, rfl⟩ := Int.eq_ofNat_of_zero_le y0
  have e1 : mh (x : Int) y = ((x * y / 18446744073709551616 : Nat) : Int) := by unfold mh; omega
  have e2 : ml (x : Int) y = ((x * y % 18446744073709551616 : Nat) : Int) := by unfold ml; omega
  rw [e1, e2]
  exact Tryz.bits_Mul64 x y (by omega) (by omega) w

theorem mul_bd {x y : Int} (hx : U1 x) (hy : U1 y) : 0 ≤ x * y ∧ x * y ≤ 340282366920938463426481119284349108225 := by
  obtain ⟨x0, x1⟩ := hx
  obtain ⟨y0, y1⟩ := hy
  refine ⟨Int.mul_nonneg x0 y0, ?_⟩
  exact Int.mul_le_mul (by omega : x ≤ 18446744073709551615) (by omega : y ≤ 18446744073709551615) y0 (by decide)
theorem mh_bd {x y : Int} (hx : U1 x) (hy : U1 y) : 0 ≤ mh x y ∧ mh x y ≤ 18446744073709551614 := by
  have h := mul_bd hx hy; unfold mh; omega
theorem ml_bd {x y : Int} (_hx : U1 x) (_hy : U1 y) : 0 ≤ ml x y ∧ ml x y < 18446744073709551616 := by
  unfold ml; omega

theorem mull_eq {a0 a1 a2 a3 c t1 t2 t3 t4 : Int} (ha : U4 a0 a1 a2 a3) (hc : U1 c) (h1 : t1 = mh a0 c) (h2 : t2 = mh a1 c + (ml a1 c + t1) / 18446744073709551616) (h3 : t3 = mh a2 c + (ml a2 c + t2) / 18446744073709551616) (h4 : t4 = mh a3 c + (ml a3 c + t3) / 18446744073709551616) :
    ml a0 c = l0 (vl a0 a1 a2 a3 * c) ∧ (ml a1 c + t1) % 18446744073709551616 = l1 (vl a0 a1 a2 a3 * c) ∧ (ml a2 c + t2) % 18446744073709551616 = l2 (vl a0 a1 a2 a3 * c) ∧ (ml a3 c + t3) % 18446744073709551616 = l3 (vl a0 a1 a2 a3 * c) ∧ t4 = vl a0 a1 a2 a3 * c / MM := by
  obtain ⟨g0, g1, g2, g3⟩ := ha
  have b0 := mul_bd g0 hc
  have b1 := mul_bd g1 hc
  have b2 := mul_bd g2 hc
  have b3 := mul_bd g3 hc
  have e : vl a0 a1 a2 a3 * c = a0 * c + 18446744073709551616 * (a1 * c) + 340282366920938463463374607431768211456 * (a2 * c) + 6277101735386680763835789423207666416102355444464034512896 * (a3 * c) := by
    unfold vl; rw [Int.add_mul, Int.add_mul, Int.add_mul, Int.mul_assoc, Int.mul_assoc, Int.mul_assoc]
  rw [e]
  unfold mh ml at *
  generalize a0 * c = p0 at *
  generalize a1 * c = p1 at *
  generalize a2 * c = p2 at *
  generalize a3 * c = p3 at *
  unfold l0 l1 l2 l3 MM
  omega

set_option maxHeartbeats 2000000 in
theorem mulLimb_raw (a0 a1 a2 a3 c t1 t2 t3 t4 : Int) (w : World) (ha : U4 a0 a1 a2 a3) (hc : U1 c) (h1 : Hid (t1 = mh a0 c)) (h2 : Hid (t2 = mh a1 c + (ml a1 c + t1) / 18446744073709551616)) (h3 : Hid (t3 = mh a2 c + (ml a2 c + t2) / 18446744073709551616)) (h4 : Hid (t4 = mh a3 c + (ml a3 c + t3) / 18446744073709551616)) :
    Calls Tryz.prog 216 #[.agg #[.int .u64 a0, .int .u64 a1, .int .u64 a2, .int .u64 a3], .int .u64 c] w fun e w' =>
      e = .returned (.tuple #[.agg #[.int .u64 (ml a0 c), .int .u64 ((ml a1 c + t1) % 18446744073709551616), .int .u64 ((ml a2 c + t2) % 18446744073709551616), .int .u64 ((ml a3 c + t3) % 18446744073709551616)], .int .u64 t4]) ∧ Mo w w' := by
  have g := ha
  obtain ⟨g0, g1, g2, g3⟩ := g
  obtain ⟨p0, q0⟩ := mh_bd g0 hc
  obtain ⟨r0, s0⟩ := ml_bd g0 hc
  obtain ⟨p1, q1⟩ := mh_bd g1 hc
  obtain ⟨r1, s1⟩ := ml_bd g1 hc
  obtain ⟨p2, q2⟩ := mh_bd g2 hc
  obtain ⟨r2, s2⟩ := ml_bd g2 hc
  obtain ⟨p3, q3⟩ := mh_bd g3 hc
  obtain ⟨r3, s3⟩ := ml_bd g3 hc
  have j1 : 0 ≤ t1 ∧ t1 < 18446744073709551616 := by have := h1.out; omega
  have j2 : 0 ≤ t2 ∧ t2 < 18446744073709551616 := by have := h2.out; omega
  have j3 : 0 ≤ t3 ∧ t3 < 18446744073709551616 := by have := h3.out; omega
  obtain ⟨u1, v1⟩ := j1
  obtain ⟨u2, v2⟩ := j2
  obtain ⟨u3, v3⟩ := j3
  have x1 : mh a0 c + ml a0 c / 18446744073709551616 = t1 := by have := h1.out; omega
  have x2 : mh a1 c + (ml a1 c + t1) / 18446744073709551616 = t2 := h2.out.symm
  have x3 : mh a2 c + (ml a2 c + t2) / 18446744073709551616 = t3 := h3.out.symm
  have x4 : mh a3 c + (ml a3 c + t3) / 18446744073709551616 = t4 := h4.out.symm
  have y1 : ml a0 c % 18446744073709551616 = ml a0 c := by omega
  have i0 : ∀ w : World, (Instr.index 24 (.agg #[.int .u64 a0, .int .u64 a1, .int .u64 a2, .int .u64 a3]) (.int .i64 0)).run Tryz.prog w = .ok (.int .u64 a0) w := fun _ => by kernel_rfl
  have i1 : ∀ w : World, (Instr.index 24 (.agg #[.int .u64 a0, .int .u64 a1, .int .u64 a2, .int .u64 a3]) (.int .i64 1)).run Tryz.prog w = .ok (.int .u64 a1) w := fun _ => by kernel_rfl
  have i2 : ∀ w : World, (Instr.index 24 (.agg #[.int .u64 a0, .int .u64 a1, .int .u64 a2, .int .u64 a3]) (.int .i64 2)).run Tryz.prog w = .ok (.int .u64 a2) w := fun _ => by kernel_rfl
  have i3 : ∀ w : World, (Instr.index 24 (.agg #[.int .u64 a0, .int .u64 a1, .int .u64 a2, .int .u64 a3]) (.int .i64 3)).run Tryz.prog w = .ok (.int .u64 a3) w := fun _ => by kernel_rfl
  go_enter Tryz.func216, Tryz.ntmps216
  go_wp2
  refine wp_loop_rounds 5 ?_
  rw [rounds_succ]
  go_wp2_with (first | (go_at_call 228; refine (mul64 a0 c g0 hc _).mono ?_; rintro e w' ⟨rfl, rfl⟩) | simp only [add64_0 (ml a0 c) 0 r0 (Int.le_refl 0)])
  rw [rounds_succ]
  go_wp2_with (first | (go_at_call 228; refine (mul64 a1 c g1 hc _).mono ?_; rintro e w' ⟨rfl, rfl⟩) | simp only [add64_0 (ml a1 c) t1 r1 u1])
  rw [rounds_succ]
  go_wp2_with (first | (go_at_call 228; refine (mul64 a2 c g2 hc _).mono ?_; rintro e w' ⟨rfl, rfl⟩) | simp only [add64_0 (ml a2 c) t2 r2 u2])
  rw [rounds_succ]
  go_wp2_with (first | (go_at_call 228; refine (mul64 a3 c g3 hc _).mono ?_; rintro e w' ⟨rfl, rfl⟩) | simp only [add64_0 (ml a3 c) t3 r3 u3])
  rw [rounds_succ]
  go_wp2
  refine bodyPost_ret (by simp [results, Tryz.results216, go_sem]; rfl) rfl ?_
  refine ⟨rfl, ?_⟩
  repeat (first | exact Mo.refl _ | with_reducible apply Mo.drew | with_reducible apply Mo.drewN | with_reducible apply Mo.alloc | with_reducible refine Mo.setCell ?_ (by simp <;> omega) _ | with_reducible refine Mo.trans ?_ (by assumption))

theorem mulLimb_any (a0 a1 a2 a3 c : Int) (w : World) (ha : U4 a0 a1 a2 a3) (hc : U1 c) :
    Calls Tryz.prog 216 #[.agg #[.int .u64 a0, .int .u64 a1, .int .u64 a2, .int .u64 a3], .int .u64 c] w fun e w' =>
      e = .returned (.tuple #[nv (vl a0 a1 a2 a3 * c), .int .u64 (vl a0 a1 a2 a3 * c / MM)]) ∧ Mo w w' := by
  refine (mulLimb_raw a0 a1 a2 a3 c _ _ _ _ w ha hc rfl rfl rfl rfl).mono ?_
  rintro e w' ⟨rfl, hm⟩
  obtain ⟨e0, e1, e2, e3, e4⟩ := mull_eq ha hc rfl rfl rfl rfl
  refine ⟨?_, hm⟩
  rw [nv_of e0 e1 e2 e3, e4]
end Go.Proofs.YtfmfeipeeedfpaaGreat
