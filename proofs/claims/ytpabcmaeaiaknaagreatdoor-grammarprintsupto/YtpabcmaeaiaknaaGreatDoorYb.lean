/-
  What is left to be shown of code, step by step. What is left to be shown of code is enough; results; entering a function; loops; calls. Functions of values; calls; loops. Calls that are handed blocks of one's own. Functions that are handed blocks of one's own, and calls of these. Maps of one's own; values of functions. Letters, digits, names. Names, words. The language's words; free names. Plain arithmetic of numbers in four limbs of 64 bits: no program in sight. Small facts on worlds: where a number of four limbs lies, and that it stays where it lies. Two arrays of four limbs held against each other: what the program's == says. Numbers, values, expressions that came in; == of them. The halves of a number's limbs. A number divided by ten, half a limb at a time. A walk step by step: each operation by its own law, the world behind it a letter, a block's cells one row. Plain arithmetic of math/bits.Div64: a digit of 32 bits, guessed and mended. math/bits.Div64 where the high word is 0, limb.divLimb of a number of one limb: the walks. math/bits.Len64, LeadingZeros64 and Mul64 at this program: the contracts of the library, laid. math/bits.Div64, whatever the words: the walk. limb.Div: the worlds of the call, and the arithmetic of its four steps. Plain arithmetic of shifts of four limbs. Plain arithmetic of limb.Mul: one row more. limb.Mul, whatever the limbs: the walk. limb.Text, whatever the limbs: the walk. Decimal digits as plain lists. A walk step by step: each operation by its own law, the world behind it a letter, a block's cells one row.
-/
import Derived.Test.YtpabcmaeaiaknaaGreatDoorYa
import Derived.Scope
import Derived.KernelRfl
import Derived.MapKept
import Derived.Test.YtpabcmaeaiaknaaGreatDoorProg
import Derived.WalkKit
import Derived.WalkSpells
import Derived.Handy
import Derived.BigQuiet
import Derived.Deep.RegionHeld3
import Derived.ChangeKeysEq
import Derived.Laws.StructEq
import Derived.RegionTactic
import Derived.Deep.MidRow
import Derived.BigCall
import Derived.Shelf.Small.Bits
import Derived.Shelf.Strconv.Itoa0
import Derived.Shelf.Bits.Mul64
import Derived.Deep.CutBlock
import Derived.Deep.CutRange
import Derived.ScopeJumps
import Derived.WalkMore
import Derived.Shelf.Strings.Builder1
import Derived.Shelf.Strings.Builder2
import Derived.Shelf.Small.Wraps
import Derived.Shelf.Strings.BuilderF
import Derived.Shelf.Strings.BuilderK
import Derived.Shelf.Strings.Prefix
import Derived.Shelf.Strings.Repeat
import Derived.Lib.CutLaws
import Derived.Lib.IndexBytes
namespace Go.Proofs.YtpabcmaeaiaknaaGreatDoor
namespace S
open Go.CheckFast (force force_eq)
open Go.RowKit (Below)
def msk (h : HT) (b : Nat) : HT := (b + 4096, none) :: h
def hsym : HT -> Nat -> Bool
  | [], _ => false
  | x :: l, b => bif Nat.beq x.1 (b + 4096) then true else hsym l b
theorem hget_msk (h : HT) (b i : Nat) : hget (msk h b) i = hget h i := by
  unfold hget msk
  by_cases hi : i < 4096
  · rw [blt_t hi]; simp only [cond_true, hlook, beq_f (show b + 4096 ≠ i by omega), cond_false]
  · rw [blt_f hi]; rfl
theorem Ss.mask {h h' : HT} {n n' r w : Nat} (b : Nat) (s : Ss h n h' n' r w) : Ss h n (msk h' b) n' r w where
  le := s.le
  nn := fun nn i hi => by rw [hget_msk]; exact s.nn nn i hi
  same := fun i hi => by rw [hget_msk]; exact s.same i hi
  old := s.old
  lt := s.lt
  back := fun i hi ⟨cs, e⟩ => s.back i hi ⟨cs, by rw [← hget_msk h' b]; exact e⟩
theorem Sd.unmask {h h' : HT} {n n' r w : Nat} {k k' : K} {W W' : World} (b : Nat) (s : Sd h n h' n' r w k W k' W') : Sd h n (msk h' b) n' r w k W k' W' where
  ext := s.ext
  dom := s.dom
  rep := ⟨fun i hi cs e => s.rep.rep i hi cs (by rw [← hget_msk h' b]; exact e), fun i j hi hj ⟨c1, e1⟩ ⟨c2, e2⟩ => s.rep.inj i j hi hj ⟨c1, by rw [← hget_msk h' b]; exact e1⟩ ⟨c2, by rw [← hget_msk h' b]; exact e2⟩⟩
  frm := s.frm
  fresh := fun i b' z h1 h2 ⟨cs, e⟩ h4 => by
    rcases s.fresh i b' z h1 h2 ⟨cs, by rw [← hget_msk h' b]; exact e⟩ h4 with h | ⟨j, z', a1, a2, a3, a4, a5⟩
    · exact Or.inl h
    · exact Or.inr ⟨j, z', a1, a2, a3, fun ⟨c, e⟩ => a4 ⟨c, by rw [← hget_msk h' b]; exact e⟩, a5⟩
  own := s.own
  size := s.size
  os := s.os
  tape := s.tape
  output := s.output
theorem Oa.mask {A : K -> World -> Prop} {P : Program} {o : Oper} {fr : FT} {h h' : HT} {n n' r w : Nat} {v : Value} (b : Nat) (e : Oa A P o fr h n ⟨v, h', n', r, w⟩) : Oa A P o fr h n ⟨v, msk h' b, n', r, w⟩ :=
  ⟨e.ss.mask b, fun k W a K' Q hA hop H hn hk => e.ok k W a K' Q hA hop H hn fun u W' k' hd hv => hk u W' k' (hd.unmask b) hv⟩
def ofsK (q i z : Nat) (D : Nat -> Prop) : Prop := bif Nat.beq q 0 then bif Nat.beq z 1 then D i else D (i * z) else D (q + i * z)
theorem ofsK_eq (q i z : Nat) (D : Nat -> Prop) : ofsK q i z D = D (q + i * z) := by
  unfold ofsK
  cases hq : Nat.beq q 0 with
  | false => rfl
  | true =>
    have := Nat.eq_of_beq_eq_true hq
    subst this
    cases hz : Nat.beq z 1 with
    | false => simp
    | true => have := Nat.eq_of_beq_eq_true hz; subst this; simp
def ixoK (P : Program) (t : TypeId) (x i : Value) (D : Value -> Prop) : Option Prop := match x with
  | .slice (some ⟨b, q, _⟩) m es => match i with
    | .int _ j => match P.underlying t with
      | some (.slice e) => match szOf P e with
        | some z => bif Nat.beq z es then some (∃ i : Nat, (i : Int) = j /\ i < m /\ ofsK q i z fun p => D (.pointer (some ⟨b, p, some 1⟩))) else none
        | none => none
      | _ => none
    | _ => none
  | .pointer (some ⟨b, q, none⟩) => match i with
    | .int _ j => match P.underlying t with
      | some (.array m e) => match szOf P e with
        | some z => some (∃ i : Nat, (i : Int) = j /\ i < m /\ ofsK q i z fun p => D (.pointer (some ⟨b, p, some 1⟩)))
        | none => none
      | _ => none
    | _ => none
  | .pointer (some ⟨b, q, some _⟩) => match i with
    | .int _ j => match P.underlying t with
      | some (.array m e) => match szOf P e with
        | some z => some (∃ i : Nat, (i : Int) = j /\ i < m /\ D (.pointer (some ⟨b, q + i * z, some 1⟩)))
        | none => none
      | _ => none
    | _ => none
  | _ => none
def ldoK (P : Program) (h : HT) (n : Nat) (t : TypeId) (x : Value) (C : R5 -> Prop) : Option Prop := match x with
  | .pointer (some ⟨b, q, _⟩) => match hget h b with
    | some cs => match isRow P t with
      | some true => match szOf P t with
        | some z => some (∃ us : List Value, (cs.drop q).take z = us /\ us.length = z /\ (C ⟨.agg us.toArray, h, n, bit b, 0⟩ ∨ ∃ vs : List Value, us = vs.map rel1 /\ C ⟨raw (.agg vs.toArray), h, n, bit b, 0⟩))
        | none => none
      | some false => some (∃ v, cs[q]? = some v /\ C ⟨v, h, n, bit b, 0⟩)
      | none => none
    | none => none
  | _ => none
def stoK (P : Program) (h : HT) (n : Nat) (t : TypeId) (x y : Value) (C : R5 -> Prop) : Option Prop := match x with
  | .pointer (some ⟨b, q, _⟩) => match hget h b with
    | some cs => match szOf P t with
      | some z => bif Nat.beq y.cells.toList.length z && allOne y.cells.toList then some (q + z <= cs.length /\ ∃ cs', cs' = cs.take q ++ y.cells.toList ++ cs.drop (q + z) /\ C ⟨undef, msk (hs12 h b (some cs')) b, n, bit b, bit b⟩) else none
      | none => none
    | none => none
  | _ => none
def isEmp (v : Value) : Bool := match v with
  | .float _ _ => true
  | _ => false
def appK (A : K -> World -> Prop) (P : Program) (ts : List TypeId) (vs : List Value) (h : HT) (n : Nat) (C : R5 -> Prop) : Option Prop := match ts with
  | [t, t'] => match vs with
    | [x, y] => match P.underlying t with
      | some (.slice e) => match szOf P e with
        | some sz => bif apOk P e sz && Nat.blt n 4096 && !isEmp y then match x with
            | .slice none 0 0 => some (∃ m zs rb, Put A P h t' sz y m zs rb /\ 0 < m /\ m <= 1407374883 /\ C ⟨.slice (some ⟨n, 0, none⟩) m sz, msk (hs12 h n (some zs)) n, n + 1, rb, bit n⟩)
            | .slice (some ⟨a, 0, none⟩) len es => match hget h a with
              | some cs => bif Nat.beq es sz then some (cs.length = len * sz /\ ∃ m zs rb, Put A P h t' sz y m zs rb /\ len + m <= 1407374883 /\ ∃ cs', cs' = cs ++ zs /\ C ⟨.slice (some ⟨n, 0, none⟩) (len + m) sz, msk (hs12 (hs12 h a none) n (some cs')) n, n + 1, Nat.lor (bit a) rb, Nat.lor (bit a) (bit n)⟩) else none
              | none => none
            | _ => none
          else none
        | none => none
      | _ => none
    | _ => none
  | _ => none
def cvK (P : Program) (d : TypeId) (x : Value) (D : Value -> Prop) : Option Prop := match x with
  | .int _ a => match P.underlying d with
    | some (.int k) => some (∃ z, k.wrap a = z /\ D (.int k z))
    | _ => none
  | _ => none
def boxK (x : Value) (h : HT) (n : Nat) (C : R5 -> Prop) : Option Prop := match x with
  | .iface 0 y => bif Nat.blt n 4096 then some (∃ us : List Value, y = .agg us.toArray /\ (∀ u ∈ us, u.oneCell' = true) /\ C ⟨.pointer (some ⟨n, 0, none⟩), msk (hs12 h n (some (us.map rel1))) n, n + 1, 0, bit n⟩) else none
  | _ => none
def unK (op : UnOp) (x : Value) (D : Value -> Prop) : Option Prop := match x with
  | .int k a => match op with
    | .neg => some (∃ z, k.wrap (0 - a) = z /\ D (.int k z))
    | .xor => some (∃ z, k.wrap ((BitVec.ofInt k.bits (if k.signed then -1 else k.max) ^^^ BitVec.ofInt k.bits a).toNat : Int) = z /\ D (.int k z))
    | _ => none
  | _ => none
section
variable {P : Program} {o : Oper} {fr : FT} {h : HT} {n : Nat}
theorem boxK_ok {t : TypeId} {y : Operand} {C : R5 -> Prop} {R : Prop} (nn : ∀ i, n <= i -> hget h i = none) (ho : o.op = .box t y) (he : boxK (evo fr y) h n C = some R) (e : R) {A : K -> World -> Prop} : ∃ x, Oa A P o fr h n x /\ C x := by
  unfold boxK at he
  split at he
  · rename_i y' hv
    obtain ⟨hn, he⟩ := bif_some he
    cases he
    obtain ⟨us, hy, _, hC⟩ := e
    refine ⟨_, Oa.mask n (Oo.to ?_), hC⟩
    have hnew : oNew h n (.pointer (some ⟨n, 0, none⟩)) (us.map rel1) 0 0 = some ⟨.pointer (some ⟨n, 0, none⟩), hs12 h n (some (us.map rel1)), n + 1, 0, Nat.lor 0 (bit n)⟩ := by unfold oNew; rw [hn]; rfl
    have key := new_ok (P := P) (o := o) (fr := fr) nn hnew fun k W a hop _ => by
      have h1 := hop y (by simp [ho, Op.operands])
      rw [hv] at h1
      have h2 := h1.raw_inv
      rw [hy] at h2
      refine ⟨us, [], t, .pointer (some ⟨W.heap.size, 0, none⟩), W.alloc (.cells us.toArray t), rels_vx us, ?_, by show W.heap.push _ = _; simp, rfl, ⟨rfl, Nat.le_refl _, Ty.push rfl⟩, rfl, fun k' _ hk' => VX.of0 ⟨trivial, _, _, hk', rfl⟩⟩
      simp [execOp, ho, h2, Instr.box, newVar, newRow, Value.cells]
    have hz : Nat.lor 0 (bit n) = bit n := by show 0 ||| bit n = bit n; simp
    rw [hz] at key
    exact key
  · cases he
theorem unK_ok {op : UnOp} {t : TypeId} {y : Operand} {D : Value -> Prop} {R : Prop} (ho : o.op = .unOp op t y) (he : unK op (evo fr y) D = some R) (e : R) : ∃ v, Oo P o fr h n ⟨v, h, n, 0, 0⟩ /\ D v := by
  unfold unK at he
  split at he
  · rename_i k a hv
    have key : ∀ z : Int, (Op.unary op (.int k a) = pure (.int k z)) -> Oo P o fr h n ⟨.int k z, h, n, 0, 0⟩ := fun z hz => Oo.val rfl fun kk W ac hop => ⟨.int k z, VX.of0 rfl, by
      have h2 := hop y (by simp [ho, Op.operands])
      rw [hv] at h2
      have h3 := h2.int_inv
      simp [execOp, ho, h3, hz]⟩
    split at he
    · cases he; obtain ⟨z, h1, hD⟩ := e; exact ⟨_, key z (by rw [← h1]; rfl), hD⟩
    · cases he; obtain ⟨z, h1, hD⟩ := e; exact ⟨_, key z (by rw [← h1]; rfl), hD⟩
    · cases he
  · cases he
theorem ixoK_ok {t : TypeId} {y ix : Operand} {D : Value -> Prop} {R : Prop} (ho : o.op = .indexAddr t y ix) (he : ixoK P t (evo fr y) (evo fr ix) D = some R) (e : R) : ∃ v, Oo P o fr h n ⟨v, h, n, 0, 0⟩ /\ D v := by
  unfold ixoK at he
  split at he
  · rename_i b q sp m es hv
    split at he
    · rename_i ki j hi
      split at he
      · rename_i e' hu
        split at he
        · rename_i z hz
          obtain ⟨_, he⟩ := bif_some he
          cases he
          obtain ⟨i, h0, h1, hD⟩ := e
          rw [ofsK_eq] at hD
          subst h0
          refine ⟨_, Oo.val rfl fun k W a hop => ?_, hD⟩
          have h2 := hop y (by simp [ho, Op.operands])
          have h2' := hop ix (by simp [ho, Op.operands])
          rw [hv] at h2; rw [hi] at h2'
          obtain ⟨_, b', zz, c, hk, h3, _⟩ := h2.slc_inv
          have h4 := h2'.int_inv
          obtain ⟨inf, hinf, hsz⟩ := szOf_info hz
          refine ⟨.pointer (some ⟨b', q + i * z, none⟩), VX.of0 ⟨trivial, b', zz, hk, rfl⟩, ?_⟩
          simp [execOp, ho, h3, h4, Instr.indexAt, asIntOf, run_underlying hu, sizeOf, typeInfo, hinf, hsz, Addr.add_mid, h1]
        · cases he
      · cases he
    · cases he
  · rename_i b q hv
    split at he
    · rename_i ki j hi
      split at he
      · rename_i m e' hu
        split at he
        · rename_i z hz
          cases he
          obtain ⟨i, h0, h1, hD⟩ := e
          rw [ofsK_eq] at hD
          subst h0
          refine ⟨_, Oo.val rfl fun k W a hop => ?_, hD⟩
          have h2 := hop y (by simp [ho, Op.operands])
          have h2' := hop ix (by simp [ho, Op.operands])
          rw [hv] at h2; rw [hi] at h2'
          obtain ⟨_, b', zz, hk, h3⟩ := h2.ptr_inv
          have h4 := h2'.int_inv
          obtain ⟨inf, hinf, hsz⟩ := szOf_info hz
          refine ⟨.pointer (some ⟨b', q + i * z, none⟩), VX.of0 ⟨trivial, b', zz, hk, rfl⟩, ?_⟩
          simp [execOp, ho, h3, h4, Instr.indexAt, asIntOf, Instr.sureAddr, run_underlying hu, sizeOf, typeInfo, hinf, hsz, Addr.add_mid, h1]
        · cases he
      · cases he
    · cases he
  · rename_i b q sp hv
    split at he
    · rename_i ki j hi
      split at he
      · rename_i m e' hu
        split at he
        · rename_i z hz
          cases he
          obtain ⟨i, h0, h1, hD⟩ := e
          subst h0
          refine ⟨_, Oo.val rfl fun k W a hop => ?_, hD⟩
          have h2 := hop y (by simp [ho, Op.operands])
          have h2' := hop ix (by simp [ho, Op.operands])
          rw [hv] at h2; rw [hi] at h2'
          obtain ⟨_, b', zz, hk, h3⟩ := h2.ptr_inv
          have h4 := h2'.int_inv
          obtain ⟨inf, hinf, hsz⟩ := szOf_info hz
          refine ⟨.pointer (some ⟨b', q + i * z, none⟩), VX.of0 ⟨trivial, b', zz, hk, rfl⟩, ?_⟩
          simp [execOp, ho, h3, h4, Instr.indexAt, asIntOf, Instr.sureAddr, run_underlying hu, sizeOf, typeInfo, hinf, hsz, Addr.add_mid, h1]
        · cases he
      · cases he
    · cases he
  · cases he
theorem ldoK_ok {t : TypeId} {y : Operand} {C : R5 -> Prop} {R : Prop} (ho : o.op = .load t y) (he : ldoK P h n t (evo fr y) C = some R) (e : R) : ∃ x, Oo P o fr h n x /\ C x := by
  unfold ldoK at he
  split at he
  · rename_i b q s hv
    split at he
    · rename_i cs hcs
      have key : ∀ v, (∀ (k : K) (W : World) (b' : Nat) (us sp : List Value) (ty : TypeId), W.heap[b']? = some (.cells (us ++ sp).toArray ty (0, 0)) -> LR (VX k) cs us -> ∃ u, VX k v u /\ (loadVar t ⟨b', q, none⟩).run P W = .ok u W) -> Oo P o fr h n ⟨v, h, n, bit b, 0⟩ := by
        intro v hl
        refine ⟨Ss.read _ _ _, fun k W a K' Q hop H _ hk => ?_⟩
        have h6 := hop y (by simp [ho, Op.operands])
        rw [hv] at h6
        obtain ⟨_, b', z, hkb, h7⟩ := h6.ptr_inv
        obtain ⟨b2, us, sp, ty, e1, e2, e3⟩ := (H.rep b (tb_bit.2 rfl) cs hcs).cel hkb
        have hkb' : k b = some (b', z + 1) := hkb
        rw [hkb'] at e1; cases e1
        obtain ⟨u, h8, h9⟩ := hl k W b' us sp ty e2 e3
        unfold Oper.wp
        have : (execOp a.eval o).run P W = .ok (.value u) W := by simp [execOp, ho, h7, Instr.loadAt, Instr.sureAddr, h9]
        rw [this, Oper.upon_value]
        exact hk u W k (Sd.read H) h8
      split at he
      · rename_i hrow
        obtain ⟨d, hu, hd⟩ := isRow_some hrow
        split at he
        · rename_i z hz
          cases he
          obtain ⟨vs, h1, h2, hC⟩ := e
          have ld : ∀ (k : K) (W : World) (b' : Nat) (us sp : List Value) (ty : TypeId), W.heap[b']? = some (.cells (us ++ sp).toArray ty (0, 0)) -> LR (VX k) cs us -> ∃ us', LR (VX k) vs us' /\ (loadVar t ⟨b', q, none⟩).run P W = .ok (.agg us'.toArray) W := by
            intro k W b' us sp ty e2 e3
            have h3 : LR (VX k) vs ((us.drop q).take z) := by rw [← h1]; exact (e3.drop q).take z
            refine ⟨_, h3, run_loadVar_mid W b' q t _ d (fun j v hv => ?_) hu hd ?_⟩
            · rw [List.getElem?_take] at hv
              split at hv
              · rw [List.getElem?_drop] at hv
                rw [cell_of e2, List.getElem?_append_left (List.getElem?_eq_some_iff.1 hv).1]; exact hv
              · cases hv
            · obtain ⟨i, hi, hs⟩ := szOf_info hz
              rw [hi]
              simp only [Option.map_some, Option.some.injEq]
              rw [hs, h3.len, h2]
          rcases hC with hC | ⟨ws, hws, hC⟩
          · refine ⟨_, key _ fun k W b' us sp ty e2 e3 => ?_, hC⟩
            obtain ⟨us', h4, h5⟩ := ld k W b' us sp ty e2 e3
            exact ⟨_, VX.agg h4, h5⟩
          · refine ⟨_, key _ fun k W b' us sp ty e2 e3 => ?_, hC⟩
            obtain ⟨us', h4, h5⟩ := ld k W b' us sp ty e2 e3
            rw [hws] at h4
            have := LR.map (p := pur1) (d := den1) (fun _ _ h => pur1_eq h) h4 (by simp [pur_rel1])
            rw [List.map_map, show den1 ∘ rel1 = id from funext den_rel1, List.map_id] at this
            subst this
            exact ⟨_, VX.raw, h5⟩
        · cases he
      · rename_i hrow
        obtain ⟨d, hu, hd⟩ := isRow_some hrow
        cases he
        obtain ⟨v, h1, hC⟩ := e
        refine ⟨_, key _ fun k W b' us sp ty e2 e3 => ?_, hC⟩
        obtain ⟨u, h4, h5⟩ := e3.get h1
        refine ⟨u, h5, ?_⟩
        have hagg : (isAgg t).run P W = .ok false W := by
          unfold isAgg
          rw [Sem.run_bind, run_underlying hu W]
          cases d <;> simp_all
        have hc : W.cell? ⟨b', q, none⟩ = some u := by rw [cell_of e2, List.getElem?_append_left (List.getElem?_eq_some_iff.1 h4).1]; exact h4
        simp [loadVar, Sem.run_bind, hagg, hc]
      · cases he
    · cases he
  · cases he
theorem stoK_ok {t : TypeId} {y z : Operand} {C : R5 -> Prop} {R : Prop} (ho : o.op = .store t y z) (nn : ∀ i, n <= i -> hget h i = none) (he : stoK P h n t (evo fr y) (evo fr z) C = some R) (e : R) {A : K -> World -> Prop} : ∃ x, Oa A P o fr h n x /\ C x := by
  unfold stoK at he
  split at he
  · rename_i b q s hv
    split at he
    · rename_i cs hcs
      split at he
      · rename_i m hm
        obtain ⟨hc, he⟩ := bif_some he
        simp only [Bool.and_eq_true, Nat.beq_eq] at hc
        cases he
        obtain ⟨h2, cs', h1, hC⟩ := e
        refine ⟨_, Oa.mask b (Oo.to ?_), hC⟩
        rw [← hc.1] at h2 h1
        have hb := hget_lt hcs
        refine ⟨Ss.write nn hb hcs, fun k W a K' Q hop H _ hk => ?_⟩
        have h6 := hop y (by simp [ho, Op.operands])
        have h6' := hop z (by simp [ho, Op.operands])
        rw [hv] at h6
        obtain ⟨_, b', zz, hkb, h7⟩ := h6.ptr_inv
        obtain ⟨b2, us, sp, ty, e1, e2, e3⟩ := (H.rep b (tb_bit.2 rfl) cs hcs).cel hkb
        have hbb : b2 = b' /\ 2 * (us.length + sp.length) + bt ty = zz := by
          have hkb' : k b = some (b', zz + 1) := hkb
          rw [hkb'] at e1; cases e1; exact ⟨rfl, rfl⟩
        obtain ⟨rfl, hzz⟩ := hbb
        obtain ⟨r1, r2⟩ := cells_rel h6' hc.2
        have hlen := r1.len
        have hus := e3.len
        have hfit : q + (a.eval z).cells.toList.length <= us.length := by rw [hlen, hus]; exact h2
        have hst := run_storeCells_cells (P := P) b2 q (a.eval z).cells.toList 0 W (fun j hj => by
            rw [cell_of e2, List.getElem?_append_left (by omega), List.getElem?_eq_getElem (by omega)]; rfl) (fun j hj => fz_of e2 _) r2
        simp only [Nat.add_zero] at hst
        obtain ⟨i, hi, hs⟩ := szOf_info hm
        have hsz : (a.eval z).cells.size = i.size := by rw [hs, ← hc.1, ← hlen]; simp
        have hrun : (execOp a.eval o).run P W = .ok .skip (W.setCells b2 q (a.eval z).cells.toList) := by
          simp [execOp, ho, h7, Instr.storeAt, Instr.sureAddr, storeVar, sizeOf, typeInfo, hi, hsz, hst]
        unfold Oper.wp
        rw [hrun, Oper.upon_skip]
        have hset := heap_setCells (b := b2) (ty := ty) (a.eval z).cells.toList q W (us ++ sp) e2 (by simp; omega)
        have hshape : (us ++ sp).take q ++ (a.eval z).cells.toList ++ (us ++ sp).drop (q + (a.eval z).cells.toList.length) = (us.take q ++ (a.eval z).cells.toList ++ us.drop (q + (a.eval z).cells.toList.length)) ++ sp := by
          rw [List.take_append_of_le_length (by omega), List.drop_append_of_le_length hfit]
          simp
        rw [hshape] at hset
        refine hk undef _ k (Sd.write hb hcs hkb hset ?_ ?_ (fun c hc _ => heap_setCells_other hc _ _) ?_ (rest_setCells _ _ _ _).1 (rest_setCells _ _ _ _).2.1 (rest_setCells _ _ _ _).2.2) undef_vx
        · rw [← hzz]
          simp
          omega
        · rw [h1, ← hlen]
          exact ((e3.take q).app r1).app (e3.drop _)
        · rw [size_setCells]; exact Nat.le_refl _
      · cases he
    · cases he
  · cases he
theorem appK_ok {A : K -> World -> Prop} {ts : Array TypeId} {xs : Array Operand} {C : R5 -> Prop} {R : Prop} (nn : ∀ i, n <= i -> hget h i = none) (ho : o.op = .call { callee := .builtin .append, args := xs, argTypes := ts }) (he : appK A P ts.toList (evl fr xs.toList) h n C = some R) (e : R) : ∃ x, Oa A P o fr h n x /\ C x := by
  unfold appK at he
  split at he
  · rename_i t t' hts
    have hta : ts = #[t, t'] := by apply Array.ext'; rw [hts]
    subst hta
    split at he
    · rename_i x y hvs
      split at he
      · rename_i e' hu
        split at he
        · rename_i sz hsz
          obtain ⟨hc, he⟩ := bif_some he
          simp only [Bool.and_eq_true, Nat.blt_eq] at hc
          obtain ⟨hc, _⟩ := hc
          split at he
          · cases he
            obtain ⟨m, zs, rb, h1, h2, h3, hC⟩ := e
            exact ⟨_, (r_app0 hc.2 nn ho hvs hu hsz hc.1 h1 h2 h3).mask _, hC⟩
          · split at he
            · rename_i cs hcs
              obtain ⟨hes, he⟩ := bif_some he
              cases he
              obtain ⟨hl, m, zs, rb, h1, h3, cs', h4, hC⟩ := e
              subst h4
              have hes := Nat.eq_of_beq_eq_true hes
              subst hes
              exact ⟨_, (r_app hc.2 nn ho hvs hu hsz hc.1 hcs hl h1 h3).mask _, hC⟩
            · cases he
          · cases he
        · cases he
      · cases he
    · cases he
  · cases he
theorem cvK_ok {s d : TypeId} {y : Operand} {D : Value -> Prop} {R : Prop} (ho : o.op = .convert s d y) (hs : (P.underlying s).isSome = true) (he : cvK P d (evo fr y) D = some R) (e : R) : ∃ v, Oo P o fr h n ⟨v, h, n, 0, 0⟩ /\ D v := by
  unfold cvK at he
  split at he
  · rename_i k0 a0 hv
    split at he
    · rename_i k hu
      cases he
      obtain ⟨z, h1, hD⟩ := e
      refine ⟨.int k z, Oo.val rfl fun kk W a hop => ⟨.int k z, VX.of0 rfl, ?_⟩, hD⟩
      have h2 := hop y (by simp [ho, Op.operands])
      rw [hv] at h2
      have h3 := h2.int_inv
      obtain ⟨ds, hds⟩ := Option.isSome_iff_exists.1 hs
      simp [execOp, ho, h3, convert, run_underlying hds, run_underlying hu, Conv.intToInt, h1]
    · cases he
  · cases he
end
def oFld (P : Program) (s : TypeId) (x : Operand) (f : Nat) (fr : FT) (h : HT) (n : Nat) : Option R5 := match evo fr x with
  | .iface 0 (.pointer (some ⟨b, o, none⟩)) => (fOff P s f).bind fun d => val h n (raw (.pointer (some ⟨b, o + d, none⟩)))
  | .pointer (some ⟨b, o, some c⟩) => (fOff P s f).bind fun d => val h n (.pointer (some ⟨b, o + d, some c⟩))
  | _ => oField P s x f fr h n
def oNilC (x : Operand) (fr : FT) (h : HT) (n : Nat) : Option R5 := match evo fr x with
  | .iface 0 (.pointer (some ⟨b, o, none⟩)) => val h n (raw (.pointer (some ⟨b, o, none⟩)))
  | _ => oNil x fr h n
def oNot (op : UnOp) (x : Operand) (fr : FT) (h : HT) (n : Nat) : Option R5 := match op with
  | .not => match evo fr x with
    | .complex _ re _ => val h n (bif Nat.beq re 1 then litF else litT)
    | .bool p => val h n (.bool (!p))
    | _ => none
  | _ => none
def op1 (P : Program) (o : Op) (fr : FT) (h : HT) (n : Nat) : Option R5 := match o with
  | .move x => oMove x fr h n
  | .assign x => oMove x fr h n
  | .extract x i => oExt x i fr h n
  | .nilCheck x => oNilC x fr h n
  | .fieldAddr s x f => oFld P s x f fr h n
  | .field s x f => oFieldV P s x f fr h n
  | .build t parts => oBuild P t parts fr h n
  | .buildSlice t len parts => oBuildS P t len parts fr h n
  | .load t x => oLoad P t x fr h n
  | .store t x y => oStore P t x y fr h n
  | .alloc t => oAlloc P t fr h n
  | .box _ x => oBox x fr h n
  | .makeFunc fn first captured => oFunc fn first captured fr h n
  | .unOp op _ x => oNot op x fr h n
  | _ => none
section
variable {P : Program} {o : Oper} {fr : FT} {h : HT} {n : Nat} {x : R5}
theorem s_fld {t : TypeId} {y : Operand} {f : Nat} (ho : o.op = .fieldAddr t y f) (e : oFld P t y f fr h n = some x) : Oo P o fr h n x := by
  unfold oFld at e
  split at e
  · rename_i b q hv
    obtain ⟨d, hd, e⟩ := bind_some e
    refine Oo.val e fun k W a hop => ⟨.pointer (some ⟨b, q + d, none⟩), VX.raw, ?_⟩
    have h2 := hop y (by simp [ho, Op.operands])
    rw [hv] at h2
    have h3 := h2.raw_inv
    unfold fOff at hd
    split at hd
    · rename_i fs hu
      split at hd
      · rename_i fd hf
        split at hd
        · rename_i m hs
          cases hd
          obtain ⟨i, hi, hsz⟩ := szOf_info hs
          have hf' : fs[f]? = some fd := by simpa using hf
          have hne : ¬ i.size = 0 := by omega
          simp [execOp, ho, h3, Instr.fieldAt, run_underlying hu, hf', Instr.sureAddr, fieldPlace, sizeOf, typeInfo, hi, hne, Addr.add_mid]
        · cases hd
      · cases hd
    · cases hd
  · rename_i b q c hv
    obtain ⟨d, hd, e⟩ := bind_some e
    refine Oo.val e fun k W a hop => ?_
    have h2 := hop y (by simp [ho, Op.operands])
    rw [hv] at h2
    obtain ⟨hts, b', z, hk, h3⟩ := h2.ptr_inv
    refine ⟨.pointer (some ⟨b', q + d, none⟩), VX.of0 ⟨hts, b', z, hk, rfl⟩, ?_⟩
    unfold fOff at hd
    split at hd
    · rename_i fs hu
      split at hd
      · rename_i fd hf
        split at hd
        · rename_i m hs
          cases hd
          obtain ⟨i, hi, hsz⟩ := szOf_info hs
          have hf' : fs[f]? = some fd := by simpa using hf
          have hne : ¬ i.size = 0 := by omega
          simp [execOp, ho, h3, Instr.fieldAt, run_underlying hu, hf', Instr.sureAddr, fieldPlace, sizeOf, typeInfo, hi, hne, Addr.add_mid]
        · cases hd
      · cases hd
    · cases hd
  · exact s_field ho e
theorem s_nilC {y : Operand} (ho : o.op = .nilCheck y) (e : oNilC y fr h n = some x) : Oo P o fr h n x := by
  unfold oNilC at e
  split at e
  · rename_i b q hv
    refine Oo.val e fun k W a hop => ⟨.pointer (some ⟨b, q, none⟩), VX.raw, ?_⟩
    have h2 := hop y (by simp [ho, Op.operands])
    rw [hv] at h2
    have h3 := h2.raw_inv
    simp [execOp, ho, h3]
  · exact s_nil ho e
theorem s_not {op : UnOp} {t : TypeId} {y : Operand} (ho : o.op = .unOp op t y) (e : oNot op y fr h n = some x) : Oo P o fr h n x := by
  unfold oNot at e
  split at e
  · split at e
    · rename_i kk re c hv
      refine Oo.val e fun k W a hop => ⟨.bool (!Nat.beq re 1), by cases Nat.beq re 1 <;> first | exact VX.litT | exact VX.litF, ?_⟩
      have h2 := hop y (by simp [ho, Op.operands])
      rw [hv] at h2
      have h3 := h2.lit_inv
      simp [execOp, ho, h3, Op.unary]
    · rename_i p hv
      refine Oo.val e fun k W a hop => ⟨.bool (!p), VX.of0 rfl, ?_⟩
      have h2 := hop y (by simp [ho, Op.operands])
      rw [hv] at h2
      have h3 := h2.bool_inv
      simp [execOp, ho, h3, Op.unary]
    · cases e
  · cases e
theorem s_op (nn : ∀ i, n <= i -> hget h i = none) (e : op1 P o.op fr h n = some x) : Oo P o fr h n x := by
  cases hop : o.op with
  | move y => rw [hop] at e; exact s_move (Or.inl hop) e
  | assign y => rw [hop] at e; exact s_move (Or.inr hop) e
  | extract y i => rw [hop] at e; exact s_ext hop e
  | nilCheck y => rw [hop] at e; exact s_nilC hop e
  | fieldAddr t y f => rw [hop] at e; exact s_fld hop e
  | field s y f => rw [hop] at e; exact s_fieldV hop e
  | build t ps => rw [hop] at e; exact s_build hop e
  | buildSlice t l ps => rw [hop] at e; exact s_buildS hop nn e
  | load t y => rw [hop] at e; exact s_load hop e
  | store t y z => rw [hop] at e; exact s_store hop nn e
  | alloc t => rw [hop] at e; exact s_alloc hop nn e
  | box t y => rw [hop] at e; exact s_box hop nn e
  | makeFunc f a c => rw [hop] at e; exact s_func hop e
  | unOp p t y => rw [hop] at e; exact s_not hop e
  | _ => rw [hop] at e; cases e
end
def fV1 (v : Value) (C : Value -> Prop) : Prop := match v with
  | .bool b => C (.bool b)
  | .int k a => C (.int k a)
  | .string s => C (.string s)
  | .pointer a => match a with
    | none => C (.pointer none)
    | some a => match a with
      | ⟨b, q, s⟩ => C (.pointer (some ⟨b, q, s⟩))
  | .slice a m c => C (.slice a m c)
  | .complex k a b => C (.complex k a b)
  | .iface k x => C (.iface k x)
  | .map r => C (.map r)
  | .func f a b => C (.func f a b)
  | v => C v
def fL (g : Value -> (Value -> Prop) -> Prop) : List Value -> (List Value -> Prop) -> Prop
  | [], C => C []
  | v :: l, C => g v fun v => fL g l fun l => C (v :: l)
def fV2 (v : Value) (C : Value -> Prop) : Prop := match v with
  | .agg cs => fL fV1 cs.toList fun l => C (.agg ⟨l⟩)
  | v => fV1 v C
def fV (v : Value) (C : Value -> Prop) : Prop := match v with
  | .tuple cs => fL fV2 cs.toList fun l => C (.tuple ⟨l⟩)
  | v => fV2 v C
def fH (h : HT) (C : HT -> Prop) : Prop := match h with
  | [] => C []
  | x :: l => match x with
    | ⟨i, c⟩ => match c with
      | none => C ((i, none) :: l)
      | some cs => fL fV1 cs fun cs => C ((i, some cs) :: l)
def fR (x : R5) (C : R5 -> Prop) : Prop := match x with
  | ⟨v, h, n, r, w⟩ => fV v fun v => fH h fun h => C ⟨v, h, n, r, w⟩
def putK (f : FT) (d : Option Tmp) (v : Value) (C : FT -> Prop) : Prop := match f with
  | ⟨m, l⟩ => match d with
    | none => C ⟨m, l⟩
    | some t => bif Nat.blt t m then C ⟨m, (t, v) :: l⟩ else C ⟨m, l⟩
theorem fV1_eq (v : Value) (C : Value -> Prop) : fV1 v C = C v := by
  cases v with
  | pointer a => cases a <;> rfl
  | _ => rfl
theorem fL_eq {g : Value -> (Value -> Prop) -> Prop} (hg : ∀ v C, g v C = C v) : ∀ (l : List Value) (C : List Value -> Prop), fL g l C = C l
  | [], _ => rfl
  | v :: l, C => by rw [fL, hg, fL_eq hg l]
theorem fV2_eq (v : Value) (C : Value -> Prop) : fV2 v C = C v := by
  cases v with
  | agg cs => rw [fV2, fL_eq fV1_eq]
  | _ => simp only [fV2]; exact fV1_eq _ C
theorem fV_eq (v : Value) (C : Value -> Prop) : fV v C = C v := by
  cases v with
  | tuple cs => rw [fV, fL_eq fV2_eq]
  | _ => simp only [fV]; exact fV2_eq _ C
theorem fH_eq (h : HT) (C : HT -> Prop) : fH h C = C h := by
  cases h with
  | nil => rfl
  | cons x l =>
    obtain ⟨i, c⟩ := x
    cases c with
    | none => rfl
    | some cs => rw [fH, fL_eq fV1_eq]
theorem fR_eq (x : R5) (C : R5 -> Prop) : fR x C = C x := by rw [fR, fV_eq, fH_eq]
theorem putK_eq (f : FT) (d : Option Tmp) (v : Value) (C : FT -> Prop) : putK f d v C = C (put f d v) := by
  obtain ⟨m, l⟩ := f
  cases d with
  | none => rfl
  | some t =>
    simp only [putK, put, fput]
    cases Nat.blt t m <;> rfl
def anyK (w0 : B0) (X : World) (P : Program) (o : Oper) (f : FT) (h : HT) (n : Nat) (C : R5 -> Prop) : Prop := ∃ x, ((∀ i, n <= i -> hget h i = none) -> Oa (Am w0 X) P o f h n x) /\ C x
def orK (x : Option Prop) (y : Prop) : Prop := match x with
  | some R => R
  | none => y
def cmpK (w0 : B0) (X : World) (P : Program) (o : Oper) (op : BinOp) (f : FT) (h : HT) (n : Nat) (C : R5 -> Prop) : Prop := bif isCmp op then ∃ p : Bool, Oa (Am w0 X) P o f h n ⟨.bool p, h, n, 0, 0⟩ /\ (p = true -> C ⟨litT, h, n, 0, 0⟩) /\ (p = false -> C ⟨litF, h, n, 0, 0⟩) else anyK w0 X P o f h n C
def keq (a b : IntKind) : Bool := decide (a = b)
def binK (w0 : B0) (X : World) (P : Program) (o : Oper) (op : BinOp) (p q : Value) (f : FT) (h : HT) (n : Nat) (C : R5 -> Prop) : Prop := match p with
  | .int k a => match q with
    | .int k' b => bif isSh op then shK op k a b fun v => C ⟨v, h, n, 0, 0⟩ else bif keq k k' then intK op k a b fun v => C ⟨v, h, n, 0, 0⟩ else False
    | _ => False
  | .string a => match q with
    | .string b => strK P op a b fun v => C ⟨v, h, n, 0, 0⟩
    | _ => False
  | _ => cmpK w0 X P o op f h n C
def litO (p : Value) (h : HT) (x : Option R5) : Option R5 := match p with
  | .pointer (some ⟨b, _, none⟩) => bif hsym h b then none else x
  | _ => none
theorem litO_some {p : Value} {h : HT} {x : Option R5} {y : R5} (e : litO p h x = some y) : x = some y := by
  unfold litO at e
  split at e
  · rename_i b _
    cases hb : hsym h b <;> rw [hb] at e
    · exact e
    · cases e
  · cases e
def orB (p : Value) (x : Option R5) : Option R5 := match p with
  | .iface 0 (.agg _) => none
  | _ => x
theorem orB_some {p : Value} {x : Option R5} {y : R5} (e : orB p x = some y) : x = some y := by
  unfold orB at e
  split at e
  · cases e
  · exact e
def stepK (w0 : B0) (X : World) (P : Program) (o : Oper) (f : FT) (h : HT) (n : Nat) (B C : R5 -> Prop) : Prop := match o.op with
  | .pick c y z => match evo f c with
    | .complex _ re _ => B ⟨evo f (bif Nat.beq re 1 then y else z), h, n, 0, 0⟩
    | .bool p => (p = true -> C ⟨evo f y, h, n, 0, 0⟩) /\ (p = false -> C ⟨evo f z, h, n, 0, 0⟩)
    | _ => False
  | .binOp op _ y z _ => binK w0 X P o op (evo f y) (evo f z) f h n C
  | .indexAddr t x i => match i with
    | .const _ => match oIndA P t x i f h n with
      | some x => fR x B
      | none => orK (ixK P t (evo f x) (evo f i) fun v => C ⟨v, h, n, 0, 0⟩) (anyK w0 X P o f h n C)
    | _ => orK (ixK P t (evo f x) (evo f i) fun v => C ⟨v, h, n, 0, 0⟩) (orK (ixoK P t (evo f x) (evo f i) fun v => C ⟨v, h, n, 0, 0⟩) (anyK w0 X P o f h n C))
  | .index t x i => orK (sixK P t (evo f x) (evo f i) fun v => C ⟨v, h, n, 0, 0⟩) (anyK w0 X P o f h n C)
  | .slice t x l hi m => match m with
    | none => orK (slcK P t (evo f x) (l.map (evo f)) (hi.map (evo f)) fun v => C ⟨v, h, n, 0, 0⟩) (anyK w0 X P o f h n C)
    | some _ => anyK w0 X P o f h n C
  | .load t x => match litO (evo f x) h (oLoad P t x f h n) with
    | some x => fR x B
    | none => orK (ldK P X t (evo f x) fun v => fV v fun v => C ⟨v, h, n, 0, 0⟩) (orK (ldoK P h n t (evo f x) C) (anyK w0 X P o f h n C))
  | .store t x y => match litO (evo f x) h (oStore P t x y f h n) with
    | some x => fR x B
    | none => orK (stoK P h n t (evo f x) (evo f y) C) (anyK w0 X P o f h n C)
  | .box _ x => match orB (evo f x) (oBox x f h n) with
    | some x => fR x B
    | none => orK (boxK (evo f x) h n C) (anyK w0 X P o f h n C)
  | .unOp op _ x => match oNot op x f h n with
    | some x => B x
    | none => orK (unK op (evo f x) fun v => C ⟨v, h, n, 0, 0⟩) (anyK w0 X P o f h n C)
  | .convert s d x => bif (P.underlying s).isSome then orK (cvK P d (evo f x) fun v => C ⟨v, h, n, 0, 0⟩) (anyK w0 X P o f h n C) else False
  | .call c => match c.callee with
    | .builtin b => match b with
      | .len => orK (lenK P c.argTypes.toList (evl f c.args.toList) fun v => C ⟨v, h, n, 0, 0⟩) (anyK w0 X P o f h n C)
      | .append => orK (appK (Am w0 X) P c.argTypes.toList (evl f c.args.toList) h n C) (anyK w0 X P o f h n C)
      | _ => anyK w0 X P o f h n C
    | _ => anyK w0 X P o f h n C
  | op => match op1 P op f h n with
    | some x => fR x B
    | none => anyK w0 X P o f h n C
theorem Oa.lit {A : K -> World -> Prop} {P : Program} {o : Oper} {f : FT} {h h' : HT} {n n' r w : Nat} {p : Bool} (e : Oa A P o f h n ⟨.bool p, h', n', r, w⟩) : Oa A P o f h n ⟨bif p then litT else litF, h', n', r, w⟩ :=
  ⟨e.ss, fun k W a K' Q hA hop H hn hk => e.ok k W a K' Q hA hop H hn fun u W' k' hd hv => hk u W' k' hd (by
    rw [show u = .bool p from hv.bool_inv]; cases p <;> first | exact VX.litT | exact VX.litF)⟩
theorem orK_ok {x : Option Prop} {y T : Prop} (h1 : ∀ R, x = some R -> R -> T) (h2 : y -> T) (e : orK x y) : T := by
  unfold orK at e
  split at e
  · exact h1 _ rfl e
  · exact h2 e
theorem stepK_ok {w0 : B0} {X : World} {P : Program} {o : Oper} {f : FT} {h : HT} {n : Nat} {B C : R5 -> Prop} (nn : ∀ i, n <= i -> hget h i = none) (e : stepK w0 X P o f h n B C) : ∃ x, Oa (Am w0 X) P o f h n x /\ (B x ∨ C x) := by
  have anyL : anyK w0 X P o f h n C -> ∃ x, Oa (Am w0 X) P o f h n x /\ (B x ∨ C x) := fun ⟨x, h1, h2⟩ => ⟨x, h1 nn, Or.inr h2⟩
  have cr : (∃ x, Oa (Am w0 X) P o f h n x /\ C x) -> ∃ x, Oa (Am w0 X) P o f h n x /\ (B x ∨ C x) := fun ⟨x, h1, h2⟩ => ⟨x, h1, Or.inr h2⟩
  have lift : (∃ v, Oo P o f h n ⟨v, h, n, 0, 0⟩ /\ C ⟨v, h, n, 0, 0⟩) -> ∃ x, Oa (Am w0 X) P o f h n x /\ (B x ∨ C x) := fun ⟨v, h1, h2⟩ => ⟨_, h1.to, Or.inr h2⟩
  unfold stepK at e
  split at e
  · rename_i c y z ho
    split at e
    · rename_i kk re im hv
      exact ⟨_, (s_pick ho (Nat.beq re 1) (fun k u hu => by rw [hv] at hu; exact hu.lit_inv)).to, Or.inl e⟩
    · rename_i p hv
      have hh : ∀ k u, VX k (evo f c) u -> u = .bool p := fun k u hu => by rw [hv] at hu; exact hu.bool_inv
      cases p with
      | true => exact ⟨_, (s_pick ho true hh).to, Or.inr (e.1 rfl)⟩
      | false => exact ⟨_, (s_pick ho false hh).to, Or.inr (e.2 rfl)⟩
    · exact e.elim
  · rename_i op t y z u ho
    unfold binK at e
    split at e
    · rename_i k a hy
      split at e
      · rename_i k' b hz
        cases hs : isSh op with
        | true => rw [hs] at e; exact lift (shK_ok ho hy hz e)
        | false =>
          rw [hs] at e
          cases hk : keq k k' with
          | true =>
            rw [hk] at e
            have : k = k' := of_decide_eq_true hk
            subst this
            exact lift (intK_ok ho hy hz e)
          | false => rw [hk] at e; exact e.elim
      · exact e.elim
    · rename_i a hy
      split at e
      · rename_i b hz; exact lift (strK_ok ho hy hz e)
      · exact e.elim
    · unfold cmpK at e
      cases hc : isCmp op with
      | true =>
        rw [hc] at e
        obtain ⟨p, h1, h2, h3⟩ := e
        cases p with
        | true => exact ⟨_, h1.lit, Or.inr (h2 rfl)⟩
        | false => exact ⟨_, h1.lit, Or.inr (h3 rfl)⟩
      | false => rw [hc] at e; exact anyL e
  · rename_i t x i ho
    split at e
    · split at e
      · rename_i x hx
        rw [fR_eq] at e
        exact ⟨x, (s_indA ho hx).to, Or.inl e⟩
      · exact orK_ok (fun R hR r => lift (ixK_ok ho hR r)) anyL e
    · exact orK_ok (fun R hR r => lift (ixK_ok ho hR r)) (orK_ok (fun R hR r => lift (ixoK_ok ho hR r)) anyL) e
  · rename_i t x i ho
    exact orK_ok (fun R hR r => lift (sixK_ok ho hR r)) anyL e
  · rename_i t x l hi m ho
    split at e
    · exact orK_ok (fun R hR r => lift (slcK_ok ho hR r)) anyL e
    · exact anyL e
  · rename_i t x ho
    split at e
    · rename_i x hx
      rw [fR_eq] at e
      exact ⟨x, (s_load ho (litO_some hx)).to, Or.inl e⟩
    · refine orK_ok (fun R hR r => ?_) (orK_ok (fun R hR r => ?_) anyL) e
      · obtain ⟨v, h1, h2⟩ := ldK_ok ho hR r
        rw [fV_eq] at h2
        exact ⟨_, h1, Or.inr h2⟩
      · obtain ⟨x, h1, h2⟩ := ldoK_ok ho hR r
        exact ⟨x, h1.to, Or.inr h2⟩
  · rename_i t x y ho
    split at e
    · rename_i x hx
      rw [fR_eq] at e
      exact ⟨x, (s_store ho nn (litO_some hx)).to, Or.inl e⟩
    · refine orK_ok (fun R hR r => ?_) anyL e
      exact cr (stoK_ok ho nn hR r)
  · rename_i t x ho
    split at e
    · rename_i x hx
      rw [fR_eq] at e
      exact ⟨x, (s_box ho nn (orB_some hx)).to, Or.inl e⟩
    · exact orK_ok (fun R hR r => cr (boxK_ok nn ho hR r)) anyL e
  · rename_i op t x ho
    split at e
    · rename_i x hx; exact ⟨x, (s_not ho hx).to, Or.inl e⟩
    · exact orK_ok (fun R hR r => lift (unK_ok ho hR r)) anyL e
  · rename_i s d x ho
    cases hs : (P.underlying s).isSome with
    | false => rw [hs] at e; exact e.elim
    | true => rw [hs] at e; exact orK_ok (fun R hR r => lift (cvK_ok ho hs hR r)) anyL e
  · rename_i c ho
    obtain ⟨cal, xs, ts⟩ := c
    simp only at e
    split at e
    · split at e
      · exact orK_ok (fun R hR r => lift (lenK_ok ho hR r)) anyL e
      · exact orK_ok (fun R hR r => cr (appK_ok nn ho hR r)) anyL e
      · exact anyL e
    · exact anyL e
  · split at e
    · rename_i x hx
      rw [fR_eq] at e
      exact ⟨x, (s_op nn hx).to, Or.inl e⟩
    · exact anyL e
def wantK (fr : FT) (ops : Array Oper) (g : Option (Nat × Bool)) (B C : Bool -> Prop) : Prop := match g with
  | none => B true
  | some (j, w) => match (ops[j]?).bind (·.dst) with
    | some t => match fget fr t with
      | .complex _ re _ => B (Nat.beq re 1 == w)
      | .bool c => (c = true -> C (true == w)) /\ (c = false -> C (false == w))
      | .tuple _ => B false
      | _ => False
    | none => False
theorem wantK_ok {fr : FT} {ops : Array Oper} {g : Option (Nat × Bool)} {B C : Bool -> Prop} (e : wantK fr ops g B C) : ∃ b, wantP fr ops g b /\ (B b ∨ C b) := by
  unfold wantK at e
  unfold wantP
  split at e
  · exact ⟨true, rfl, Or.inl e⟩
  · split at e
    · rename_i t ht
      simp only [ht]
      split at e
      · rename_i hv; simp only [hv]; exact ⟨_, rfl, Or.inl e⟩
      · rename_i c hv; simp only [hv]
        cases c with
        | true => exact ⟨_, rfl, Or.inr (e.1 rfl)⟩
        | false => exact ⟨_, rfl, Or.inr (e.2 rfl)⟩
      · rename_i hv; simp only [hv]; exact ⟨_, rfl, Or.inl e⟩
      · exact e.elim
    · exact e.elim
structure It where
  c : Code
  b : Option Nat
structure Cf where
  ops : Array Oper
  rest : List Oper
  draw : Bool
  s : RL
  X : World
  stk : List It
def co (c : Code) : It := ⟨c, none⟩
def bl (i : Nat) : It := ⟨.skip, some i⟩
def cf (s : St) (l : List It) : Cf := match s with
  | ⟨f, h, n, X⟩ => ⟨#[], [], false, ⟨f, h, n, 0, 0, []⟩, X, l⟩
def hasL : Code -> Bool
  | .loop _ => true
  | .scope _ => true
  | .rangeFunc _ _ _ _ => true
  | .seq a b => hasL a || hasL b
  | .block _ c => hasL c
  | .cond _ x y => hasL x || hasL y
  | _ => false
def exitK (P : Cf -> Prop) (C : Exit -> St -> Prop) (e : Exit) (s : St) : List It -> Prop
  | [] => C e s
  | i :: l => match i.b with
    | none => exitK P C e s l
    | some id => match e with
      | .exit j => bif Nat.beq j id then P (cf s l) else exitK P C e s l
      | e => exitK P C e s l
def outK (P : Cf -> Prop) (C : Exit -> St -> Prop) (l : List It) (e : Exit) (s : St) : Prop := match e with
  | .normal => P (cf s l)
  | e => exitK P C e s l
def oneK (P : Program) (w0 : B0) (C : Exit -> St -> Prop) (B R : Cf -> Prop) (c : Cf) : Prop := match c with
  | ⟨ops, rest, draw, s, X, stk⟩ => match s with
    | ⟨f, h, n, r, w, l⟩ => match rest with
      | o :: rest => wantK f ops o.guard (fun b => bif b then
            stepK w0 X P o f h n (fun x => match x with
                | ⟨v, h', n', r', w'⟩ => putK f o.dst v fun f => B ⟨ops, rest, draw, ⟨f, h', n', Nat.lor r r', Nat.lor w w', (r', w') :: l⟩, X, stk⟩)
              (fun x => match x with
                | ⟨v, h', n', r', w'⟩ => putK f o.dst v fun f => R ⟨ops, rest, draw, ⟨f, h', n', Nat.lor r r', Nat.lor w w', (r', w') :: l⟩, X, stk⟩)
          else putK f o.dst undef fun f => B ⟨ops, rest, draw, ⟨f, h, n, r, w, (0, 0) :: l⟩, X, stk⟩)
        (fun b => bif b then
            stepK w0 X P o f h n (fun x => match x with
                | ⟨v, h', n', r', w'⟩ => putK f o.dst v fun f => R ⟨ops, rest, draw, ⟨f, h', n', Nat.lor r r', Nat.lor w w', (r', w') :: l⟩, X, stk⟩)
              (fun x => match x with
                | ⟨v, h', n', r', w'⟩ => putK f o.dst v fun f => R ⟨ops, rest, draw, ⟨f, h', n', Nat.lor r r', Nat.lor w w', (r', w') :: l⟩, X, stk⟩)
          else putK f o.dst undef fun f => R ⟨ops, rest, draw, ⟨f, h, n, r, w, (0, 0) :: l⟩, X, stk⟩)
      | [] => bif draw then ((drawOk ops && drawn (bef ops) ops.size l) = true /\ R ⟨#[], [], false, ⟨f, h, n, 0, 0, []⟩, X, stk⟩) else match stk with
        | [] => C .normal ⟨f, h, n, X⟩
        | i :: stk => match i with
          | ⟨_, some _⟩ => B ⟨#[], [], false, ⟨f, h, n, 0, 0, []⟩, X, stk⟩
          | ⟨c, none⟩ => match c with
            | .skip => B ⟨#[], [], false, ⟨f, h, n, 0, 0, []⟩, X, stk⟩
            | .label _ => B ⟨#[], [], false, ⟨f, h, n, 0, 0, []⟩, X, stk⟩
            | .ret => exitK B C .ret ⟨f, h, n, X⟩ stk
            | .exit i => exitK B C (.exit i) ⟨f, h, n, X⟩ stk
            | .goto i => exitK B C (.goto i) ⟨f, h, n, X⟩ stk
            | .seq a b => bif hasL a then B ⟨#[], [], false, ⟨f, h, n, 0, 0, []⟩, X, co a :: co b :: stk⟩ else B ⟨#[], [], false, ⟨f, h, n, 0, 0, []⟩, X, co a :: co b :: stk⟩
            | .cond c x y => match evo f c with
              | .complex _ re _ => bif Nat.beq re 1 then B ⟨#[], [], false, ⟨f, h, n, 0, 0, []⟩, X, co x :: stk⟩ else B ⟨#[], [], false, ⟨f, h, n, 0, 0, []⟩, X, co y :: stk⟩
              | .bool p => (p = true -> R ⟨#[], [], false, ⟨f, h, n, 0, 0, []⟩, X, co x :: stk⟩) /\ (p = false -> R ⟨#[], [], false, ⟨f, h, n, 0, 0, []⟩, X, co y :: stk⟩)
              | _ => False
            | .block id c => B ⟨#[], [], false, ⟨f, h, n, 0, 0, []⟩, X, co c :: bl id :: stk⟩
            | .region _ ops draw => B ⟨ops, ops.toList, draw, ⟨f, h, n, 0, 0, []⟩, X, stk⟩
            | c => WC P w0 c ⟨f, h, n, X⟩ (outK R C stk)
def adv (P : Program) (w0 : B0) (C : Exit -> St -> Prop) (R : Cf -> Prop) : Nat -> Cf -> Prop
  | 0, c => R c
  | m + 1, c => oneK P w0 C (adv P w0 C R m) R c
def RnE (P : Program) (w0 : B0) (C : Exit -> St -> Prop) : List It -> Exit -> St -> Prop
  | [], e, s => C e s
  | i :: l, e, s => match i.b with
    | some id => RnE P w0 C l (outE id e) s
    | none => match e with
      | .normal => WC P w0 i.c s (RnE P w0 C l)
      | e => RnE P w0 C l e s
def Rn (P : Program) (w0 : B0) (C : Exit -> St -> Prop) (c : Cf) : Prop := (∀ i, c.s.n <= i -> hget c.s.h i = none) ->
  ∃ s', EvL (Am w0 c.X) P c.ops c.rest c.s s' /\ (c.draw = true -> (drawOk c.ops && drawn (bef c.ops) c.ops.size s'.l) = true) /\ RnE P w0 C c.stk .normal ⟨s'.f, s'.h, s'.n, c.X⟩
section
variable {P : Program} {w0 : B0} {C : Exit -> St -> Prop}
theorem Rl.step {s : St} {k k' : K} {W W' : World} {a a' : Act} {f' : FT} {h' : HT} {n' r w : Nat} (R : Rl w0 s k W a) (ss : Ss s.h s.n h' n' r w) (hd : Sd s.h s.n h' n' r w k W k' W') (hf : FR k' f' a') : Rl w0 ⟨f', h', n', s.X⟩ k' W' a' := by
  refine ⟨hf, ?_, ss.nn R.nn, fun i hi => ?_, Am.stable w0 s.X _ _ _ _ _ _ _ _ _ _ R.am hd⟩
  · have := Sd.next (x := ones n') ss hd R.nn (R.hr.all R.nn _)
    exact this.sub fun i hi => tb_or.2 (Or.inr hi)
  · rw [hd.dom i (Or.inr hi)]; exact R.nk i (Nat.le_trans ss.le hi)
theorem cf_sem {s : St} {l : List It} (nn : ∀ i, s.n <= i -> hget s.h i = none) (h : Rn P w0 C (cf s l)) : RnE P w0 C l .normal s := by
  obtain ⟨f, hh, n, X⟩ := s
  obtain ⟨s', h1, _, h3⟩ := h nn
  cases h1
  exact h3
theorem exitK_ok {B : Cf -> Prop} (hB : ∀ c, B c -> Rn P w0 C c) {s : St} (nn : ∀ i, s.n <= i -> hget s.h i = none) {e : Exit} (he : e ≠ .normal) : ∀ l, exitK B C e s l -> RnE P w0 C l e s
  | [], x => x
  | i :: l, x => by
    simp only [exitK] at x
    simp only [RnE]
    split at x
    · rename_i hb
      rw [hb]
      have := exitK_ok hB nn he l x
      cases e with
      | normal => exact absurd rfl he
      | _ => exact this
    · rename_i id hb
      rw [hb]
      split at x
      · rename_i j
        simp only [outE]
        cases hj : Nat.beq j id with
        | true => rw [hj] at x; exact cf_sem nn (hB _ x)
        | false => rw [hj] at x; exact exitK_ok hB nn he l x
      · have := exitK_ok hB nn he l x
        cases e with
        | normal => exact absurd rfl he
        | exit j => rename_i hne; exact absurd rfl (hne j)
        | _ => exact this
theorem outK_ok {R : Cf -> Prop} (hR : ∀ c, R c -> Rn P w0 C c) {l : List It} {e : Exit} {s : St} (nn : ∀ i, s.n <= i -> hget s.h i = none) (h : outK R C l e s) : RnE P w0 C l e s := by
  cases e with
  | normal => exact cf_sem nn (hR _ h)
  | _ => exact exitK_ok hR nn (by simp) l h
theorem oneK_ok (hmo : P.follows .mixedOrders = true) {B R : Cf -> Prop} (hB : ∀ c, B c -> Rn P w0 C c) (hR : ∀ c, R c -> Rn P w0 C c) (c : Cf) (e : oneK P w0 C B R c) : Rn P w0 C c := by
  obtain ⟨ops, rest, draw, ⟨f, h, n, r, w, l⟩, X, stk⟩ := c
  intro nn
  cases rest with
  | cons o rest =>
    simp only [oneK, putK_eq] at e
    obtain ⟨b, hb, e⟩ := wantK_ok e
    cases b with
    | true =>
      have key : ∃ x, Oa (Am w0 X) P o f h n x /\ Rn P w0 C ⟨ops, rest, draw, ⟨put f o.dst x.v, x.h, x.n, Nat.lor r x.r, Nat.lor w x.w, (x.r, x.w) :: l⟩, X, stk⟩ := by
        rcases e with e | e
        · simp only [cond_true] at e
          obtain ⟨x, hx, e⟩ := stepK_ok nn e
          exact ⟨x, hx, e.elim (hB _) (hR _)⟩
        · simp only [cond_true] at e
          obtain ⟨x, hx, e⟩ := stepK_ok nn e
          exact ⟨x, hx, e.elim (hR _) (hR _)⟩
      obtain ⟨x, hx, hs⟩ := key
      obtain ⟨s', h1, h2, h4⟩ := hs (hx.ss.nn nn)
      exact ⟨s', ⟨_, Or.inl ⟨hb, x, hx, rfl⟩, h1⟩, h2, h4⟩
    | false =>
      have key : Rn P w0 C ⟨ops, rest, draw, ⟨put f o.dst undef, h, n, r, w, (0, 0) :: l⟩, X, stk⟩ := by
        rcases e with e | e
        · exact hB _ (by simpa only [cond_false] using e)
        · exact hR _ (by simpa only [cond_false] using e)
      obtain ⟨s', h1, h2, h4⟩ := key nn
      exact ⟨s', ⟨_, Or.inr ⟨hb, rfl⟩, h1⟩, h2, h4⟩
  | nil =>
    have sem0 : ∀ stk, Rn P w0 C ⟨#[], [], false, ⟨f, h, n, 0, 0, []⟩, X, stk⟩ -> RnE P w0 C stk .normal ⟨f, h, n, X⟩ := fun stk hs => by
      obtain ⟨s', h1, _, h3⟩ := hs nn
      cases h1
      exact h3
    cases draw with
    | true =>
      obtain ⟨hd, e⟩ : (drawOk ops && drawn (bef ops) ops.size l) = true /\ R ⟨#[], [], false, ⟨f, h, n, 0, 0, []⟩, X, stk⟩ := e
      exact ⟨_, rfl, fun _ => hd, sem0 _ (hR _ e)⟩
    | false =>
      refine ⟨_, rfl, fun h => (by cases h), ?_⟩
      cases stk with
      | nil => exact e
      | cons i stk =>
        obtain ⟨c, ib⟩ := i
        cases ib with
        | some id => exact sem0 stk (hB _ e)
        | none =>
          show WC P w0 c ⟨f, h, n, X⟩ (RnE P w0 C stk)
          cases c with
          | skip => exact fun Q k W a Rl' hK => wp_skip (hK _ _ _ _ _ Rl' (sem0 _ (hB _ e)))
          | label _ => exact fun Q k W a Rl' hK => wp_label (hK _ _ _ _ _ Rl' (sem0 _ (hB _ e)))
          | ret => exact fun Q k W a Rl' hK => wp_ret (hK _ _ _ _ _ Rl' (exitK_ok hB nn (by simp) _ e))
          | exit _ => exact fun Q k W a Rl' hK => wp_exit (hK _ _ _ _ _ Rl' (exitK_ok hB nn (by simp) _ e))
          | goto _ => exact fun Q k W a Rl' hK => wp_goto (hK _ _ _ _ _ Rl' (exitK_ok hB nn (by simp) _ e))
          | seq x y =>
            have e : B ⟨#[], [], false, ⟨f, h, n, 0, 0, []⟩, X, co x :: co y :: stk⟩ := by
              have e : bif hasL x then B ⟨#[], [], false, ⟨f, h, n, 0, 0, []⟩, X, co x :: co y :: stk⟩ else B ⟨#[], [], false, ⟨f, h, n, 0, 0, []⟩, X, co x :: co y :: stk⟩ := e
              cases hb : hasL x <;> rw [hb] at e <;> exact e
            have hs : WC P w0 x ⟨f, h, n, X⟩ (RnE P w0 C (co y :: stk)) := sem0 _ (hB _ e)
            intro Q k W a Rl' hK
            refine wp_seq (hs _ k W a Rl' fun e' s' k' W' a' R' hC => ?_)
            cases e' with
            | normal => exact (show WC P w0 y s' (RnE P w0 C stk) from hC) Q k' W' a' R' hK
            | _ => exact hK _ s' k' W' a' R' hC
          | cond cc x y =>
            intro Q k W a Rl' hK
            have hc := Rl'.fr.ev cc
            simp only [oneK, cond_false] at e
            split at e
            · rename_i re im hv
              rw [hv] at hc
              have h1 := hc.lit_inv
              cases hb : Nat.beq re 1 with
              | true => rw [hb] at e h1; exact wp_cond_true h1 ((show WC P w0 x _ (RnE P w0 C stk) from sem0 _ (hB _ e)) Q k W a Rl' hK)
              | false => rw [hb] at e h1; exact wp_cond_false h1 ((show WC P w0 y _ (RnE P w0 C stk) from sem0 _ (hB _ e)) Q k W a Rl' hK)
            · rename_i p hv
              rw [hv] at hc
              have h1 := hc.bool_inv
              cases p with
              | true => exact wp_cond_true h1 ((show WC P w0 x _ (RnE P w0 C stk) from sem0 _ (hR _ (e.1 rfl))) Q k W a Rl' hK)
              | false => exact wp_cond_false h1 ((show WC P w0 y _ (RnE P w0 C stk) from sem0 _ (hR _ (e.2 rfl))) Q k W a Rl' hK)
            · exact e.elim
          | block id c =>
            have hs : WC P w0 c ⟨f, h, n, X⟩ (RnE P w0 C (bl id :: stk)) := sem0 _ (hB _ e)
            intro Q k W a Rl' hK
            refine wp_block (hs _ k W a Rl' fun e' s' k' W' a' R' hC => ?_)
            have hC : RnE P w0 C stk (outE id e') s' := hC
            have := hK _ s' k' W' a' R' hC
            cases e' with
            | exit i =>
              show if i = id then Q .normal a' W' else Q (.exit i) a' W'
              by_cases hid : i = id
              · have hb : Nat.beq i id = true := by rw [Nat.beq_eq]; exact hid
                simp only [outE, hb, cond_true] at this
                rw [if_pos hid]; exact this
              · have hb : Nat.beq i id = false := by rw [← Bool.not_eq_true, Nat.beq_eq]; exact hid
                simp only [outE, hb, cond_false] at this
                rw [if_neg hid]; exact this
            | _ => exact this
          | region id ops draw =>
            intro Q k W a Rl' hK
            obtain ⟨s', hs, hd, e⟩ := hB _ (show B ⟨ops, ops.toList, draw, ⟨f, h, n, 0, 0, []⟩, X, stk⟩ from e) nn
            cases draw with
            | false =>
              obtain ⟨r, w, h1, h2, ss, ok⟩ := list_ok (Am.stable w0 X) ops.toList ⟨f, h, n, 0, 0, []⟩ s' nn hs
              exact wp_region_list (ok k W a Q Rl'.am Rl'.fr (Rl'.hr.all Rl'.nn _) (fun i h1 _ => Rl'.nk i h1) fun k' W' a' hd hf => hK _ _ k' W' a' (Rl'.step ss hd hf) e)
            | true =>
              have d0 := hd rfl
              rw [Bool.and_eq_true] at d0
              obtain ⟨ss, ok⟩ := draw_ok (s := ⟨f, h, n, 0, 0, []⟩) (Am.stable w0 X) Am.drew hmo nn rfl rfl rfl hs d0.1 d0.2
              exact ok k W a Q id Rl'.am Rl'.fr (Rl'.hr.all Rl'.nn _) (fun i h1 _ => Rl'.nk i h1) fun k' W' a' hd hf => hK _ _ k' W' a' (Rl'.step ss hd hf) e
          | loop c => exact fun Q k W a Rl' hK => (show WC P w0 (.loop c) ⟨f, h, n, X⟩ (outK R C stk) from e) Q k W a Rl' fun e' s' k' W' a' R' hC => hK e' s' k' W' a' R' (outK_ok hR R'.nn hC)
          | scope c => exact fun Q k W a Rl' hK => (show WC P w0 (.scope c) ⟨f, h, n, X⟩ (outK R C stk) from e) Q k W a Rl' fun e' s' k' W' a' R' hC => hK e' s' k' W' a' R' (outK_ok hR R'.nn hC)
          | rangeFunc a1 a2 a3 a4 => exact fun Q k W a Rl' hK => (show WC P w0 (.rangeFunc a1 a2 a3 a4) ⟨f, h, n, X⟩ (outK R C stk) from e) Q k W a Rl' fun e' s' k' W' a' R' hC => hK e' s' k' W' a' R' (outK_ok hR R'.nn hC)
          | refuse y => exact fun Q k W a Rl' hK => (show WC P w0 (.refuse y) ⟨f, h, n, X⟩ (outK R C stk) from e) Q k W a Rl' fun e' s' k' W' a' R' hC => hK e' s' k' W' a' R' (outK_ok hR R'.nn hC)
theorem adv_ok (hmo : P.follows .mixedOrders = true) : ∀ (m : Nat) (c : Cf), adv P w0 C (Rn P w0 C) m c -> Rn P w0 C c
  | 0, _, e => e
  | m + 1, c, e => oneK_ok hmo (adv_ok hmo m) (fun _ h => h) c e
theorem st (hmo : P.follows .mixedOrders = true) {c : Cf} (h : adv P w0 C (Rn P w0 C) 400 c) : Rn P w0 C c := adv_ok hmo 400 c h
theorem run_ok {c : Code} {s : St} (h : Rn P w0 C (cf s [co c])) : WC P w0 c s C := fun Q k W a R hK => by
  have h1 : WC P w0 c s (RnE P w0 C []) := cf_sem R.nn h
  exact h1 Q k W a R fun e s' k' W' a' R' hC => hK e s' k' W' a' R' hC
end
end S
end Go.Proofs.YtpabcmaeaiaknaaGreatDoor
namespace Go.Proofs.YtpabcmaeaiaknaaGreatDoor
namespace S
open Go.CheckFast (force force_eq)
open Go.RowKit (Below)
section
variable {P : Program} {w0 : B0}
def resK (P : Program) (f : FT) (h : HT) : List ResultVar -> (List Value -> Prop) -> Prop
  | [], C => C []
  | .tmp t :: l, C => resK P f h l fun vs => C (fget f t :: vs)
  | .cell a t :: l, C => match oLoad P t (.tmp a) f h 0 with
    | some z => resK P f h l fun vs => C (z.v :: vs)
    | none => False
def resF (tmps : Array Value) (x : ResultVar) : Sem Value := match x with
  | .tmp t => pure (tmps.getD t undef)
  | .cell b t => do loadVar t (← asAddr (tmps.getD b undef))
theorem res_ok {k : K} {f : FT} {a : Act} {h : HT} {W : World} (hf : FR k f a) (H : ∀ m, HR k h W m) : ∀ (l : List ResultVar) (C : List Value -> Prop), resK P f h l C -> ∃ vs us, C vs /\ LR (VX k) vs us /\ (l.mapM (resF a.tmps)).run P W = .ok us W
  | [], C, e => ⟨[], [], e, rfl, rfl⟩
  | .tmp t :: l, C, e => by
    obtain ⟨vs, us, h1, h2, h3⟩ := res_ok hf H l _ e
    exact ⟨_, _, h1, ⟨_, us, rfl, hf.get t, h2⟩, by rw [List.mapM_cons]; simp only [resF, Sem.run_bind, Sem.run_pure, Result.andThen_ok, h3]⟩
  | .cell b t :: l, C, e => by
    simp only [resK] at e
    split at e
    · rename_i z h4
      obtain ⟨vs, us, h1, h2, h3⟩ := res_ok hf H l _ e
      obtain ⟨p, q, hv, h5⟩ := onP_some h4
      obtain ⟨_, _, _, _, h6⟩ := ld_ok h5
      have h7 := hf.get b
      have hv' : fget f b = .pointer (some ⟨p, q, none⟩) := hv
      rw [hv'] at h7
      obtain ⟨_, b', zz, hk, h8⟩ := h7.ptr_inv
      obtain ⟨u, h9, h10⟩ := h6 k W b' zz (H _) hk
      refine ⟨_, u :: us, h1, ⟨u, us, rfl, h9, h2⟩, ?_⟩
      rw [List.mapM_cons]
      simp only [resF, Sem.run_bind, Sem.run_pure, Result.andThen_ok, h8, asAddr, h10, h3]
    · exact e.elim
theorem results_run {k : K} {f : FT} {a : Act} {h : HT} {W : World} {fn : Func} (hf : FR k f a) (H : ∀ m, HR k h W m) {C : List Value -> Prop} (e : resK P f h fn.results.toList C) : ∃ vs u, C vs /\ VX k (single vs) u /\ (results fn a.tmps).run P W = .ok u W := by
  obtain ⟨vs, us, h0, h1, h2⟩ := res_ok (P := P) hf H _ _ e
  refine ⟨vs, if us.length = 1 then us.headD undef else .tuple us.toArray, h0, ?_, ?_⟩
  · cases vs with
    | nil => rw [h1]; exact VX.tuple (cs := []) (us := []) rfl
    | cons v vs =>
      obtain ⟨u, us', rfl, r1, r2⟩ := h1
      cases vs with
      | nil => rw [r2]; exact r1
      | cons v' vs' =>
        have hl := r2.len
        rw [if_neg (by intro h0; simp only [List.length_cons] at h0 hl; omega)]
        exact VX.tuple ⟨u, us', rfl, r1, r2⟩
  · have e1 : results fn a.tmps = (do
        let vs ← fn.results.mapM (resF a.tmps)
        pure (if h : vs.size = 1 then vs[0] else .tuple vs)) := rfl
    rw [e1, Array.mapM_eq_mapM_toList]
    simp only [map_eq_pure_bind, Sem.run_bind, h2, Result.andThen_ok, Sem.run_pure]
    congr 1
    by_cases hl : us.length = 1
    · rw [if_pos hl, dif_pos (by simpa using hl)]
      cases us with
      | nil => cases hl
      | cons u us => simp
    · rw [if_neg hl, dif_neg (by simpa using hl)]
def argl : Nat -> List Value -> List (Nat × Value)
  | _, [] => []
  | i, v :: r => (i, v) :: argl (i + 1) r
theorem look_argl : ∀ (vs : List Value) (i t : Nat), look (argl i vs) t = if i <= t then (vs[t - i]?).getD unk else unk
  | [], i, t => by simp [argl, look]
  | v :: r, i, t => by
    have ih := look_argl r (i + 1) t
    by_cases e : i = t
    · subst e; simp [argl, look]
    · have hb := beq_f e
      simp only [argl, look, hb, cond_false, ih]
      by_cases h : i + 1 <= t
      · rw [if_pos h, if_pos (by omega), show t - i = (t - (i + 1)) + 1 by omega, List.getElem?_cons_succ]
      · rw [if_neg h, if_neg (by omega)]
theorem args_fr {k : K} {vs us : List Value} {m : Nat} (h : LR (VX k) vs us) (hl : vs.length <= m) : FR k ⟨m, argl 0 vs⟩ { tmps := us.toArray ++ Array.replicate (m - us.toArray.size) undef, defers := [] } := by
  have hlen := h.len
  refine ⟨by simp; omega, fun t => ?_, rfl⟩
  show VX k (look (argl 0 vs) t) _
  rw [look_argl, if_pos (Nat.zero_le _), Nat.sub_zero]
  have : (us.toArray ++ Array.replicate (m - us.toArray.size) undef).getD t undef = (us[t]?).getD undef := by
    rw [Array.getD_eq_getD_getElem?]
    by_cases ht : t < us.length
    · rw [Array.getElem?_append_left (by simpa using ht)]; simp
    · rw [Array.getElem?_append_right (by simpa using ht)]
      rw [List.getElem?_eq_none (by omega)]
      by_cases h2 : t - us.toArray.size < m - us.toArray.size
      · rw [Array.getElem?_replicate, if_pos h2]; rfl
      · rw [Array.getElem?_replicate, if_neg h2]
  rw [this]
  cases hv : vs[t]? with
  | none => exact unk_vx
  | some v => obtain ⟨u, h1, h2⟩ := h.get hv; rw [h1]; exact h2
end
end S
end Go.Proofs.YtpabcmaeaiaknaaGreatDoor
namespace Go.Proofs.YtpabcmaeaiaknaaGreatDoor
namespace S
open Go.CheckFast (force force_eq)
open Go.RowKit (Below)
structure Mb (w w' : World) : Prop extends Below w.heap.size w w' where
  dr : w.drawn <= w'.drawn
theorem dk {b : Bool} (h : b = true := by kernel_rfl) : b = true := h
section
variable {P : Program} {w0 : B0}
abbrev bz (w : World) : B0 := ⟨w, 0, fun _ => (0, 0), w⟩
def leafP (v u : Value) : Prop := match v with
  | .complex _ re _ => bif Nat.beq re 1 then u = .bool true else u = .bool false
  | .int k a => u = .int k a
  | .string s => u = .string s
  | .bool b => u = .bool b
  | .iface _ x => u = x
  | .agg cs => bif cs.toList.all pur1 then u = .agg (cs.toList.map den1).toArray else False
  | .tuple cs => bif cs.toList.all pur2 then u = .tuple (cs.toList.map den2).toArray else False
  | v => bif pur1 v then u = v else False
theorem leafP_ok {k : K} {v u x : Value} (h : leafP v x) (hv : VX k v u) : u = x := by
  cases v with
  | complex a re c =>
    rw [hv.lit_inv]
    simp only [leafP] at h
    cases hb : Nat.beq re 1 <;> rw [hb] at h <;> exact h.symm
  | int a b => rw [hv.int_inv]; exact h.symm
  | string s => rw [hv.str_inv]; exact h.symm
  | bool b => rw [hv.bool_inv]; exact h.symm
  | iface t y => rw [hv.raw_inv]; exact h.symm
  | agg cs =>
    simp only [leafP] at h
    cases hp : cs.toList.all pur1 with
    | false => rw [hp] at h; exact h.elim
    | true => rw [hp] at h; rw [pur2_eq hv hp]; exact h.symm
  | tuple cs =>
    simp only [leafP] at h
    cases hp : cs.toList.all pur2 with
    | false => rw [hp] at h; exact h.elim
    | true => rw [hp] at h; rw [pur_eq hv hp]; exact h.symm
  | float a b => exact absurd h (by simp [leafP, pur1])
  | chan a => exact absurd h (by simp [leafP, pur1])
  | func a b c => exact absurd h (by simp [leafP, pur1])
  | pointer a =>
    cases a with
    | none => rw [pur1_eq hv rfl]; exact h.symm
    | some a => exact absurd h (by simp [leafP, pur1])
  | slice a b c =>
    cases a with
    | none => rw [pur1_eq hv rfl]; exact h.symm
    | some a => exact absurd h (by simp [leafP, pur1])
  | map a =>
    cases a with
    | none => rw [pur1_eq hv rfl]; exact h.symm
    | some a => exact absurd h (by simp [leafP, pur1])
  | nilFunc => rw [pur1_eq hv rfl]; exact h.symm
  | nilIface => rw [pur1_eq hv rfl]; exact h.symm
def retV (P : Program) (fn : Func) (v : Value) (e : Exit) (s : St) : Prop := match e with
  | .normal => resK P s.f s.h fn.results.toList fun vs => leafP (single vs) v
  | .ret => resK P s.f s.h fn.results.toList fun vs => leafP (single vs) v
  | _ => False
theorem fn_pure {w0 : World} {f : FuncId} {fn : Func} {c : Code} {v : Value} (vs : List Value) (hf : P.funcs[f]? = some fn) (hb : fn.body = some c) (hp : vs.all pur2 = true) (hm : Nat.ble vs.length fn.ntmps = true)
    (h : WC P (bz w0) c ⟨⟨fn.ntmps, argl 0 vs⟩, [], 0, w0⟩ (retV P fn v)) : Calls P f (vs.map den2).toArray w0 fun e W => e = .returned v /\ Mb w0 W := by
  refine calls_of_wp hf hb ?_
  have hv : LR (VX fun _ => none) vs (vs.map den2) := LR.mk (p := pur2) (d := den2) (fun _ h => pur2_vx h) hp
  have R0 : Rl (bz w0) ⟨⟨fn.ntmps, argl 0 vs⟩, [], 0, w0⟩ (fun _ => none) w0 { tmps := (vs.map den2).toArray ++ Array.replicate (fn.ntmps - (vs.map den2).toArray.size) undef, defers := [] } :=
    ⟨args_fr hv (Nat.le_of_ble_eq_true hm), ⟨fun i hi => absurd (tb_ones.1 hi) (by simp), fun i j hi => absurd (tb_ones.1 hi) (by simp)⟩, fun i _ => by unfold hget; cases Nat.blt i 4096 <;> rfl, fun _ _ => rfl, ⟨Below.refl _ _, fun i b z h => (by cases h), fun b o h _ => h, fun i b z h => (by cases h), Nat.le_refl _, fun i hi => absurd hi (Nat.not_lt_zero i), Nat.le_refl _, Ty.refl _⟩⟩
  refine h _ _ _ _ R0 fun e s k W a Rs hC => ?_
  have key : resK P s.f s.h fn.results.toList (fun vs => leafP (single vs) v) -> ∃ u, (results fn a.tmps).run P W = .ok u W /\ (Ending.returned u = .returned v /\ Mb w0 W) := fun hC => by
    obtain ⟨vs, u, h1, h2, h3⟩ := results_run Rs.fr (fun m => Rs.hr.all Rs.nn m) hC
    exact ⟨u, h3, by rw [leafP_ok h1 h2], Rs.am.old, Rs.am.dr⟩
  cases e with
  | normal => obtain ⟨u, h1, h2⟩ := key hC; exact ⟨Rs.fr.df, u, h1, h2⟩
  | ret => obtain ⟨u, h1, h2⟩ := key hC; exact ⟨Rs.fr.df, u, h1, h2⟩
  | _ => exact hC.elim
def callB (fn : Func) : Bool := fn.body.isSome && !(fn.name == "runtime.NumGoroutine")
theorem enter_ok {f : FuncId} {fn : Func} (hf : P.funcs[f]? = some fn) (hb : callB fn = true) (args : Array Value) (w : World) : (callFunc f args).run P w = .ok (.enter f args) w := by
  unfold callB at hb
  simp only [Bool.and_eq_true, Bool.not_eq_true'] at hb
  have h1 : fn.body.isNone = false := by cases h : fn.body <;> simp_all
  simp only [callFunc, Sem.run_bind, program, Sem.run, Result.andThen_ok, hf]
  rw [if_neg (by rw [hb.2]; simp), h1]
  simp
variable {X : World} {o : Oper} {fr : FT} {h : HT} {n : Nat}
theorem r_call {t : Value} {f : FuncId} {fn : Func} {v : Value} {us : List Value} {cal : Callee} {xs : Array Operand} {ts : Array TypeId} (ho : o.op = .call { callee := cal, args := xs, argTypes := ts }) (hcal : cal = .value (.func f)) (hf : P.funcs[f]? = some fn)
    (hc : ∀ W, Mb w0.w W -> (∀ a u, X.cell? a = some u -> W.cell? a = some u) -> Calls P f us.toArray W fun e W' => e = .returned v /\ Mb W W')
    (hu : (evl fr xs.toList).map den2 = us := by rfl) (hv : den t = v := by rfl) (hb : callB fn = true := by rfl) (hp : (evl fr xs.toList).all pur2 = true := by rfl) (ht : pur t = true := by rfl) : Oa (Am w0 X) P o fr h n ⟨t, h, n, 0, 0⟩ := by
  subst hcal hu
  refine ⟨Ss.refl h n, fun k W a K' Q hA hop H hnew hk => ?_⟩
  have h8 := evl_rel (fr := fr) (k := k) (a := a) xs.toList (fun y hy => hop y (by rw [ho]; simp [Op.operands, Call.operands]; right; simpa using hy))
  have h9 := LR.map (p := pur2) (d := den2) (fun _ _ h => pur2_eq h) h8 hp
  have hrun : (execOp a.eval o).run P W = .ok (.enter f (xs.toList.map a.eval).toArray) W := by
    have : a.eval (.func f) = .func (.func f) #[] #[] := rfl
    simp only [execOp, ho, resolve, this, Deferred.ofValue, invoke, Sem.run_bind, Sem.run_pure, Result.andThen_ok, enter_ok hf hb]
    congr 2
    apply Array.ext'
    simp
  unfold Oper.wp
  rw [hrun, Oper.upon_enter, h9]
  refine (hc W ⟨hA.old, hA.dr⟩ (fun a u => hA.cell)).mono ?_
  rintro e W' ⟨rfl, hm⟩
  refine hk v W' k ⟨fun _ _ h => h, fun _ _ => rfl, HR.none.sub (fun i hi => (tb_or.1 hi).elim id id), fun b hb _ => hm.block b hb, fun _ _ _ h1 h2 => absurd h2 (by show ¬ _ < n; omega), fun _ _ h => h, hm.size, hm.os, ⟨hm.tape, hm.dr, Ty.old hm.block⟩, hm.output⟩ ?_
  rw [← hv]; exact pur_vx ht
def NewSl (w W : World) (u : Value) (len es : Nat) (cells : List Value) : Prop := ∃ (b cap : Nat) (sp : List Value) (ty : TypeId), u = .slice (some ⟨b, 0, none⟩) len cap /\ w.heap.size <= b /\ W.heap[b]? = some (.cells (cells ++ sp).toArray ty (0, 0)) /\ len <= cap /\ cap * es <= cells.length + sp.length
def leafN (h : HT) (v : Value) (len es : Nat) (cells : List Value) : Prop := match v with
  | .slice (some ⟨i, 0, none⟩) len' es' => match hget h i with
    | some cs => len' = len /\ es' = es /\ cs.all pur1 = true /\ cs.map den1 = cells
    | none => False
  | _ => False
def retN (P : Program) (fn : Func) (len es : Nat) (cells : List Value) (e : Exit) (s : St) : Prop := match e with
  | .normal => resK P s.f s.h fn.results.toList fun vs => leafN s.h (single vs) len es cells
  | .ret => resK P s.f s.h fn.results.toList fun vs => leafN s.h (single vs) len es cells
  | _ => False
theorem fn_new {w0 : World} {f : FuncId} {fn : Func} {c : Code} {len es : Nat} {cells : List Value} (vs : List Value) (hf : P.funcs[f]? = some fn) (hb : fn.body = some c) (hp : vs.all pur2 = true) (hm : Nat.ble vs.length fn.ntmps = true)
    (h : WC P (bz w0) c ⟨⟨fn.ntmps, argl 0 vs⟩, [], 0, w0⟩ (retN P fn len es cells)) : Calls P f (vs.map den2).toArray w0 fun e W => ∃ u, e = .returned u /\ NewSl w0 W u len es cells /\ Mb w0 W := by
  refine calls_of_wp hf hb ?_
  have hv : LR (VX fun _ => none) vs (vs.map den2) := LR.mk (p := pur2) (d := den2) (fun _ h => pur2_vx h) hp
  have R0 : Rl (bz w0) ⟨⟨fn.ntmps, argl 0 vs⟩, [], 0, w0⟩ (fun _ => none) w0 { tmps := (vs.map den2).toArray ++ Array.replicate (fn.ntmps - (vs.map den2).toArray.size) undef, defers := [] } :=
    ⟨args_fr hv (Nat.le_of_ble_eq_true hm), ⟨fun i hi => absurd (tb_ones.1 hi) (by simp), fun i j hi => absurd (tb_ones.1 hi) (by simp)⟩, fun i _ => by unfold hget; cases Nat.blt i 4096 <;> rfl, fun _ _ => rfl, ⟨Below.refl _ _, fun i b z h => (by cases h), fun b o h _ => h, fun i b z h => (by cases h), Nat.le_refl _, fun i hi => absurd hi (Nat.not_lt_zero i), Nat.le_refl _, Ty.refl _⟩⟩
  refine h _ _ _ _ R0 fun e s k W a Rs hC => ?_
  have key : resK P s.f s.h fn.results.toList (fun vs => leafN s.h (single vs) len es cells) -> ∃ u, (results fn a.tmps).run P W = .ok u W /\ (∃ u', Ending.returned u = .returned u' /\ NewSl w0 W u' len es cells /\ Mb w0 W) := fun hC => by
    obtain ⟨vs, u, h1, h2, h3⟩ := results_run Rs.fr (fun m => Rs.hr.all Rs.nn m) hC
    refine ⟨u, h3, u, rfl, ?_, Rs.am.old, Rs.am.dr⟩
    unfold leafN at h1
    split at h1
    · rename_i i len' es' hs
      rw [hs] at h2
      split at h1
      · rename_i cs hcs
        obtain ⟨rfl, rfl, h4, h5⟩ := h1
        obtain ⟨_, b, z, cap, hk, hu, hl, hz⟩ := h2.slc_inv
        obtain ⟨b2, us, sp, ty, e1, e2, e3⟩ := ((Rs.hr.all Rs.nn (bit i)).rep i (tb_bit.2 rfl) cs hcs).cel hk
        have hk' : k i = some (b, z + 1) := hk
        rw [hk'] at e1; cases e1
        have h6 := LR.map (p := pur1) (d := den1) (fun _ _ h => pur1_eq h) e3 h4
        rw [h5] at h6
        subst h6
        exact ⟨b, cap, sp, ty, hu, Rs.am.own i b _ hk', e2, hl, by have : 0 + cap * es' <= (2 * (us.length + sp.length) + bt ty) / 2 := hz; have := bt_le ty; omega⟩
      · exact h1.elim
    · exact h1.elim
  cases e with
  | normal => obtain ⟨u, h1, h2⟩ := key hC; exact ⟨Rs.fr.df, u, h1, h2⟩
  | ret => obtain ⟨u, h1, h2⟩ := key hC; exact ⟨Rs.fr.df, u, h1, h2⟩
  | _ => exact hC.elim
theorem r_callN {f : FuncId} {fn : Func} {us : List Value} {len es : Nat} {cells : List Value} {cal : Callee} {xs : Array Operand} {ts : Array TypeId} (nn : ∀ i, n <= i -> hget h i = none) (ho : o.op = .call { callee := cal, args := xs, argTypes := ts }) (hcal : cal = .value (.func f)) (hf : P.funcs[f]? = some fn)
    (hc : ∀ W, Mb w0.w W -> (∀ a u, X.cell? a = some u -> W.cell? a = some u) -> Calls P f us.toArray W fun e W' => ∃ u, e = .returned u /\ NewSl W W' u len es cells /\ Mb W W')
    (hn : Nat.blt n 4096 = true := by rfl) (hu : (evl fr xs.toList).map den2 = us := by rfl) (hb : callB fn = true := by rfl) (hp : (evl fr xs.toList).all pur2 = true := by rfl) : Oa (Am w0 X) P o fr h n ⟨.slice (some ⟨n, 0, none⟩) len es, msk (hs12 h n (some (cells.map rel1))) n, n + 1, 0, bit n⟩ := by
  subst hcal hu
  rw [Nat.blt_eq] at hn
  refine Oa.mask n ?_
  have hcs : hget (hs12 h n (some (cells.map rel1))) n = some (cells.map rel1) := hget_same _ hn
  have hd : ∀ i, i ≠ n -> hget (hs12 h n (some (cells.map rel1))) i = hget h i ∨ (tb (bit n) i /\ hget (hs12 h n (some (cells.map rel1))) i = none) := fun i hi => Or.inl (hget_ne _ hn (Ne.symm hi))
  have hw : ∀ i, tb (bit n) i -> i = n ∨ (tb 0 i /\ i < n) := fun i hi => Or.inl (tb_bit.1 hi).symm
  refine ⟨Ss.new (tb_bit.2 rfl) hd hw, fun k W a K' Q hA hop H hnew hk => ?_⟩
  have hkn : k n = none := hnew n (Nat.le_refl _) (Nat.lt_succ_self _)
  have h8 := evl_rel (fr := fr) (k := k) (a := a) xs.toList (fun y hy => hop y (by rw [ho]; simp [Op.operands, Call.operands]; right; simpa using hy))
  have h9 := LR.map (p := pur2) (d := den2) (fun _ _ h => pur2_eq h) h8 hp
  have hrun : (execOp a.eval o).run P W = .ok (.enter f (xs.toList.map a.eval).toArray) W := by
    have : a.eval (.func f) = .func (.func f) #[] #[] := rfl
    simp only [execOp, ho, resolve, this, Deferred.ofValue, invoke, Sem.run_bind, Sem.run_pure, Result.andThen_ok, enter_ok hf hb]
    congr 2
    apply Array.ext'
    simp
  unfold Oper.wp
  rw [hrun, Oper.upon_enter, h9]
  refine (hc W ⟨hA.old, hA.dr⟩ (fun a u => hA.cell)).mono ?_
  rintro e W' ⟨u, rfl, ⟨b, cap, sp, ty, rfl, hb1, hb2, hb3, hb4⟩, hm⟩
  have d := Sd.new (h := h) (h' := hs12 h n (some (cells.map rel1))) (n := n) (r := 0) (w := bit n) (k := k) (W := W) (W' := W') (B := b) (us := cells) (sp := sp) (ty := ty) nn hcs hd hw hkn H (Or.inl hb1) hb2 (rels_vx cells) (fun b' _ hlt => hm.block b' hlt) hm.size hm.os ⟨hm.tape, hm.dr, Ty.old hm.block⟩ hm.output
  exact hk _ W' _ d (VX.of0 ⟨trivial, b, _, cap, if_pos rfl, rfl, hb3, by show 0 + cap * es <= _; omega⟩)
def ren (σ : List Nat) (k : K) : K := fun j => (σ[j]?).bind k
def fitV (σ : List Nat) (u v : Value) : Prop := ∀ k w, VX k u w -> VX (ren σ k) v w
def fitF (σ : List Nat) (f : FT) : List (Nat × Value) -> Prop
  | [] => True
  | x :: l => fitV σ (fget f x.1) x.2 /\ fitF σ f l
def fitL (σ : List Nat) : List Value -> List Value -> Prop
  | [], l => l = []
  | u :: us, l => ∃ v vs, l = v :: vs /\ fitV σ u v /\ fitL σ us vs
def fitH (σ : List Nat) (h : HT) : HT -> Prop
  | [] => True
  | x :: l => (match x.2 with
    | some cs => match σ[x.1]? with
      | some i => match hget h i with
        | some us => fitL σ us cs
        | none => False
      | none => False
    | none => True) /\ fitH σ h l
def apartL : List Nat -> Bool
  | [] => true
  | i :: l => bif l.any (Nat.beq i) then false else apartL l
def Xf (s t : World) : Prop := t.heap.size <= s.heap.size /\ ∀ (b : Nat) (o : Obj), t.heap[b]? = some o -> o ≠ hole t -> s.heap[b]? = some o /\ o ≠ hole s
theorem xf {X : World} : Xf X X := ⟨Nat.le_refl _, fun _ _ h g => ⟨h, g⟩⟩
def pfx (m : Nat) (σ : List Nat) : Bool := match m with
  | 0 => true
  | m + 1 => (match σ[m]? with
    | some i => Nat.beq i m
    | none => false) && pfx m σ
theorem pfx_at : ∀ {m : Nat} {σ : List Nat}, pfx m σ = true -> ∀ i, i < m -> σ[i]? = some i
  | 0, _, _, i, hi => absurd hi (Nat.not_lt_zero i)
  | m + 1, σ, h, i, hi => by
    simp only [pfx, Bool.and_eq_true] at h
    obtain ⟨h1, h2⟩ := h
    by_cases e : i = m
    · subst e
      split at h1
      · rename_i j hj; rw [hj, Nat.eq_of_beq_eq_true h1]
      · cases h1
    · exact pfx_at h2 i (by omega)
structure Fit (m0 : Nat) (s t : St) (σ : List Nat) : Prop where
  m : t.f.m = s.f.m
  f : fitF σ s.f t.f.l
  h : fitH σ s.h t.h
  X : Xf s.X t.X
  n : σ.length = t.n
  a : (apartL σ && pfx m0 σ) = true
theorem apartL_spec : ∀ {l : List Nat}, apartL l = true -> ∀ (i j a : Nat), l[i]? = some a -> l[j]? = some a -> i = j
  | [], _, i, j, a, h, _ => by cases h
  | x :: l, hl, i, j, a, h1, h2 => by
    simp only [apartL] at hl
    obtain ⟨e1, e2⟩ : l.any (Nat.beq x) = false /\ apartL l = true := by cases hx : l.any (Nat.beq x) <;> rw [hx] at hl <;> first | exact ⟨rfl, hl⟩ | cases hl
    have no : ∀ b, b ∈ l -> x ≠ b := fun b hb e => by
      have := List.any_eq_false.1 e1 b hb
      exact this (by rw [Nat.beq_eq]; exact e)
    cases i with
    | zero =>
      simp at h1; subst h1
      cases j with
      | zero => rfl
      | succ j => exact absurd rfl (no _ (List.mem_of_getElem? (by simpa using h2)))
    | succ i =>
      cases j with
      | zero => simp at h2; subst h2; exact absurd rfl (no _ (List.mem_of_getElem? (by simpa using h1)))
      | succ j => have := apartL_spec e2 i j a (by simpa using h1) (by simpa using h2); omega
theorem ren_some {σ : List Nat} {j : Nat} {k : K} {p : Nat × Nat} (h : ren σ k j = some p) : ∃ i, σ[j]? = some i /\ k i = some p := by
  unfold ren at h
  cases hi : σ[j]? with
  | none => rw [hi] at h; cases h
  | some i => rw [hi] at h; exact ⟨i, rfl, h⟩
theorem ren_at {σ : List Nat} {j i : Nat} {k : K} (h : σ[j]? = some i) : ren σ k j = k i := by unfold ren; rw [h]; rfl
theorem fitF_get {σ : List Nat} {f : FT} {k : K} {a : Act} (hf : ∀ t, VX k (fget f t) (a.tmps.getD t undef)) : ∀ (l : List (Nat × Value)), fitF σ f l -> ∀ t, VX (ren σ k) (look l t) (a.tmps.getD t undef)
  | [], _, _ => unk_vx
  | x :: l, h, t => by
    simp only [look]
    by_cases e : x.1 = t
    · rw [show Nat.beq x.1 t = true by rw [Nat.beq_eq]; exact e]; subst e; exact h.1 k _ (hf x.1)
    · rw [beq_f e]; exact fitF_get hf l h.2 t
theorem fitL_rel {σ : List Nat} {k : K} : ∀ {us cs ws : List Value}, fitL σ us cs -> LR (VX k) us ws -> LR (VX (ren σ k)) cs ws
  | [], _, _, e, r => by rw [e]; exact r
  | u :: us, _, _, ⟨v, vs, e, h1, h2⟩, ⟨w, ws, e', r, q⟩ => by rw [e]; exact ⟨w, ws, e', h1 k w r, fitL_rel h2 q⟩
theorem fitH_get {σ : List Nat} {h : HT} : ∀ {l : HT}, fitH σ h l -> ∀ {j : Nat} {cs : List Value}, hget l j = some cs -> ∃ i us, σ[j]? = some i /\ hget h i = some us /\ fitL σ us cs
  | [], _, i, cs, e => by unfold hget at e; cases hb : Nat.blt i 4096 <;> rw [hb] at e <;> cases e
  | x :: l, hh, j, cs, e => by
    have hi := hget_lt e
    unfold hget at e
    rw [blt_t hi] at e
    simp only [cond_true, hlook] at e
    by_cases hx : x.1 = j
    · rw [show Nat.beq x.1 j = true by rw [Nat.beq_eq]; exact hx] at e
      simp only [cond_true] at e
      have h1 := hh.1
      rw [e, hx] at h1
      simp only at h1
      split at h1
      · rename_i i hi'
        split at h1
        · rename_i us hus; exact ⟨i, us, hi', hus, h1⟩
        · exact h1.elim
      · exact h1.elim
    · rw [beq_f hx] at e
      refine fitH_get hh.2 ?_
      unfold hget; rw [blt_t hi]; exact e
theorem Fit.rl {s t : St} {σ : List Nat} {k : K} {W : World} {a : Act} (F : Fit w0.m s t σ) (R : Rl w0 s k W a) : Rl w0 t (ren σ k) W a := by
  have rep : ∀ j, Rp (ren σ k) t.h W j := fun j cs hcs => by
    obtain ⟨i, us, h0, h1, h2⟩ := fitH_get F.h hcs
    exact ((R.hr.all R.nn (bit i)).rep i (tb_bit.2 rfl) us h1).mono (fun p hp => by rw [ren_at h0]; exact hp) (fun _ _ _ _ => rfl) (fun ws => fitL_rel h2)
  refine ⟨⟨F.m.trans R.fr.m, fun d => fitF_get R.fr.get _ F.f d, R.fr.df⟩, ⟨fun i _ => rep i, fun i j _ _ li lj hij b z b' z' ki kj => ?_⟩, fun j hj => ?_, fun j hj => ?_, ⟨R.am.old, fun i b z hk => ?_, fun b o h1 h2 => R.am.see b o (F.X.2 b o h1 h2).1 (F.X.2 b o h1 h2).2, fun i b z hk o ho => ?_, Nat.le_trans F.X.1 R.am.sz, fun i hi => by rw [ren_at (pfx_at (Bool.and_eq_true _ _ ▸ F.a).2 i hi)]; exact R.am.kp i hi, R.am.dr, R.am.ty⟩⟩
  · obtain ⟨cs, hcs⟩ := li
    obtain ⟨cs', hcs'⟩ := lj
    obtain ⟨i0, us, h0, h1, _⟩ := fitH_get F.h hcs
    obtain ⟨j0, us', h0', h1', _⟩ := fitH_get F.h hcs'
    rw [ren_at h0] at ki
    rw [ren_at h0'] at kj
    have H := R.hr.all R.nn (Nat.lor (bit i0) (bit j0))
    exact H.inj i0 j0 (tb_or.2 (Or.inl (tb_bit.2 rfl))) (tb_or.2 (Or.inr (tb_bit.2 rfl))) ⟨us, h1⟩ ⟨us', h1'⟩ (fun e => hij (apartL_spec (Bool.and_eq_true _ _ ▸ F.a).1 i j i0 h0 (by rw [e]; exact h0'))) b z b' z' ki kj
  · cases e : hget t.h j with
    | none => rfl
    | some cs =>
      obtain ⟨i, _, h0, _⟩ := fitH_get F.h e
      have := (List.getElem?_eq_some_iff.1 h0).1
      have := F.n
      omega
  · unfold ren; rw [List.getElem?_eq_none (by rw [F.n]; exact hj)]; rfl
  · obtain ⟨i0, _, h2⟩ := ren_some hk; exact R.am.own i0 b z h2
  · obtain ⟨i0, _, h2⟩ := ren_some hk
    exact Classical.byContradiction fun hne => (F.X.2 b o ho hne).2 (R.am.out i0 b z h2 o (F.X.2 b o ho hne).1)
theorem fv {σ : List Nat} {u v : Value} (h : u = v := by rfl) (hp : pur2 v = true := by rfl) : fitV σ u v := fun k w hw => by
  subst h
  rw [pur2_eq hw hp]; exact pur2_vx hp
theorem fe {σ : List Nat} {k : IntKind} {a b : Int} (h : a = b := by omega) : fitV σ (.int k a) (.int k b) := fv (by rw [h])
theorem fl {σ : List Nat} {us cs : List Value} (h : us = cs) (hp : cs.all pur1 = true) : fitL σ us cs := by
  subst h
  induction us with
  | nil => rfl
  | cons u us ih =>
    simp only [List.all_cons, Bool.and_eq_true] at hp
    exact ⟨u, us, rfl, fun k w hw => by rw [pur1_eq hw hp.1]; exact pur1_vx hp.1, ih hp.2⟩
theorem flr {σ : List Nat} {us : List Value} {cs : List Value} (h : us = cs.map rel1) : fitL σ us (cs.map rel1) := fl h (by simp [pur_rel1])
theorem fs {σ : List Nat} {i j q len es : Nat} (h : σ[j]? = some i := by rfl) : fitV σ (.slice (some ⟨i, q, none⟩) len es) (.slice (some ⟨j, q, none⟩) len es) := fun k w hw => by
  obtain ⟨h1, b, z, c, h2, h3⟩ := hw.slc_inv
  exact VX.of0 ⟨h1, b, z, c, by show ren σ k j = _; rw [ren_at h]; exact h2, h3⟩
theorem fp {σ : List Nat} {i j q : Nat} (h : σ[j]? = some i := by rfl) : fitV σ (.pointer (some ⟨i, q, none⟩)) (.pointer (some ⟨j, q, none⟩)) := fun k w hw => by
  obtain ⟨h1, b, z, h2, h3⟩ := hw.ptr_inv
  exact VX.of0 ⟨h1, b, z, by show ren σ k j = _; rw [ren_at h]; exact h2, h3⟩
def loopK {α : Type} (m0 : Nat) (J : α -> St) (pre : α -> Prop) (μ : α -> Nat) (a : α) (C : Exit -> St -> Prop) (e : Exit) (s : St) : Prop := match e with
  | .normal => ∃ a', pre a' /\ μ a' < μ a /\ ∃ σ, Fit m0 s (J a') σ
  | e => C e s
theorem w_loop {c : Code} {s : St} {C : Exit -> St -> Prop} {α : Type} (J : α -> St) (pre : α -> Prop) (μ : α -> Nat) (a0 : α) (hp : pre a0) (σ : List Nat) (h0 : Fit w0.m s (J a0) σ) (hr : ∀ a, pre a -> Rn P w0 (loopK w0.m J pre μ a C) (cf (J a) [co c])) : WC P w0 (.loop c) s C := by
  have key : ∀ (m : Nat) (a : α) (Q : Exit -> Act -> World -> Prop) (k : K) (W : World) (act : Act), pre a -> μ a <= m -> Rl w0 (J a) k W act -> (∀ e s' k' W' a', Rl w0 s' k' W' a' -> C e s' -> Q e a' W') -> Code.rounds P c Q (m + 1) act W := by
    intro m
    induction m with
    | zero =>
      intro a Q k W act hpa hm R hQ
      refine run_ok (hr a hpa) _ _ _ _ R fun e s' k' W' a' R' hC => ?_
      cases e with
      | normal => obtain ⟨a', _, hlt, _⟩ := hC; omega
      | _ => exact hQ _ _ _ _ _ R' hC
    | succ m ih =>
      intro a Q k W act hpa hm R hQ
      refine run_ok (hr a hpa) _ _ _ _ R fun e s' k' W' a' R' hC => ?_
      cases e with
      | normal => obtain ⟨a2, hp2, hlt, σ2, hF⟩ := hC; exact ih a2 Q _ W' a' hp2 (by omega) (hF.rl R') hQ
      | _ => exact hQ _ _ _ _ _ R' hC
  intro Q k W act R hK
  exact wp_loop_rounds (μ a0 + 1) (key (μ a0) a0 Q _ W act hp (Nat.le_refl _) (h0.rl R) hK)
end
end S
end Go.Proofs.YtpabcmaeaiaknaaGreatDoor
namespace Go.Proofs.YtpabcmaeaiaknaaGreatDoor
namespace S
section
variable {P : Program} {w0 : B0} {X : World} {o : Oper} {fr : FT} {h : HT} {n : Nat}
def Ly (h : HT) (rd : Nat) (W : World) (i b : Nat) : Prop := ∀ cs, hget h i = some cs -> tb rd i -> cs.all pur1 = true -> b < W.heap.size /\ Lies W b 0 (cs.map den1)
def Arg (h : HT) (rd : Nat) (W : World) (v u : Value) : Prop := match v with
  | .slice (some ⟨i, q, none⟩) len _ => ∃ b cap, u = .slice (some ⟨b, q, none⟩) len cap /\ len <= cap /\ Ly h rd W i b
  | .pointer (some ⟨i, q, none⟩) => ∃ b, u = .pointer (some ⟨b, q, none⟩) /\ Ly h rd W i b
  | v => pur2 v = true -> u = den2 v
theorem ly_of {k : K} {W : World} {rd i b z : Nat} (H : HR k h W rd) (hk : k i = some (b, z + 1)) : Ly h rd W i b := fun cs hc hr hp => by
  obtain ⟨b2, us, sp, ty, e1, e2, e3⟩ := (H.rep i hr cs hc).cel hk
  rw [hk] at e1; cases e1
  refine ⟨(Array.getElem?_eq_some_iff.1 e2).1, fun j u hj => ?_⟩
  have h6 := LR.map (p := pur1) (d := den1) (fun _ _ h => pur1_eq h) e3 hp
  rw [← h6] at hj
  rw [cell_of e2, Nat.zero_add, List.getElem?_append_left (List.getElem?_eq_some_iff.1 hj).1]; exact hj
theorem arg_of {k : K} {W : World} {rd : Nat} (H : HR k h W rd) {v u : Value} (hv : VX k v u) : Arg h rd W v u := by
  unfold Arg
  split
  · obtain ⟨_, b, z, c, h1, h2, h3, _⟩ := hv.slc_inv
    exact ⟨b, c, h2, h3, ly_of H h1⟩
  · obtain ⟨_, b, z, h1, h2⟩ := hv.ptr_inv
    exact ⟨b, h2, ly_of H h1⟩
  · exact fun hp => pur2_eq hv hp
theorem hr_mb {k : K} {W W' : World} {m : Nat} (H : HR k h W m) (hm : Mb W W') : HR k h W' m := ⟨fun i hi cs hc => by
  exact (H.rep i hi cs hc).mono (fun _ h => h) (fun b _ _ hb => hm.block b hb) (fun _ h => h), H.inj⟩
theorem ss_id (rd : Nat) : Ss h n h n rd 0 := ⟨Nat.le_refl _, fun h => h, fun _ _ => rfl, fun _ h => absurd h tb_zero, fun _ h => absurd h tb_zero, fun _ _ h => h⟩
theorem run_call {a : Act} {f : FuncId} {fn : Func} {xs : Array Operand} {ts : Array TypeId} {W : World} (ho : o.op = .call { callee := .value (.func f), args := xs, argTypes := ts }) (hf : P.funcs[f]? = some fn) (hb : callB fn = true) : (execOp a.eval o).run P W = .ok (.enter f (xs.toList.map a.eval).toArray) W := by
  have : a.eval (.func f) = .func (.func f) #[] #[] := rfl
  simp only [execOp, ho, resolve, this, Deferred.ofValue, invoke, Sem.run_bind, Sem.run_pure, Result.andThen_ok, enter_ok hf hb]
  congr 2
  apply Array.ext'
  simp
theorem r_callA {t : Value} {f : FuncId} {fn : Func} {v : Value} {cal : Callee} {xs : Array Operand} {ts : Array TypeId} (rd : Nat) (ho : o.op = .call { callee := cal, args := xs, argTypes := ts }) (hcal : cal = .value (.func f)) (hf : P.funcs[f]? = some fn)
    (hc : ∀ W us, Mb w0.w W -> (∀ a u, X.cell? a = some u -> W.cell? a = some u) -> LR (Arg h rd W) (evl fr xs.toList) us -> Calls P f us.toArray W fun e W' => e = .returned v /\ Mb W W')
    (hv : den t = v := by rfl) (hb : callB fn = true := by rfl) (ht : pur t = true := by rfl) : Oa (Am w0 X) P o fr h n ⟨t, h, n, rd, 0⟩ := by
  subst hcal
  refine ⟨ss_id rd, fun k W a K' Q hA hop H hnew hk => ?_⟩
  have h8 := evl_rel (fr := fr) (k := k) (a := a) xs.toList (fun y hy => hop y (by rw [ho]; simp [Op.operands, Call.operands]; right; simpa using hy))
  unfold Oper.wp
  rw [run_call ho hf hb, Oper.upon_enter]
  refine (hc W _ ⟨hA.old, hA.dr⟩ (fun a u => hA.cell) (LR.mono (fun v u => arg_of H) _ _ h8)).mono ?_
  rintro e W' ⟨rfl, hm⟩
  refine hk v W' k ⟨fun _ _ h => h, fun _ _ => rfl, (hr_mb H hm).sub (fun i hi => (tb_or.1 hi).elim id (fun h => absurd h tb_zero)), fun b hb _ => hm.block b hb, fun _ _ _ h1 h2 => absurd h2 (by show ¬ _ < n; omega), fun _ _ h => h, hm.size, hm.os, ⟨hm.tape, hm.dr, Ty.old hm.block⟩, hm.output⟩ ?_
  rw [← hv]; exact pur_vx ht
theorem func_inv {k : K} {f : Fn} {u : Value} (h : VX k (.func f #[] #[]) u) : u = .func f #[] #[] := by
  obtain ⟨d, h⟩ := h
  cases d with
  | zero => exact (h : False).elim
  | succ d =>
    obtain ⟨a, c, rfl, h1, h2⟩ := h
    have e1 : a.toList = [] := h1
    have e2 : c.toList = [] := h2
    rw [Array.toList_eq_nil_iff] at e1 e2
    rw [e1, e2]
theorem r_callF {t : Value} {f : FuncId} {fn : Func} {v : Value} {us : List Value} {y : Operand} {xs : Array Operand} {ts : Array TypeId} (ho : o.op = .call { callee := .value y, args := xs, argTypes := ts }) (hy : evo fr y = .func (.func f) #[] #[]) (hf : P.funcs[f]? = some fn)
    (hc : ∀ W, Mb w0.w W -> (∀ a u, X.cell? a = some u -> W.cell? a = some u) -> Calls P f us.toArray W fun e W' => e = .returned v /\ Mb W W')
    (hu : (evl fr xs.toList).map den2 = us := by rfl) (hv : den t = v := by rfl) (hb : callB fn = true := by rfl) (hp : (evl fr xs.toList).all pur2 = true := by rfl) (ht : pur t = true := by rfl) : Oa (Am w0 X) P o fr h n ⟨t, h, n, 0, 0⟩ := by
  subst hu
  refine ⟨Ss.refl h n, fun k W a K' Q hA hop H hnew hk => ?_⟩
  have h8 := evl_rel (fr := fr) (k := k) (a := a) xs.toList (fun y hy => hop y (by rw [ho]; simp [Op.operands, Call.operands]; right; simpa using hy))
  have h9 := LR.map (p := pur2) (d := den2) (fun _ _ h => pur2_eq h) h8 hp
  have h7 : a.eval y = .func (.func f) #[] #[] := func_inv (by rw [← hy]; exact hop y (by rw [ho]; simp [Op.operands, Call.operands]))
  have hrun : (execOp a.eval o).run P W = .ok (.enter f (xs.toList.map a.eval).toArray) W := by
    simp only [execOp, ho, resolve, h7, Deferred.ofValue, invoke, Sem.run_bind, Sem.run_pure, Result.andThen_ok, enter_ok hf hb]
    congr 2
    apply Array.ext'
    simp
  unfold Oper.wp
  rw [hrun, Oper.upon_enter, h9]
  refine (hc W ⟨hA.old, hA.dr⟩ (fun a u => hA.cell)).mono ?_
  rintro e W' ⟨rfl, hm⟩
  refine hk v W' k ⟨fun _ _ h => h, fun _ _ => rfl, HR.none.sub (fun i hi => (tb_or.1 hi).elim id id), fun b hb _ => hm.block b hb, fun _ _ _ h1 h2 => absurd h2 (by show ¬ _ < n; omega), fun _ _ h => h, hm.size, hm.os, ⟨hm.tape, hm.dr, Ty.old hm.block⟩, hm.output⟩ ?_
  rw [← hv]; exact pur_vx ht
end
end S
end Go.Proofs.YtpabcmaeaiaknaaGreatDoor
namespace Go.Proofs.YtpabcmaeaiaknaaGreatDoor
namespace S
open Go.RowKit (Below)
structure Ky (k : K) (h : HT) (n : Nat) (W : World) : Prop where
  hr : HR k h W (ones n)
  nn : ∀ i, n <= i -> hget h i = none
  nk : ∀ i, n <= i -> k i = none
structure Sees (X : World) (k : K) (W : World) : Prop where
  see : ∀ (b : Nat) (o : Obj), X.heap[b]? = some o -> o ≠ hole X -> W.heap[b]? = some o
  out : ∀ i b z, k i = some (b, z) -> ∀ o : Obj, X.heap[b]? = some o -> o = hole X
  sz : X.heap.size <= W.heap.size
structure Af (k : K) (n m : Nat) (W : World) (k' : K) (h' : HT) (n' : Nat) (W' : World) : Prop where
  ky : Ky k' h' n' W'
  keep : ∀ i, i < m -> k' i = k i
  fresh : ∀ i b z, k' i = some (b, z) -> W.heap.size <= b ∨ ∃ j z', j < n /\ k j = some (b, z')
  frm : ∀ b, b < W.heap.size -> (∀ j z, j < n -> k j ≠ some (b, z)) -> W'.heap[b]? = W.heap[b]?
  size : W.heap.size <= W'.heap.size
  os : W'.os = W.os
  tape : Tp W' W
  output : W'.output = W.output
def Ctr (P : Program) (X : World) (f : FuncId) (vs : List Value) (h : HT) (n m : Nat) (t : Value) (h' : HT) (n' : Nat) : Prop :=
  ∀ (W : World) (k : K) (us : List Value), Ky k h n W -> Sees X k W -> LR (VX k) vs us -> Calls P f us.toArray W fun e W' => ∃ u k', e = .returned u /\ VX k' t u /\ Af k n m W k' h' n' W'
def Cb (P : Program) (X : World) (f : FuncId) (vs : List Value) (h : HT) (n m : Nat) (t : Value) (h' : HT) (n' : Nat) (W : World) (k : K) : Prop :=
  ∀ us : List Value, Ky k h n W -> Sees X k W -> LR (VX k) vs us -> Calls P f us.toArray W fun e W' => ∃ u k', e = .returned u /\ VX k' t u /\ Af k n m W k' h' n' W'
def TyK (T N : Nat) (W : World) (k : K) : Prop := ∀ b z, k 0 = some (b, z) -> ∃ cs fz, W.heap[b]? = some (.cells cs T fz) /\ cs.size = N
def TyB (T N : Nat) (l : Nat -> Nat × Nat) (t : World) : Prop := ∃ cs fz, t.heap[(l 0).1]? = some (.cells cs T fz) /\ cs.size = N
def CtrT (P : Program) (T N : Nat) (X : World) (f : FuncId) (vs : List Value) (h : HT) (n m : Nat) (t : Value) (h' : HT) (n' : Nat) : Prop :=
  ∀ (W : World) (k : K), TyK T N W k -> Cb P X f vs h n m t h' n' W k
def full (h : HT) : Nat -> Bool
  | 0 => true
  | n + 1 => (hget h n).isSome && full h n
theorem full_at {h : HT} : ∀ {n : Nat}, full h n = true -> ∀ i, i < n -> ∃ cs, hget h i = some cs
  | 0, _, i, hi => absurd hi (Nat.not_lt_zero i)
  | n + 1, hf, i, hi => by
    simp only [full, Bool.and_eq_true] at hf
    by_cases e : i = n
    · subst e; exact Option.isSome_iff_exists.1 hf.1
    · exact full_at hf.2 i (by omega)
def retC (P : Program) (fn : Func) (X : World) (m : Nat) (t : Value) (h' : HT) (n' : Nat) (e : Exit) (s : St) : Prop := s.X = X /\ match e with
  | .normal => resK P s.f s.h fn.results.toList fun vs => ∃ σ, fitV σ (single vs) t /\ fitH σ s.h h' /\ σ.length = n' /\ (apartL σ && pfx m σ) = true
  | .ret => resK P s.f s.h fn.results.toList fun vs => ∃ σ, fitV σ (single vs) t /\ fitH σ s.h h' /\ σ.length = n' /\ (apartL σ && pfx m σ) = true
  | _ => False
theorem ex_hole (l : List Obj) : ∃ N : Nat, ∀ o ∈ l, o ≠ .cells #[] N (0, 0) := by
  have key : ∃ N : Nat, ∀ M : Nat, N <= M -> ∀ o ∈ l, o ≠ .cells #[] M (0, 0) := by
    induction l with
    | nil => exact ⟨0, fun _ _ _ h => by cases h⟩
    | cons x l ih =>
      obtain ⟨N, hN⟩ := ih
      have key : ∃ N' : Nat, ∀ M : Nat, N' <= M -> x ≠ .cells #[] M (0, 0) := by
        cases x with
        | cells c ty fz => exact ⟨ty + 1, fun M hM e => by cases e; exact absurd hM (Nat.not_succ_le_self _)⟩
        | _ => exact ⟨0, fun M _ e => by cases e⟩
      obtain ⟨N', hN'⟩ := key
      refine ⟨N + N', fun M hM o ho => ?_⟩
      rcases List.mem_cons.1 ho with rfl | ho
      · exact hN' M (by omega)
      · exact hN M (by omega) o ho
  obtain ⟨N, hN⟩ := key
  exact ⟨N, hN N (Nat.le_refl _)⟩
theorem ky_ren {k : K} {h h' : HT} {W : World} {σ : List Nat} {r : Nat} (H : HR k h W r) (hr : ∀ (j i : Nat), σ[j]? = some i -> tb r i) (F : fitH σ h h') (ha : apartL σ = true) : Ky (ren σ k) h' σ.length W := by
  have rep : ∀ j, Rp (ren σ k) h' W j := fun j cs hcs => by
    obtain ⟨i, us, h0, h1, h2⟩ := fitH_get F hcs
    exact (H.rep i (hr j i h0) us h1).mono (fun p hp => by rw [ren_at h0]; exact hp) (fun _ _ _ _ => rfl) (fun ws => fitL_rel h2)
  refine ⟨⟨fun i _ => rep i, fun i j _ _ li lj hij b z b' z' ki kj => ?_⟩, fun j hj => ?_, fun j hj => ?_⟩
  · obtain ⟨cs, hcs⟩ := li
    obtain ⟨cs', hcs'⟩ := lj
    obtain ⟨i0, us, h0, h1, _⟩ := fitH_get F hcs
    obtain ⟨j0, us', h0', h1', _⟩ := fitH_get F hcs'
    rw [ren_at h0] at ki
    rw [ren_at h0'] at kj
    exact H.inj i0 j0 (hr i i0 h0) (hr j j0 h0') ⟨us, h1⟩ ⟨us', h1'⟩ (fun e => hij (apartL_spec ha i j i0 h0 (by rw [e]; exact h0'))) b z b' z' ki kj
  · cases e : hget h' j with
    | none => rfl
    | some cs =>
      obtain ⟨i, _, h0, _⟩ := fitH_get F e
      have := (List.getElem?_eq_some_iff.1 h0).1
      omega
  · unfold ren; rw [List.getElem?_eq_none hj]; rfl
section
variable {P : Program}
theorem fn_c1 {X : World} {f : FuncId} {fn : Func} {c : Code} {h h' : HT} {n m n' : Nat} {t : Value} {W : World} {k : K} (vs : List Value) (hf : P.funcs[f]? = some fn) (hb : fn.body = some c) (hm : Nat.ble vs.length fn.ntmps = true) (hfull : full h n = true) (hmn : Nat.ble m n = true)
    (H : ∀ w l X', Xf X' X -> (∀ i, i < m -> k i = some (l i)) -> WC P ⟨w, m, l, W⟩ c ⟨⟨fn.ntmps, argl 0 vs⟩, h, n, X'⟩ (retC P fn X' m t h' n')) : Cb P X f vs h n m t h' n' W k := by
  intro us ky hX hv
  refine calls_of_wp hf hb ?_
  obtain ⟨N, hN⟩ := ex_hole W.heap.toList
  have hN' : ∀ (b' : Nat) (o : Obj), W.heap[b']? = some o -> o ≠ .cells #[] N (0, 0) := fun b' o ho => hN o (by
    obtain ⟨hlt, rfl⟩ := Array.getElem?_eq_some_iff.1 ho
    simp)
  have hmn' : m <= n := Nat.le_of_ble_eq_true hmn
  have hks : ∀ i, i < n -> ∃ b z, k i = some (b, z) /\ b < W.heap.size := fun i hi => by
    obtain ⟨cs, hcs⟩ := full_at hfull i hi
    exact (ky.hr.rep i (tb_ones.2 hi)).lt ⟨cs, hcs⟩
  let isO : Nat -> Prop := fun b => ∃ j z, j < n /\ k j = some (b, z)
  have dec : ∀ b, Decidable (isO b) := fun b => Classical.propDecidable _
  let X' : World := { W with heap := W.heap.mapIdx (fun b o => @ite Obj (isO b) (dec b) (.cells #[] N (0, 0)) o), drawn := N }
  have hXs : X'.heap.size = W.heap.size := by show (W.heap.mapIdx _).size = _; simp
  have hXo : ∀ b, ¬ isO b -> X'.heap[b]? = W.heap[b]? := fun b hb => by
    show (W.heap.mapIdx _)[b]? = _
    rw [Array.getElem?_mapIdx]
    cases W.heap[b]? with
    | none => rfl
    | some o => simp only [Option.map_some, if_neg hb]
  have hXi : ∀ b o, isO b -> X'.heap[b]? = some o -> o = hole X' := fun b o hb ho => by
    have ho : (W.heap.mapIdx (fun b o => @ite Obj (isO b) (dec b) (.cells #[] N (0, 0)) o))[b]? = some o := ho
    rw [Array.getElem?_mapIdx] at ho
    cases hw : W.heap[b]? with
    | none => rw [hw] at ho; cases ho
    | some o' => rw [hw] at ho; simp only [Option.map_some, if_pos hb] at ho; cases ho; rfl
  have hXf : Xf X' X := by
    refine ⟨by rw [hXs]; exact hX.sz, fun b o h1 h2 => ?_⟩
    have h3 := hX.see b o h1 h2
    have h4 : ¬ isO b := fun ⟨j, z, _, hk⟩ => h2 (hX.out j b z hk o h1)
    exact ⟨by rw [hXo b h4]; exact h3, hN' b o h3⟩
  have R0 : Rl ⟨{ W with heap := #[] }, m, fun i => (k i).getD (0, 0), W⟩ ⟨⟨fn.ntmps, argl 0 vs⟩, h, n, X'⟩ k W { tmps := us.toArray ++ Array.replicate (fn.ntmps - us.toArray.size) undef, defers := [] } := by
    refine ⟨args_fr hv (Nat.le_of_ble_eq_true hm), ky.hr, ky.nn, ky.nk, ⟨⟨rfl, rfl, rfl, Nat.zero_le _, fun b hb => absurd hb (Nat.not_lt_zero b)⟩, fun i b z _ => Nat.zero_le _, fun b o h1 h2 => ?_, fun i b z hk o ho => ?_, by rw [hXs]; exact Nat.le_refl _, fun i hi => ?_, Nat.le_refl _, Ty.refl _⟩⟩
    · have h4 : ¬ isO b := fun hb => h2 (hXi b o hb h1)
      rw [hXo b h4] at h1; exact h1
    · refine hXi b o ⟨i, z, ?_, hk⟩ ho
      rcases Nat.lt_or_ge i n with h' | h'
      · exact h'
      · rw [ky.nk i h'] at hk; cases hk
    · obtain ⟨b, z, hk, _⟩ := hks i (Nat.lt_of_lt_of_le hi hmn')
      show k i = some ((k i).getD (0, 0))
      rw [hk]; rfl
  refine H _ _ X' hXf (fun i hi => by obtain ⟨b, z, hk, _⟩ := hks i (Nat.lt_of_lt_of_le hi hmn'); show k i = some ((k i).getD (0, 0)); rw [hk]; rfl) _ _ _ _ R0 fun e s k1 W' a Rs hC => ?_
  obtain ⟨hX1, hC⟩ := hC
  have key : resK P s.f s.h fn.results.toList (fun vs => ∃ σ, fitV σ (single vs) t /\ fitH σ s.h h' /\ σ.length = n' /\ (apartL σ && pfx m σ) = true) -> ∃ u, (results fn a.tmps).run P W' = .ok u W' /\ (∃ u' k', Ending.returned u = .returned u' /\ VX k' t u' /\ Af k n m W k' h' n' W') := fun hC => by
    obtain ⟨vs', u, ⟨σ, g1, g2, g3, g4⟩, h2, h3⟩ := results_run Rs.fr (fun m => Rs.hr.all Rs.nn m) hC
    rw [Bool.and_eq_true] at g4
    obtain ⟨g4, g5⟩ := g4
    have hr0 : ∀ r, HR k1 s.h W' r := fun r => Rs.hr.all Rs.nn r
    have kyf : Ky (ren σ k1) h' n' W' := by
      rw [← g3]
      have rep : ∀ (j i : Nat), σ[j]? = some i -> tb (2 ^ (σ.foldl max 0 + 1) - 1) i := fun j i hj => by
        unfold tb
        rw [Nat.testBit_two_pow_sub_one]
        have : ∀ (l : List Nat) (a x : Nat), (x ∈ l ∨ x <= a) -> x <= l.foldl max a := by
          intro l
          induction l with
          | nil => intro a x hx; rcases hx with hx | hx; cases hx; exact hx
          | cons y l ih => intro a x hx; refine ih _ _ ?_; rcases hx with hx | hx
                           · rcases List.mem_cons.1 hx with rfl | hx
                             · exact Or.inr (Nat.le_max_right _ _)
                             · exact Or.inl hx
                           · exact Or.inr (Nat.le_trans hx (Nat.le_max_left _ _))
        have := this σ 0 i (Or.inl (List.mem_of_getElem? hj))
        simp; omega
      exact ky_ren (hr0 _) rep g2 g4
    refine ⟨u, h3, u, ren σ k1, rfl, g1 k1 u h2, kyf, fun i hi => ?_, fun i b z hk => ?_, fun b hb hj => ?_, ?_, Rs.am.old.os, ⟨Rs.am.old.tape, Rs.am.dr, Rs.am.ty⟩, Rs.am.old.output⟩
    · obtain ⟨b, z, hk, _⟩ := hks i (Nat.lt_of_lt_of_le hi hmn')
      rw [ren_at (pfx_at g5 i hi), Rs.am.kp i hi]
      show some ((k i).getD (0, 0)) = k i
      rw [hk]; rfl
    · obtain ⟨i0, _, hk0⟩ := ren_some hk
      rcases Nat.lt_or_ge b W.heap.size with h7 | h7
      · refine Or.inr (Classical.byContradiction fun hne => ?_)
        have hno : ¬ isO b := fun ⟨j, z', h8, h9⟩ => hne ⟨j, z', h8, h9⟩
        have h8 : W.heap[b]? = some W.heap[b] := Array.getElem?_eq_getElem h7
        have := Rs.am.out i0 b _ hk0 _ (by rw [hX1, hXo b hno]; exact h8)
        rw [hX1] at this
        exact hN' b _ h8 this
      · exact Or.inl h7
    · have hno : ¬ isO b := fun ⟨j, z', h8, h9⟩ => hj j z' h8 h9
      have h8 : W.heap[b]? = some W.heap[b] := Array.getElem?_eq_getElem hb
      rw [h8]
      refine Rs.am.see b _ (by rw [hX1, hXo b hno]; exact h8) ?_
      rw [hX1]; exact hN' b _ h8
    · have := Rs.am.sz
      rw [hX1, hXs] at this; exact this
  cases e with
  | normal => obtain ⟨u, h1, h2⟩ := key hC; exact ⟨Rs.fr.df, u, h1, h2⟩
  | ret => obtain ⟨u, h1, h2⟩ := key hC; exact ⟨Rs.fr.df, u, h1, h2⟩
  | _ => exact hC.elim
theorem fn_c {X : World} {f : FuncId} {fn : Func} {c : Code} {h h' : HT} {n m n' : Nat} {t : Value} (vs : List Value) (hf : P.funcs[f]? = some fn) (hb : fn.body = some c) (hm : Nat.ble vs.length fn.ntmps = true) (hfull : full h n = true) (hmn : Nat.ble m n = true)
    (H : ∀ w l tw X', Xf X' X -> WC P ⟨w, m, l, tw⟩ c ⟨⟨fn.ntmps, argl 0 vs⟩, h, n, X'⟩ (retC P fn X' m t h' n')) : Ctr P X f vs h n m t h' n' :=
  fun W k => fn_c1 (W := W) (k := k) vs hf hb hm hfull hmn fun w l X' hX _ => H w l W X' hX
theorem fn_cT {T N : Nat} {X : World} {f : FuncId} {fn : Func} {c : Code} {h h' : HT} {n m n' : Nat} {t : Value} (vs : List Value) (hf : P.funcs[f]? = some fn) (hb : fn.body = some c) (hm : Nat.ble vs.length fn.ntmps = true) (hfull : full h n = true) (hmn : Nat.ble m n = true) (hm1 : Nat.blt 0 m = true)
    (H : ∀ w l tw X', Xf X' X -> TyB T N l tw -> WC P ⟨w, m, l, tw⟩ c ⟨⟨fn.ntmps, argl 0 vs⟩, h, n, X'⟩ (retC P fn X' m t h' n')) : CtrT P T N X f vs h n m t h' n' :=
  fun W k hT => fn_c1 (W := W) (k := k) vs hf hb hm hfull hmn fun w l X' hX hl => H w l W X' hX (hT (l 0).1 (l 0).2 (hl 0 (by rw [Nat.blt_eq] at hm1; exact hm1)))
end
def unV (τ : List Nat) (t u : Value) : Prop := ∀ k w, VX (ren τ k) t w -> VX k u w
def unL (τ : List Nat) : List Value -> List Value -> Prop
  | [], l => l = []
  | v :: vs, l => ∃ u us, l = u :: us /\ unV τ v u /\ unL τ vs us
def unH (τ : List Nat) (h : HT) : Nat -> List (Option (List Value)) -> Prop
  | _, [] => True
  | j, c :: l => (match c with
    | none => True
    | some cc => match hget h j with
      | some cs => unL τ cs cc
      | none => False) /\ unH τ h (j + 1) l
def setsH (h : HT) : List (Nat × Option (List Value)) -> HT
  | [] => h
  | p :: l => hs12 (setsH h l) p.1 p.2
def mskL (h : HT) : List Nat -> HT
  | [] => h
  | i :: l => msk (mskL h l) i
def bitsL : List Nat -> Nat
  | [] => 0
  | i :: l => Nat.lor (bit i) (bitsL l)
def upto : Nat -> Nat -> List Nat
  | _, 0 => []
  | i, m + 1 => i :: upto (i + 1) m
theorem upto_at : ∀ (m i j x : Nat), (upto i m)[j]? = some x ↔ x = i + j /\ j < m
  | 0, i, j, x => by simp [upto]
  | m + 1, i, 0, x => by simp [upto]; exact ⟨fun h => h.symm, fun h => h.symm⟩
  | m + 1, i, j + 1, x => by
    show (upto (i + 1) m)[j]? = some x ↔ _
    rw [upto_at m (i + 1) j x]
    omega
theorem upto_mem {m i x : Nat} : x ∈ upto i m ↔ i <= x /\ x < i + m := by
  rw [List.mem_iff_getElem?]
  constructor
  · rintro ⟨j, h⟩; have := (upto_at m i j x).1 h; omega
  · intro h; exact ⟨x - i, (upto_at m i (x - i) x).2 (by omega)⟩
theorem upto_len : ∀ m i : Nat, (upto i m).length = m
  | 0, _ => rfl
  | m + 1, i => by simp [upto, upto_len m (i + 1)]
theorem tb_bitsL {i : Nat} : ∀ {l : List Nat}, tb (bitsL l) i ↔ i ∈ l
  | [] => ⟨fun h => absurd h tb_zero, fun h => by cases h⟩
  | x :: l => by
    simp only [bitsL, tb_or, tb_bit, tb_bitsL (l := l), List.mem_cons]
    exact ⟨fun h => h.imp Eq.symm id, fun h => h.imp Eq.symm id⟩
theorem hget_mskL (h : HT) (i : Nat) : ∀ l, hget (mskL h l) i = hget h i
  | [] => rfl
  | x :: l => by simp only [mskL, hget_msk, hget_mskL h i l]
theorem sets_get {h : HT} {i : Nat} : ∀ {l : List (Nat × Option (List Value))}, (∀ p ∈ l, p.1 < 4096) -> (∃ c, (i, c) ∈ l /\ hget (setsH h l) i = c) ∨ ((∀ c, (i, c) ∉ l) /\ hget (setsH h l) i = hget h i)
  | [], _ => Or.inr ⟨fun c h => (by cases h), rfl⟩
  | p :: l, hl => by
    have hp := hl p (by simp)
    by_cases e : p.1 = i
    · subst e; exact Or.inl ⟨p.2, by simp, hget_same _ hp⟩
    · rcases sets_get (h := h) (i := i) (l := l) (fun q hq => hl q (by simp [hq])) with ⟨c, h1, h2⟩ | ⟨h1, h2⟩
      · exact Or.inl ⟨c, by simp [h1], by simp only [setsH]; rw [hget_ne _ hp e]; exact h2⟩
      · refine Or.inr ⟨fun c hc => ?_, by simp only [setsH]; rw [hget_ne _ hp e]; exact h2⟩
        rcases List.mem_cons.1 hc with rfl | hc
        · exact e rfl
        · exact h1 c hc
theorem unH_get {τ : List Nat} {h : HT} : ∀ {l : List (Option (List Value))} {j0 j : Nat} {cc : List Value}, unH τ h j0 l -> l[j]? = some (some cc) -> ∃ cs, hget h (j0 + j) = some cs /\ unL τ cs cc
  | [], _, _, _, _, e => by cases e
  | c :: l, j0, j, cc, hu, e => by
    cases j with
    | zero =>
      simp at e; subst e
      have h1 := hu.1
      simp only at h1
      split at h1
      · rename_i cs hcs; exact ⟨cs, hcs, h1⟩
      · exact h1.elim
    | succ j =>
      obtain ⟨cs, h1, h2⟩ := unH_get hu.2 (j := j) (cc := cc) (by simpa using e)
      exact ⟨cs, by rw [show j0 + (j + 1) = j0 + 1 + j by omega]; exact h1, h2⟩
theorem unL_rel {τ : List Nat} {k : K} : ∀ {cs cc us : List Value}, unL τ cs cc -> LR (VX (ren τ k)) cs us -> LR (VX k) cc us
  | [], _, _, e, r => by rw [e]; exact r
  | v :: vs, _, _, ⟨u, us, e, h1, h2⟩, ⟨w, ws, e', r, q⟩ => by rw [e]; exact ⟨w, ws, e', h1 k w r, unL_rel h2 q⟩
section
variable {P : Program} {w0 : B0} {X : World} {o : Oper} {fr : FT} {hc : HT} {nc : Nat}
theorem r_c1 {f : FuncId} {fn : Func} {y : Operand} {xs : Array Operand} {ts : Array TypeId} {ca : Array Value} {vs : List Value} {h h' : HT} {n m n' : Nat} {t tc : Value} (σ : List Nat) (cl : List (Option (List Value))) (ms : List Nat)
    (ho : o.op = .call { callee := .value y, args := xs, argTypes := ts }) (hy : evo fr y = .func (.func f) #[] ca) (hctr : ∀ (W : World) (k : K), Am w0 X k W -> Cb P X f vs h n m t h' n' W (ren σ k)) (ha : fitL σ (evl fr xs.toList ++ ca.toList) vs) (hh : fitH σ hc h) (ht : unV (σ.take m ++ upto nc (n' - m)) t tc) (hu : unH (σ.take m ++ upto nc (n' - m)) h' 0 cl)
    (hf : P.funcs[f]? = some fn := by rfl) (hb : callB fn = true := by rfl)
    (hck : (apartL σ && full h n && Nat.beq σ.length n && Nat.beq cl.length n' && Nat.ble m n && Nat.ble m n' && Nat.ble (nc + (n' - m)) 4096 && σ.all (Nat.blt · nc)) = true := by rfl) :
    Oa (Am w0 X) P o fr hc nc ⟨tc, mskL (setsH hc ((σ.take m ++ upto nc (n' - m)).zip cl ++ (σ.drop m).map (fun i => (i, none)))) ms, nc + (n' - m), bitsL σ, bitsL (σ ++ upto nc (n' - m))⟩ := by
  simp only [Bool.and_eq_true, Nat.beq_eq, Nat.ble_eq, List.all_eq_true, Nat.blt_eq] at hck
  obtain ⟨⟨⟨⟨⟨⟨⟨hap, hfull⟩, hσ⟩, hcl⟩, hmn⟩, hmn'⟩, h4⟩, hlt⟩ := hck
  generalize hτ : σ.take m ++ upto nc (n' - m) = τ at *
  have τat : ∀ (j i : Nat), τ[j]? = some i ↔ (j < m /\ σ[j]? = some i) ∨ (m <= j /\ j < n' /\ i = nc + (j - m)) := fun j i => by
    rw [← hτ]
    have hl : (σ.take m).length = m := by rw [List.length_take]; omega
    by_cases hj : j < m
    · rw [List.getElem?_append_left (by omega), List.getElem?_take, if_pos hj]
      exact ⟨fun h => Or.inl ⟨hj, h⟩, fun h => by rcases h with h | h; exact h.2; omega⟩
    · rw [List.getElem?_append_right (by omega), hl, upto_at]
      constructor
      · rintro ⟨h1, h2⟩; exact Or.inr ⟨by omega, by omega, h1⟩
      · rintro (h | ⟨h1, h2, h3⟩)
        · omega
        · exact ⟨h3, by omega⟩
  have τlen : τ.length = n' := by rw [← hτ]; simp [upto_len]; omega
  have σlt : ∀ (j i : Nat), σ[j]? = some i -> i < nc := fun j i h => hlt i (List.mem_of_getElem? h)
  generalize hups : τ.zip cl ++ (σ.drop m).map (fun i => (i, none)) = ups
  have upl : ∀ p ∈ ups, p.1 < 4096 := fun p hp => by
    rw [← hups] at hp
    rcases List.mem_append.1 hp with hp | hp
    · have h1 := (List.of_mem_zip hp).1
      obtain ⟨j, hj⟩ := List.mem_iff_getElem?.1 h1
      rcases (τat j _).1 hj with ⟨_, h2⟩ | ⟨h2, h3, h5⟩
      · have := σlt j _ h2; omega
      · omega
    · obtain ⟨i, h1, rfl⟩ := List.mem_map.1 hp
      have := hlt i (List.mem_of_mem_drop h1)
      show i < 4096
      omega
  have upk : ∀ i, (i ∈ σ ∨ i ∈ upto nc (n' - m)) -> ∃ c, (i, c) ∈ ups := fun i hi => by
    have inτ : i ∈ τ -> ∃ c, (i, c) ∈ ups := fun h => by
      obtain ⟨j, hj⟩ := List.mem_iff_getElem?.1 h
      have hjl := (List.getElem?_eq_some_iff.1 hj).1
      have hc : cl[j]? = some cl[j] := List.getElem?_eq_getElem (by omega)
      refine ⟨cl[j], ?_⟩
      rw [← hups]
      refine List.mem_append.2 (Or.inl (List.mem_iff_getElem?.2 ⟨j, ?_⟩))
      rw [List.getElem?_zip_eq_some]; exact ⟨hj, hc⟩
    rcases hi with hi | hi
    · rw [← List.take_append_drop m σ] at hi
      rcases List.mem_append.1 hi with hi | hi
      · exact inτ (by rw [← hτ]; exact List.mem_append.2 (Or.inl hi))
      · exact ⟨none, by rw [← hups]; exact List.mem_append.2 (Or.inr (List.mem_map.2 ⟨i, hi, rfl⟩))⟩
    · exact inτ (by rw [← hτ]; exact List.mem_append.2 (Or.inr hi))
  have upi : ∀ i c, (i, c) ∈ ups -> i ∈ σ ∨ i ∈ upto nc (n' - m) := fun i c h => by
    rw [← hups] at h
    rcases List.mem_append.1 h with h | h
    · have h1 := (List.of_mem_zip h).1
      rw [← hτ] at h1
      rcases List.mem_append.1 h1 with h1 | h1
      · exact Or.inl (List.mem_of_mem_take h1)
      · exact Or.inr h1
    · obtain ⟨i', h1, h2⟩ := List.mem_map.1 h
      cases h2
      exact Or.inl (List.mem_of_mem_drop h1)
  have A : ∀ i, ¬ (i ∈ σ ∨ i ∈ upto nc (n' - m)) -> hget (mskL (setsH hc ups) ms) i = hget hc i := fun i hi => by
    rw [hget_mskL]
    rcases sets_get (h := hc) (i := i) upl with ⟨c, h1, _⟩ | ⟨_, h2⟩
    · exact absurd (upi i c h1) hi
    · exact h2
  have B : ∀ i cc, hget (mskL (setsH hc ups) ms) i = some cc -> (i ∈ σ ∨ i ∈ upto nc (n' - m)) -> ∃ (j : Nat) (cs : List Value), τ[j]? = some i /\ hget h' j = some cs /\ unL τ cs cc := fun i cc he hi => by
    rw [hget_mskL] at he
    rcases sets_get (h := hc) (i := i) upl with ⟨c, h1, h2⟩ | ⟨h1, _⟩
    · rw [h2] at he
      subst he
      rw [← hups] at h1
      rcases List.mem_append.1 h1 with h1 | h1
      · obtain ⟨j, hj⟩ := List.mem_iff_getElem?.1 h1
        rw [List.getElem?_zip_eq_some] at hj
        obtain ⟨cs, h3, h5⟩ := unH_get hu hj.2
        rw [Nat.zero_add] at h3
        exact ⟨j, cs, hj.1, h3, h5⟩
      · obtain ⟨i', _, h3⟩ := List.mem_map.1 h1
        cases h3
    · obtain ⟨c, h3⟩ := upk i hi
      exact absurd h3 (h1 c)
  have live0 : ∀ (j i : Nat), σ[j]? = some i -> live hc i := fun j i hj => by
    obtain ⟨cs, hcs⟩ := full_at hfull j (by have := (List.getElem?_eq_some_iff.1 hj).1; omega)
    obtain ⟨i', us, h1, h2, _⟩ := fitH_get hh hcs
    rw [hj] at h1; cases h1
    exact ⟨us, h2⟩
  have wm : ∀ i, tb (bitsL (σ ++ upto nc (n' - m))) i ↔ (i ∈ σ ∨ i ∈ upto nc (n' - m)) := fun i => by rw [tb_bitsL, List.mem_append]
  refine ⟨⟨Nat.le_add_right _ _, fun nn i hi => ?_, fun i hi => A i (fun h => hi ((wm i).2 h)), fun i hi hn => ?_, fun i hi => ?_, fun i hi ⟨cs, hl⟩ => ?_⟩, fun k W a K' Q hA hop H hnew hk => ?_⟩
  · have hi : nc + (n' - m) <= i := hi
    show hget (mskL (setsH hc ups) ms) i = none
    rw [A i (fun h => by rcases h with h | h; have := hlt i h; omega; have := upto_mem.1 h; omega)]; exact nn i (by omega)
  · rcases (wm i).1 hi with h | h
    · exact tb_bitsL.2 h
    · have := upto_mem.1 h; omega
  · show i < nc + (n' - m)
    rcases (wm i).1 hi with h | h
    · have := hlt i h; omega
    · have := upto_mem.1 h; omega
  · by_cases h : i ∈ σ ∨ i ∈ upto nc (n' - m)
    · rcases h with h | h
      · obtain ⟨j, hj⟩ := List.mem_iff_getElem?.1 h; exact live0 j i hj
      · have := upto_mem.1 h; omega
    · have hl : hget (mskL (setsH hc ups) ms) i = some cs := hl
      rw [A i h] at hl; exact ⟨cs, hl⟩
  · have ky : Ky (ren σ k) h n W := by
      have := ky_ren H (fun j i hj => tb_bitsL.2 (List.mem_of_getElem? hj)) hh hap
      rw [hσ] at this; exact this
    have sees : Sees X (ren σ k) W := ⟨hA.see, fun i b z hk => by obtain ⟨i0, _, h1⟩ := ren_some hk; exact hA.out i0 b z h1, hA.sz⟩
    have h4' := hop y (by rw [ho]; simp [Op.operands, Call.operands])
    rw [hy] at h4'
    obtain ⟨fi, c2, h5, h6, h7⟩ := h4'.func_inv
    have h6' : fi = [] := h6
    subst h6'
    have h8 := evl_rel (fr := fr) (k := k) (a := a) xs.toList (fun y hy => hop y (by rw [ho]; simp [Op.operands, Call.operands]; right; simpa using hy))
    have h9 := fitL_rel ha (h8.app h7)
    have hrun : (execOp a.eval o).run P W = .ok (.enter f (xs.toList.map a.eval ++ c2).toArray) W := by
      simp only [execOp, ho, resolve, h5, Deferred.ofValue, invoke, Sem.run_bind, Sem.run_pure, Result.andThen_ok, enter_ok hf hb]
      congr 2
      apply Array.ext'
      simp
    unfold Oper.wp
    rw [hrun, Oper.upon_enter]
    refine (hctr W k hA _ ky sees h9).mono ?_
    rintro e W' ⟨u, k1, rfl, hvx, af⟩
    let k2 : K := fun i => if nc <= i /\ i < nc + (n' - m) then k1 (i - nc + m) else k i
    have kout : ∀ i, ¬ (nc <= i /\ i < nc + (n' - m)) -> k2 i = k i := fun i h => if_neg h
    have kin : ∀ i, nc <= i -> i < nc + (n' - m) -> k2 i = k1 (i - nc + m) := fun i h1 h2 => if_pos ⟨h1, h2⟩
    have hτk : ∀ (j i : Nat), τ[j]? = some i -> k2 i = k1 j := fun j i hj => by
      rcases (τat j i).1 hj with ⟨h1, h2⟩ | ⟨h1, h2, h3⟩
      · rw [kout i (by have := σlt j i h2; omega), af.keep j h1, ren_at h2]
      · rw [kin i (by omega) (by omega)]; congr 1; omega
    have hren : ren τ k2 = k1 := by
      funext j
      cases hj : τ[j]? with
      | none =>
        have : n' <= j := by rw [← τlen]; exact List.getElem?_eq_none_iff.1 hj
        rw [af.ky.nk j this]; unfold ren; rw [hj]; rfl
      | some i => rw [ren_at hj, hτk j i hj]
    have jlt : ∀ (j : Nat) (cs : List Value), hget h' j = some cs -> j < n' := fun j cs h => by
      rcases Nat.lt_or_ge j n' with h' | h'
      · exact h'
      · rw [af.ky.nn j h'] at h; cases h
    refine hk u W' k2 ⟨fun i p hp => ?_, fun i hi => kout i (by have hi : i < nc ∨ nc + (n' - m) <= i := hi; omega), ⟨fun i hi cs hcs => ?_, fun i i' hi hi' li li' hne b z b' z' kb kb' => ?_⟩, fun b hb hj => ?_, fun i b z h1 h2 hl hk2 => ?_, fun D hD hdj i b z hk2 hDb => ?_, af.size, af.os, af.tape, af.output⟩ (ht k2 u (by rw [hren]; exact hvx))
    · rw [kout i (fun h => by rw [hnew i h.1 h.2] at hp; cases hp)]; exact hp
    · have hi' : i ∈ σ ∨ i ∈ upto nc (n' - m) := by
        rcases tb_or.1 hi with h | h
        · exact Or.inl (tb_bitsL.1 h)
        · exact (wm i).1 h
      obtain ⟨j, cs', g1, g2, g3⟩ := B i cs hcs hi'
      refine (af.ky.hr.rep j (tb_ones.2 (jlt j cs' g2)) cs' g2).mono (fun p hp => by rw [hτk j i g1]; exact hp) (fun _ _ _ _ => rfl) (fun us hus => unL_rel g3 (by rw [hren]; exact hus))
    · have mem : ∀ i, tb (Nat.lor (bitsL σ) (bitsL (σ ++ upto nc (n' - m)))) i -> i ∈ σ ∨ i ∈ upto nc (n' - m) := fun i hi => by
        rcases tb_or.1 hi with h | h
        · exact Or.inl (tb_bitsL.1 h)
        · exact (wm i).1 h
      obtain ⟨c1, e1⟩ := li
      obtain ⟨c1', e1'⟩ := li'
      obtain ⟨j, cs, g1, g2, _⟩ := B i c1 e1 (mem i hi)
      obtain ⟨j', cs', g1', g2', _⟩ := B i' c1' e1' (mem i' hi')
      rw [hτk j i g1] at kb
      rw [hτk j' i' g1'] at kb'
      exact af.ky.hr.inj j j' (tb_ones.2 (jlt j cs g2)) (tb_ones.2 (jlt j' cs' g2')) ⟨cs, g2⟩ ⟨cs', g2'⟩ (fun e => hne (by rw [e, g1'] at g1; cases g1; rfl)) b z b' z' kb kb'
    · refine af.frm b hb fun j z hjn hkj => ?_
      obtain ⟨i, g1, g2⟩ := ren_some hkj
      exact hj i z ((wm i).2 (Or.inl (List.mem_of_getElem? g1))) (live0 j i g1) g2
    · rw [kin i h1 h2] at hk2
      rcases af.fresh _ b z hk2 with h | ⟨j, z', hjn, hkj⟩
      · exact Or.inl h
      · obtain ⟨i0, g1, g2⟩ := ren_some hkj
        refine Or.inr ⟨i0, z', (wm i0).2 (Or.inl (List.mem_of_getElem? g1)), σlt j i0 g1, live0 j i0 g1, fun ⟨cc, hcc⟩ => ?_, g2⟩
        obtain ⟨q, cs, q1, q2, _⟩ := B i0 cc hcc (Or.inl (List.mem_of_getElem? g1))
        obtain ⟨cc', hcc'⟩ := hl
        obtain ⟨q', cs', q1', q2', _⟩ := B i cc' hcc' (Or.inr (upto_mem.2 ⟨h1, h2⟩))
        have e0 : k1 q = some (b, z') := by rw [← hτk q i0 q1, kout i0 (by have := σlt j i0 g1; omega)]; exact g2
        have e1 : k1 q' = some (b, z) := by rw [← hτk q' i q1', kin i h1 h2]; exact hk2
        have := σlt j i0 g1
        exact af.ky.hr.inj q q' (tb_ones.2 (jlt q cs q2)) (tb_ones.2 (jlt q' cs' q2')) ⟨cs, q2⟩ ⟨cs', q2'⟩ (fun e => by rw [e, q1'] at q1; cases q1; omega) b z' b z e0 e1 rfl
    · by_cases hr : nc <= i /\ i < nc + (n' - m)
      · rw [kin i hr.1 hr.2] at hk2
        rcases af.fresh _ b z hk2 with h | ⟨j, z', hjn, hkj⟩
        · have := hD _ hDb; omega
        · obtain ⟨i0, _, g2⟩ := ren_some hkj; exact hdj i0 b z' g2 hDb
      · rw [kout i hr] at hk2; exact hdj i b z hk2 hDb
theorem r_c {f : FuncId} {fn : Func} {y : Operand} {xs : Array Operand} {ts : Array TypeId} {ca : Array Value} {vs : List Value} {h h' : HT} {n m n' : Nat} {t tc : Value} (σ : List Nat) (cl : List (Option (List Value))) (ms : List Nat)
    (ho : o.op = .call { callee := .value y, args := xs, argTypes := ts }) (hy : evo fr y = .func (.func f) #[] ca) (hctr : Ctr P X f vs h n m t h' n') (ha : fitL σ (evl fr xs.toList ++ ca.toList) vs) (hh : fitH σ hc h) (ht : unV (σ.take m ++ upto nc (n' - m)) t tc) (hu : unH (σ.take m ++ upto nc (n' - m)) h' 0 cl)
    (hf : P.funcs[f]? = some fn := by rfl) (hb : callB fn = true := by rfl)
    (hck : (apartL σ && full h n && Nat.beq σ.length n && Nat.beq cl.length n' && Nat.ble m n && Nat.ble m n' && Nat.ble (nc + (n' - m)) 4096 && σ.all (Nat.blt · nc)) = true := by rfl) :
    Oa (Am w0 X) P o fr hc nc ⟨tc, mskL (setsH hc ((σ.take m ++ upto nc (n' - m)).zip cl ++ (σ.drop m).map (fun i => (i, none)))) ms, nc + (n' - m), bitsL σ, bitsL (σ ++ upto nc (n' - m))⟩ :=
  r_c1 σ cl ms ho hy (fun W k _ => hctr W (ren σ k)) ha hh ht hu hf hb hck
theorem r_cT {T N : Nat} {f : FuncId} {fn : Func} {y : Operand} {xs : Array Operand} {ts : Array TypeId} {ca : Array Value} {vs : List Value} {h h' : HT} {n m n' : Nat} {t tc : Value} (σ : List Nat) (cl : List (Option (List Value))) (ms : List Nat)
    (ho : o.op = .call { callee := .value y, args := xs, argTypes := ts }) (hy : evo fr y = .func (.func f) #[] ca) (hT : TyB T N w0.l w0.t) (hctr : CtrT P T N X f vs h n m t h' n') (ha : fitL σ (evl fr xs.toList ++ ca.toList) vs) (hh : fitH σ hc h) (ht : unV (σ.take m ++ upto nc (n' - m)) t tc) (hu : unH (σ.take m ++ upto nc (n' - m)) h' 0 cl)
    (hf : P.funcs[f]? = some fn := by rfl) (hm0 : Nat.blt 0 w0.m = true := by rfl) (hσ0 : σ[0]? = some 0 := by rfl) (hb : callB fn = true := by rfl)
    (hck : (apartL σ && full h n && Nat.beq σ.length n && Nat.beq cl.length n' && Nat.ble m n && Nat.ble m n' && Nat.ble (nc + (n' - m)) 4096 && σ.all (Nat.blt · nc)) = true := by rfl) :
    Oa (Am w0 X) P o fr hc nc ⟨tc, mskL (setsH hc ((σ.take m ++ upto nc (n' - m)).zip cl ++ (σ.drop m).map (fun i => (i, none)))) ms, nc + (n' - m), bitsL σ, bitsL (σ ++ upto nc (n' - m))⟩ :=
  r_c1 σ cl ms ho hy (fun W k hA => hctr W (ren σ k) (fun b z hk => by
    rw [ren_at hσ0, hA.kp 0 (by rw [Nat.blt_eq] at hm0; exact hm0)] at hk
    obtain ⟨cs, fz, h1, h2⟩ := hT
    obtain ⟨cs', fz', h3, h4⟩ := hA.ty _ cs T fz h1
    have : (w0.l 0).1 = b := by rw [Option.some.inj hk]
    rw [this] at h3
    exact ⟨cs', fz', h3, h4.trans h2⟩)) ha hh ht hu hf hb hck
end
end S
end Go.Proofs.YtpabcmaeaiaknaaGreatDoor
namespace Go.Proofs.YtpabcmaeaiaknaaGreatDoor
namespace S
theorem fitL_cons {σ : List Nat} {u v : Value} {us vs : List Value} (h : fitV σ u v) (hs : fitL σ us vs) : fitL σ (u :: us) (v :: vs) := ⟨v, vs, rfl, h, hs⟩
theorem ff {σ : List Nat} {f : Fn} {l m : List Value} (h : fitL σ l m) : fitV σ (.func f #[] l.toArray) (.func f #[] m.toArray) := fun k w hw => by
  obtain ⟨a, c, rfl, h1, h2⟩ := hw.func_inv
  have e1 : a = [] := h1
  subst e1
  exact VX.func (fitL_rel h h2)
theorem fr {σ : List Nat} {l m : List Value} (h : fitL σ l m) : fitV σ (.agg l.toArray) (.agg m.toArray) := fun k w hw => by
  obtain ⟨us, rfl, h2⟩ := hw.agg_inv
  exact VX.agg (fitL_rel h h2)
theorem uv {τ : List Nat} {u v : Value} (h : u = v := by rfl) (hp : pur v = true := by rfl) : unV τ u v := fun k w hw => by
  subst h; rw [pur_eq hw hp]; exact pur_vx hp
theorem us {τ : List Nat} {i j q len es : Nat} (h : τ[j]? = some i := by rfl) : unV τ (.slice (some ⟨j, q, none⟩) len es) (.slice (some ⟨i, q, none⟩) len es) := fun k w hw => by
  obtain ⟨h1, b, z, c, h2, h3⟩ := hw.slc_inv
  exact VX.of0 ⟨h1, b, z, c, by rw [← ren_at (k := k) h]; exact h2, h3⟩
theorem up {τ : List Nat} {i j q : Nat} (h : τ[j]? = some i := by rfl) : unV τ (.pointer (some ⟨j, q, none⟩)) (.pointer (some ⟨i, q, none⟩)) := fun k w hw => by
  obtain ⟨h1, b, z, h2, h3⟩ := hw.ptr_inv
  exact VX.of0 ⟨h1, b, z, by rw [← ren_at (k := k) h]; exact h2, h3⟩
theorem unL_cons {τ : List Nat} {u v : Value} {us vs : List Value} (h : unV τ u v) (hs : unL τ us vs) : unL τ (u :: us) (v :: vs) := ⟨v, vs, rfl, h, hs⟩
theorem ul {τ : List Nat} {us cs : List Value} (h : us = cs) (hp : cs.all pur1 = true) : unL τ us cs := by
  subst h
  induction us with
  | nil => rfl
  | cons u us ih =>
    simp only [List.all_cons, Bool.and_eq_true] at hp
    exact ⟨u, us, rfl, fun k w hw => by rw [pur1_eq hw hp.1]; exact pur1_vx hp.1, ih hp.2⟩
theorem born_push {es : Array MapEntry} {k v : Value} (h : ∀ (j : Nat) (e : MapEntry), es[j]? = some e -> e.born = j) (j : Nat) (e : MapEntry) (he : (es.push { key := k, val := v, born := es.size })[j]? = some e) : e.born = j := by
  rw [Array.getElem?_push] at he
  split at he
  · rename_i hj; cases he; exact hj.symm
  · exact h j e he
theorem born_mod {es : Array MapEntry} {i : Nat} {f : MapEntry -> MapEntry} (h : ∀ (j : Nat) (e : MapEntry), es[j]? = some e -> e.born = j) (hf : ∀ e, (f e).born = e.born) (j : Nat) (e : MapEntry) (he : (es.modify i f)[j]? = some e) : e.born = j := by
  rw [Array.getElem?_modify] at he
  cases hj : es[j]? with
  | none => rw [hj] at he; split at he <;> cases he
  | some e0 =>
    rw [hj] at he
    have := h j e0 hj
    split at he
    · simp at he; rw [← he, hf]; exact this
    · cases he; exact this
theorem ft0 {σ : List Nat} : fitV σ (.tuple #[]) (.tuple #[]) := fun k w hw => by
  obtain ⟨us, rfl, h2⟩ := hw.tuple_inv
  have e : us = [] := h2
  subst e
  exact undef_vx
theorem ut0 {τ : List Nat} : unV τ (.tuple #[]) (.tuple #[]) := fun k w hw => by
  obtain ⟨us, rfl, h2⟩ := hw.tuple_inv
  have e : us = [] := h2
  subst e
  exact undef_vx
end S
end Go.Proofs.YtpabcmaeaiaknaaGreatDoor
namespace Go.Proofs.YtpabcmaeaiaknaaGreatDoor
open S
theorem mo : Tryz.prog.follows .mixedOrders = true := rfl
theorem wz {x : Int} (n : Nat) (h : x = (n : Int) := by omega) (hb : n < 9223372036854775808 := by omega) : IntKind.i64.wrap x = (n : Int) := by rw [h, IntKind.wrap_i64]; omega
theorem wi {x : Int} (h : -9223372036854775808 <= x /\ x < 9223372036854775808 := by omega) : IntKind.i64.wrap x = x := by rw [IntKind.wrap_i64]; omega
def ltr (b : Int) : Bool := decide (97 <= b /\ b <= 122 ∨ 65 <= b /\ b <= 90 ∨ b = 95)
def dgt (b : Int) : Bool := decide (48 <= b /\ b <= 57)
set_option maxRecDepth 20000 in
theorem p_ltr {b : Int} {r : Bool} (hr : ltr b = r) (w : World) : Calls Tryz.prog 187 #[.int .u8 b] w fun e W => e = .returned (.bool r) /\ Mb w W := by
  subst hr
  refine fn_pure [.int .u8 b] Tryz.func187 rfl rfl rfl (run_ok (st mo ?_))
  repeat' (first | refine ⟨fun _ => ?_, fun _ => ?_⟩ | refine st mo ?_)
  all_goals (show _ = _; unfold ltr; congr 1; first | exact decide_eq_true (by omega) | exact decide_eq_false (by omega))
set_option maxRecDepth 20000 in
theorem p_dgt {b : Int} {r : Bool} (hr : dgt b = r) (w : World) : Calls Tryz.prog 188 #[.int .u8 b] w fun e W => e = .returned (.bool r) /\ Mb w W := by
  subst hr
  refine fn_pure [.int .u8 b] Tryz.func188 rfl rfl rfl (run_ok (st mo ?_))
  repeat' (first | refine ⟨fun _ => ?_, fun _ => ?_⟩ | refine st mo ?_)
  all_goals (show _ = _; unfold dgt; congr 1; first | exact decide_eq_true (by omega) | exact decide_eq_false (by omega))
set_option maxRecDepth 20000 in
theorem q_ltr {b : Int} {r : Bool} (hr : ltr b = r) (w : World) : Calls Tryz.prog 115 #[.int .u8 b] w fun e W => e = .returned (.bool r) /\ Mb w W := by
  subst hr
  refine fn_pure [.int .u8 b] Tryz.func115 rfl rfl rfl (run_ok (st mo ?_))
  repeat' (first | refine ⟨fun _ => ?_, fun _ => ?_⟩ | refine st mo ?_)
  all_goals (show _ = _; unfold ltr; congr 1; first | exact decide_eq_true (by omega) | exact decide_eq_false (by omega))
set_option maxRecDepth 20000 in
theorem q_dgt {b : Int} {r : Bool} (hr : dgt b = r) (w : World) : Calls Tryz.prog 118 #[.int .u8 b] w fun e W => e = .returned (.bool r) /\ Mb w W := by
  subst hr
  refine fn_pure [.int .u8 b] Tryz.func118 rfl rfl rfl (run_ok (st mo ?_))
  repeat' (first | refine ⟨fun _ => ?_, fun _ => ?_⟩ | refine st mo ?_)
  all_goals (show _ = _; unfold dgt; congr 1; first | exact decide_eq_true (by omega) | exact decide_eq_false (by omega))
abbrev E0 : ByteArray := ⟨#[]⟩
def byt (s : ByteArray) (i : Nat) : Int := match s[i]? with
  | some b => (b.toNat : Int)
  | none => 0
def wrd (b : Int) : Bool := ltr b || dgt b
def nam (s : ByteArray) : Bool := decide (s.size ≠ 0 /\ s.size <= 32 /\ ltr (byt s 0) = true /\ ∀ i, i < s.size -> wrd (byt s i) = true)
theorem byt_some {s : ByteArray} {i : Nat} {b : UInt8} (h : s[i]? = some b) : (b.toNat : Int) = byt s i := by unfold byt; rw [h]
theorem byt_at {s : ByteArray} {i : Nat} (h : i < s.size) : ∃ b, s[i]? = some b /\ (b.toNat : Int) = byt s i := ⟨_, getElem?_pos s i h, byt_some (getElem?_pos s i h)⟩
theorem byt_bd (s : ByteArray) (i : Nat) : 0 <= byt s i /\ byt s i < 256 := by
  unfold byt
  split
  · rename_i b _; have := b.toNat_lt; omega
  · omega
theorem size0 {s : ByteArray} : s.size = 0 ↔ s = E0 := by
  constructor
  · intro h; cases s with | mk d => congr 1; exact Array.eq_empty_of_size_eq_zero h
  · intro h; rw [h]; rfl
set_option maxRecDepth 20000 in
theorem p_name (s : ByteArray) (hs : s.size < 9223372036854775807) (w : World) : Calls Tryz.prog 135 #[.string s] w fun e W => e = .returned (.bool (nam s)) /\ Mb w W := by
  have no : ¬ (s.size ≠ 0 /\ s.size <= 32 /\ ltr (byt s 0) = true /\ ∀ i, i < s.size -> wrd (byt s i) = true) -> nam s = false := fun h => decide_eq_false h
  refine fn_pure [.string s] Tryz.func135 rfl rfl rfl (run_ok (st mo ?_))
  refine ⟨fun h => ?_, fun h => ?_⟩
  · (repeat refine st mo ?_); show _ = _; rw [no fun a => a.1 (size0.2 h)]
  repeat refine st mo ?_
  refine ⟨fun h2 => ?_, fun h2 => ?_⟩
  · (repeat refine st mo ?_); show _ = _; rw [no fun a => by have := a.2.1; omega]
  repeat refine st mo ?_
  have h0 : 0 < s.size := Nat.pos_of_ne_zero fun e => h (size0.1 e)
  obtain ⟨b, hb, hbe⟩ := byt_at h0
  cases hl : ltr (byt s 0) with
  | false =>
    refine ⟨0, b, rfl, hb, st mo ⟨_, fun _ => r_call (t := litF) rfl rfl Tryz.func187 (fun W M E => p_ltr (hbe.symm ▸ hl) W), ?_⟩⟩
    (repeat refine st mo ?_); show _ = _; rw [no fun a => by rw [hl] at a; cases a.2.2.1]
  | true =>
  refine ⟨0, b, rfl, hb, st mo ⟨_, fun _ => r_call (t := litT) rfl rfl Tryz.func187 (fun W M E => p_ltr (hbe.symm ▸ hl) W), ?_⟩⟩
  repeat refine st mo ?_
  refine w_loop (fun i : Nat => ⟨⟨35, [(0, .string s), (18, .int .i64 (s.size : Int)), (19, .int .i64 (i : Int))]⟩, [], 0, w⟩) (fun i => i <= s.size /\ ∀ j, j < i -> wrd (byt s j) = true) (fun i => s.size - i) 0 ⟨by omega, fun j hj => by omega⟩ [] ⟨rfl, ⟨fv, fv, fv, trivial⟩, trivial, xf, rfl, rfl⟩ ?_
  intro i hi
  repeat refine st mo ?_
  refine ⟨fun hlt => ?_, fun hge => ?_⟩
  · repeat refine st mo ?_
    have hil : i < s.size := by omega
    obtain ⟨c, hc, hce⟩ := byt_at hil
    have on : wrd (byt s i) = true -> ∀ j, j < i + 1 -> wrd (byt s j) = true := fun h j hj => by
      rcases Nat.lt_succ_iff_lt_or_eq.1 hj with h1 | h1
      · exact hi.2 j h1
      · rw [h1]; exact h
    cases h1 : ltr (byt s i) with
    | true =>
      refine ⟨i, c, rfl, hc, st mo ⟨_, fun _ => r_call (t := litT) rfl rfl Tryz.func187 (fun W M E => p_ltr (hce.symm ▸ h1) W), st mo ⟨_, wz (i + 1) rfl, st mo ?_⟩⟩⟩
      exact ⟨i + 1, ⟨hil, on (by unfold wrd; rw [h1]; rfl)⟩, by dsimp; omega, [], rfl, ⟨fv, fv, fv, trivial⟩, trivial, xf, rfl, rfl⟩
    | false =>
      refine ⟨i, c, rfl, hc, st mo ⟨_, fun _ => r_call (t := litF) rfl rfl Tryz.func187 (fun W M E => p_ltr (hce.symm ▸ h1) W), st mo ?_⟩⟩
      cases h2 : dgt (byt s i) with
      | true =>
        refine ⟨i, c, rfl, hc, st mo ⟨_, fun _ => r_call (t := litT) rfl rfl Tryz.func188 (fun W M E => p_dgt (hce.symm ▸ h2) W), st mo ⟨_, wz (i + 1) rfl, st mo ?_⟩⟩⟩
        exact ⟨i + 1, ⟨hil, on (by unfold wrd; rw [h1, h2]; rfl)⟩, by dsimp; omega, [], rfl, ⟨fv, fv, fv, trivial⟩, trivial, xf, rfl, rfl⟩
      | false =>
        refine ⟨i, c, rfl, hc, st mo ⟨_, fun _ => r_call (t := litF) rfl rfl Tryz.func188 (fun W M E => p_dgt (hce.symm ▸ h2) W), st mo ?_⟩⟩
        show _ = _; rw [no fun a => by have := a.2.2.2 i hil; unfold wrd at this; rw [h1, h2] at this; cases this]
  · repeat refine st mo ?_
    show _ = _
    have : i = s.size := by omega
    subst this
    rw [show nam s = true from decide_eq_true ⟨by omega, by omega, hl, hi.2⟩]
set_option maxRecDepth 20000 in
theorem q_name (s : ByteArray) (hs : s.size < 9223372036854775807) (w : World) : Calls Tryz.prog 117 #[.string s] w fun e W => e = .returned (.bool (nam s)) /\ Mb w W := by
  have no : ¬ (s.size ≠ 0 /\ s.size <= 32 /\ ltr (byt s 0) = true /\ ∀ i, i < s.size -> wrd (byt s i) = true) -> nam s = false := fun h => decide_eq_false h
  refine fn_pure [.string s] Tryz.func117 rfl rfl rfl (run_ok (st mo ?_))
  refine ⟨fun h => ?_, fun h => ?_⟩
  · (repeat refine st mo ?_); show _ = _; rw [no fun a => a.1 (size0.2 h)]
  repeat refine st mo ?_
  refine ⟨fun h2 => ?_, fun h2 => ?_⟩
  · (repeat refine st mo ?_); show _ = _; rw [no fun a => by have := a.2.1; omega]
  repeat refine st mo ?_
  have h0 : 0 < s.size := Nat.pos_of_ne_zero fun e => h (size0.1 e)
  obtain ⟨b, hb, hbe⟩ := byt_at h0
  cases hl : ltr (byt s 0) with
  | false =>
    refine ⟨0, b, rfl, hb, st mo ⟨_, fun _ => r_call (t := litF) rfl rfl Tryz.func115 (fun W M E => q_ltr (hbe.symm ▸ hl) W), ?_⟩⟩
    (repeat refine st mo ?_); show _ = _; rw [no fun a => by rw [hl] at a; cases a.2.2.1]
  | true =>
  refine ⟨0, b, rfl, hb, st mo ⟨_, fun _ => r_call (t := litT) rfl rfl Tryz.func115 (fun W M E => q_ltr (hbe.symm ▸ hl) W), ?_⟩⟩
  repeat refine st mo ?_
  refine w_loop (fun i : Nat => ⟨⟨35, [(0, .string s), (3, .int .i64 (i : Int))]⟩, [], 0, w⟩) (fun i => i <= s.size /\ ∀ j, j < i -> wrd (byt s j) = true) (fun i => s.size - i) 0 ⟨by omega, fun j hj => by omega⟩ [] ⟨rfl, ⟨fv, fv, trivial⟩, trivial, xf, rfl, rfl⟩ ?_
  intro i hi
  repeat refine st mo ?_
  refine ⟨fun hlt => ?_, fun hge => ?_⟩
  · repeat refine st mo ?_
    have hil : i < s.size := by omega
    obtain ⟨c, hc, hce⟩ := byt_at hil
    have on : wrd (byt s i) = true -> ∀ j, j < i + 1 -> wrd (byt s j) = true := fun h j hj => by
      rcases Nat.lt_succ_iff_lt_or_eq.1 hj with h1 | h1
      · exact hi.2 j h1
      · rw [h1]; exact h
    cases h1 : ltr (byt s i) with
    | true =>
      refine ⟨i, c, rfl, hc, st mo ⟨_, fun _ => r_call (t := litT) rfl rfl Tryz.func115 (fun W M E => q_ltr (hce.symm ▸ h1) W), st mo ⟨_, wz (i + 1) rfl, st mo ?_⟩⟩⟩
      exact ⟨i + 1, ⟨hil, on (by unfold wrd; rw [h1]; rfl)⟩, by dsimp; omega, [], rfl, ⟨fv, fv, trivial⟩, trivial, xf, rfl, rfl⟩
    | false =>
      refine ⟨i, c, rfl, hc, st mo ⟨_, fun _ => r_call (t := litF) rfl rfl Tryz.func115 (fun W M E => q_ltr (hce.symm ▸ h1) W), st mo ?_⟩⟩
      cases h2 : dgt (byt s i) with
      | true =>
        refine ⟨i, c, rfl, hc, st mo ⟨_, fun _ => r_call (t := litT) rfl rfl Tryz.func118 (fun W M E => q_dgt (hce.symm ▸ h2) W), st mo ⟨_, wz (i + 1) rfl, st mo ?_⟩⟩⟩
        exact ⟨i + 1, ⟨hil, on (by unfold wrd; rw [h1, h2]; rfl)⟩, by dsimp; omega, [], rfl, ⟨fv, fv, trivial⟩, trivial, xf, rfl, rfl⟩
      | false =>
        refine ⟨i, c, rfl, hc, st mo ⟨_, fun _ => r_call (t := litF) rfl rfl Tryz.func118 (fun W M E => q_dgt (hce.symm ▸ h2) W), st mo ?_⟩⟩
        show _ = _; rw [no fun a => by have := a.2.2.2 i hil; unfold wrd at this; rw [h1, h2] at this; cases this]
  · repeat refine st mo ?_
    show _ = _
    have : i = s.size := by omega
    subst this
    rw [show nam s = true from decide_eq_true ⟨by omega, by omega, hl, hi.2⟩]
def wds : List ByteArray := [⟨#[114, 101, 116, 117, 114, 110]⟩, ⟨#[102, 105, 101, 108, 100]⟩, ⟨#[108, 105, 110, 101]⟩, ⟨#[99, 104, 101, 99, 107]⟩, ⟨#[115, 101, 99, 116, 105, 111, 110]⟩, ⟨#[116, 97, 98, 108, 101]⟩, ⟨#[112, 97, 103, 101]⟩, ⟨#[119, 104, 101, 110]⟩, ⟨#[109, 97, 120]⟩, ⟨#[102, 114, 111, 109]⟩, ⟨#[98, 97, 115, 101]⟩, ⟨#[114, 97, 116, 101]⟩, ⟨#[110, 101, 101, 100, 101, 100]⟩, ⟨#[97, 109, 111, 117, 110, 116]⟩, ⟨#[102, 108, 97, 103]⟩, ⟨#[116, 101, 120, 116]⟩, ⟨#[105, 102]⟩, ⟨#[114, 111, 117, 110, 100]⟩, ⟨#[98, 108, 97, 110, 107]⟩, ⟨#[114, 111, 119, 115]⟩, ⟨#[115, 117, 109]⟩, ⟨#[99, 111, 117, 110, 116]⟩, ⟨#[109, 105, 110]⟩, ⟨#[97, 110, 100]⟩, ⟨#[111, 114]⟩, ⟨#[110, 111, 116]⟩, ⟨#[116, 114, 117, 101]⟩, ⟨#[102, 97, 108, 115, 101]⟩, ⟨#[104, 97, 108, 102, 95, 117, 112]⟩, ⟨#[104, 97, 108, 102, 95, 101, 118, 101, 110]⟩, ⟨#[100, 111, 119, 110]⟩, ⟨#[117, 112]⟩, ⟨#[102, 108, 111, 111, 114]⟩]
def own (s : ByteArray) : Bool := wds.any fun x => decide (x = s)
theorem own_t {s : ByteArray} (h : s ∈ wds) : own s = true := List.any_eq_true.2 ⟨s, h, decide_eq_true rfl⟩
theorem own_f {s : ByteArray} (h : s ∉ wds) : own s = false := by
  cases e : own s with
  | false => rfl
  | true =>
    obtain ⟨x, hx, he⟩ := List.any_eq_true.1 e
    exact absurd (of_decide_eq_true he ▸ hx) h
def fre (s : ByteArray) : Bool := nam s && !own s
set_option maxRecDepth 20000 in
theorem p_own (s : ByteArray) (w : World) : Calls Tryz.prog 136 #[.string s] w fun e W => e = .returned (.bool (own s)) /\ Mb w W := by
  refine fn_pure [.string s] Tryz.func136 rfl rfl rfl (run_ok (st mo ?_))
  refine ⟨fun h0 => ?_, fun h0 => ?_⟩
  · (repeat refine st mo ?_); show _ = _; rw [own_t (by rw [h0]; simp [wds])]
  repeat refine st mo ?_
  refine ⟨fun h1 => ?_, fun h1 => ?_⟩
  · (repeat refine st mo ?_); show _ = _; rw [own_t (by rw [h1]; simp [wds])]
  repeat refine st mo ?_
  refine ⟨fun h2 => ?_, fun h2 => ?_⟩
  · (repeat refine st mo ?_); show _ = _; rw [own_t (by rw [h2]; simp [wds])]
  repeat refine st mo ?_
  refine ⟨fun h3 => ?_, fun h3 => ?_⟩
  · (repeat refine st mo ?_); show _ = _; rw [own_t (by rw [h3]; simp [wds])]
  repeat refine st mo ?_
  refine ⟨fun h4 => ?_, fun h4 => ?_⟩
  · (repeat refine st mo ?_); show _ = _; rw [own_t (by rw [h4]; simp [wds])]
  repeat refine st mo ?_
  refine ⟨fun h5 => ?_, fun h5 => ?_⟩
  · (repeat refine st mo ?_); show _ = _; rw [own_t (by rw [h5]; simp [wds])]
  repeat refine st mo ?_
  refine ⟨fun h6 => ?_, fun h6 => ?_⟩
  · (repeat refine st mo ?_); show _ = _; rw [own_t (by rw [h6]; simp [wds])]
  repeat refine st mo ?_
  refine ⟨fun h7 => ?_, fun h7 => ?_⟩
  · (repeat refine st mo ?_); show _ = _; rw [own_t (by rw [h7]; simp [wds])]
  repeat refine st mo ?_
  refine ⟨fun h8 => ?_, fun h8 => ?_⟩
  · (repeat refine st mo ?_); show _ = _; rw [own_t (by rw [h8]; simp [wds])]
  repeat refine st mo ?_
  refine ⟨fun h9 => ?_, fun h9 => ?_⟩
  · (repeat refine st mo ?_); show _ = _; rw [own_t (by rw [h9]; simp [wds])]
  repeat refine st mo ?_
  refine ⟨fun h10 => ?_, fun h10 => ?_⟩
  · (repeat refine st mo ?_); show _ = _; rw [own_t (by rw [h10]; simp [wds])]
  repeat refine st mo ?_
  refine ⟨fun h11 => ?_, fun h11 => ?_⟩
  · (repeat refine st mo ?_); show _ = _; rw [own_t (by rw [h11]; simp [wds])]
  repeat refine st mo ?_
  refine ⟨fun h12 => ?_, fun h12 => ?_⟩
  · (repeat refine st mo ?_); show _ = _; rw [own_t (by rw [h12]; simp [wds])]
  repeat refine st mo ?_
  refine ⟨fun h13 => ?_, fun h13 => ?_⟩
  · (repeat refine st mo ?_); show _ = _; rw [own_t (by rw [h13]; simp [wds])]
  repeat refine st mo ?_
  refine ⟨fun h14 => ?_, fun h14 => ?_⟩
  · (repeat refine st mo ?_); show _ = _; rw [own_t (by rw [h14]; simp [wds])]
  repeat refine st mo ?_
  refine ⟨fun h15 => ?_, fun h15 => ?_⟩
  · (repeat refine st mo ?_); show _ = _; rw [own_t (by rw [h15]; simp [wds])]
  repeat refine st mo ?_
  refine ⟨fun h16 => ?_, fun h16 => ?_⟩
  · (repeat refine st mo ?_); show _ = _; rw [own_t (by rw [h16]; simp [wds])]
  repeat refine st mo ?_
  refine ⟨fun h17 => ?_, fun h17 => ?_⟩
  · (repeat refine st mo ?_); show _ = _; rw [own_t (by rw [h17]; simp [wds])]
  repeat refine st mo ?_
  refine ⟨fun h18 => ?_, fun h18 => ?_⟩
  · (repeat refine st mo ?_); show _ = _; rw [own_t (by rw [h18]; simp [wds])]
  repeat refine st mo ?_
  refine ⟨fun h19 => ?_, fun h19 => ?_⟩
  · (repeat refine st mo ?_); show _ = _; rw [own_t (by rw [h19]; simp [wds])]
  repeat refine st mo ?_
  refine ⟨fun h20 => ?_, fun h20 => ?_⟩
  · (repeat refine st mo ?_); show _ = _; rw [own_t (by rw [h20]; simp [wds])]
  repeat refine st mo ?_
  refine ⟨fun h21 => ?_, fun h21 => ?_⟩
  · (repeat refine st mo ?_); show _ = _; rw [own_t (by rw [h21]; simp [wds])]
  repeat refine st mo ?_
  refine ⟨fun h22 => ?_, fun h22 => ?_⟩
  · (repeat refine st mo ?_); show _ = _; rw [own_t (by rw [h22]; simp [wds])]
  repeat refine st mo ?_
  refine ⟨fun h23 => ?_, fun h23 => ?_⟩
  · (repeat refine st mo ?_); show _ = _; rw [own_t (by rw [h23]; simp [wds])]
  repeat refine st mo ?_
  refine ⟨fun h24 => ?_, fun h24 => ?_⟩
  · (repeat refine st mo ?_); show _ = _; rw [own_t (by rw [h24]; simp [wds])]
  repeat refine st mo ?_
  refine ⟨fun h25 => ?_, fun h25 => ?_⟩
  · (repeat refine st mo ?_); show _ = _; rw [own_t (by rw [h25]; simp [wds])]
  repeat refine st mo ?_
  refine ⟨fun h26 => ?_, fun h26 => ?_⟩
  · (repeat refine st mo ?_); show _ = _; rw [own_t (by rw [h26]; simp [wds])]
  repeat refine st mo ?_
  refine ⟨fun h27 => ?_, fun h27 => ?_⟩
  · (repeat refine st mo ?_); show _ = _; rw [own_t (by rw [h27]; simp [wds])]
  repeat refine st mo ?_
  refine ⟨fun h28 => ?_, fun h28 => ?_⟩
  · (repeat refine st mo ?_); show _ = _; rw [own_t (by rw [h28]; simp [wds])]
  repeat refine st mo ?_
  refine ⟨fun h29 => ?_, fun h29 => ?_⟩
  · (repeat refine st mo ?_); show _ = _; rw [own_t (by rw [h29]; simp [wds])]
  repeat refine st mo ?_
  refine ⟨fun h30 => ?_, fun h30 => ?_⟩
  · (repeat refine st mo ?_); show _ = _; rw [own_t (by rw [h30]; simp [wds])]
  repeat refine st mo ?_
  refine ⟨fun h31 => ?_, fun h31 => ?_⟩
  · (repeat refine st mo ?_); show _ = _; rw [own_t (by rw [h31]; simp [wds])]
  repeat refine st mo ?_
  refine ⟨fun h32 => ?_, fun h32 => ?_⟩
  · (repeat refine st mo ?_); show _ = _; rw [own_t (by rw [h32]; simp [wds])]
  repeat refine st mo ?_
  show _ = _; rw [own_f (by intro h; simp only [wds, List.mem_cons, List.not_mem_nil, or_false] at h; rcases h with h | h | h | h | h | h | h | h | h | h | h | h | h | h | h | h | h | h | h | h | h | h | h | h | h | h | h | h | h | h | h | h | h <;> contradiction)]
set_option maxRecDepth 20000 in
theorem p_free (s : ByteArray) (hs : s.size < 9223372036854775807) (w : World) : Calls Tryz.prog 70 #[.string s] w fun e W => e = .returned (.bool (fre s)) /\ Mb w W := by
  refine fn_pure [.string s] Tryz.func70 rfl rfl rfl (run_ok (st mo ?_))
  cases h : nam s with
  | false =>
    refine ⟨_, fun _ => r_call (t := litF) rfl rfl Tryz.func135 (fun W M E => h ▸ p_name s hs W), ?_⟩
    (repeat refine st mo ?_); show _ = _; rw [fre, h]; rfl
  | true =>
    refine ⟨_, fun _ => r_call (t := litT) rfl rfl Tryz.func135 (fun W M E => h ▸ p_name s hs W), ?_⟩
    repeat refine st mo ?_
    cases h2 : own s with
    | false =>
      refine ⟨_, fun _ => r_call (t := litF) rfl rfl Tryz.func136 (fun W M E => h2 ▸ p_own s W), ?_⟩
      (repeat refine st mo ?_); show _ = _; rw [fre, h, h2]; rfl
    | true =>
      refine ⟨_, fun _ => r_call (t := litT) rfl rfl Tryz.func136 (fun W M E => h2 ▸ p_own s W), ?_⟩
      (repeat refine st mo ?_); show _ = _; rw [fre, h, h2]; rfl
def ixB (L : List ByteArray) (s : ByteArray) : Int := match L.findIdx? (fun x => decide (x = s)) with
  | some i => (i : Int)
  | none => -1
set_option maxRecDepth 20000 in
theorem q_at (L : List ByteArray) (s : ByteArray) (b cap : Nat) (w : World) (hl : L.length < 9223372036854775807) (hL : Lies w b 0 (L.map Value.string)) : Calls Tryz.prog 149 #[.slice (some ⟨b, 0, none⟩) L.length cap, .string s] w fun e W => e = .returned (.int .i64 (ixB L s)) /\ Mb w W := by
  refine fn_pure [raw (.slice (some ⟨b, 0, none⟩) L.length cap), .string s] Tryz.func149 rfl rfl rfl (run_ok (st mo ?_))
  repeat refine st mo ?_
  refine w_loop (fun i : Nat => ⟨⟨19, [(0, raw (.slice (some ⟨b, 0, none⟩) L.length cap)), (1, .string s), (5, .int .i64 (i : Int))]⟩, [], 0, w⟩) (fun i => i <= L.length /\ ∀ j x, j < i -> L[j]? = some x -> x ≠ s) (fun i => L.length - i) 0 ⟨by omega, fun j x hj => by omega⟩ [] ⟨rfl, ⟨fv, fv, fv, trivial⟩, trivial, xf, rfl, rfl⟩ ?_
  intro i hi
  repeat refine st mo ?_
  refine ⟨fun hlt => ?_, fun hge => ?_⟩
  · repeat refine st mo ?_
    have hil : i < L.length := by omega
    obtain ⟨x, hx⟩ : ∃ x, L[i]? = some x := ⟨_, List.getElem?_eq_getElem hil⟩
    have hc : w.cell? ⟨b, 0 + i * 1, none⟩ = some (.string x) := by rw [Nat.mul_one]; exact hL i (.string x) (by rw [List.getElem?_map, hx]; rfl)
    refine ⟨b, 0, i, rfl, rfl, hil, ?_⟩
    repeat refine st mo ?_
    refine ⟨_, hc, ?_⟩
    repeat refine st mo ?_
    refine ⟨fun h => ?_, fun h => ?_⟩
    · repeat refine st mo ?_
      show _ = _
      have : L.findIdx? (fun x => decide (x = s)) = some i := by
        rw [List.findIdx?_eq_some_iff_getElem]
        refine ⟨hil, ?_, fun j hj => ?_⟩
        · rw [List.getElem?_eq_getElem hil] at hx; cases hx; exact decide_eq_true h
        · rw [decide_eq_false (hi.2 j _ hj (List.getElem?_eq_getElem (by omega)))]; decide
      rw [ixB, this]
    · repeat refine st mo ?_
      refine ⟨_, wz (i + 1) rfl, ?_⟩
      repeat refine st mo ?_
      refine ⟨i + 1, ⟨hil, fun j y hj hy => ?_⟩, by dsimp; omega, [], rfl, ⟨fv, fv, fv, trivial⟩, trivial, xf, rfl, rfl⟩
      rcases Nat.lt_succ_iff_lt_or_eq.1 hj with h1 | h1
      · exact hi.2 j y h1 hy
      · rw [h1, hx] at hy; cases hy; exact h
  · repeat refine st mo ?_
    show _ = _
    have : L.findIdx? (fun x => decide (x = s)) = none := by
      rw [List.findIdx?_eq_none_iff]
      intro x hx
      obtain ⟨j, hj⟩ := List.mem_iff_getElem?.1 hx
      exact decide_eq_false (hi.2 j x (by have := (List.getElem?_eq_some_iff.1 hj).1; omega) hj)
    rw [ixB, this]
theorem ixB_neg {L : List ByteArray} {s : ByteArray} : ixB L s < 0 ↔ s ∉ L := by
  unfold ixB
  cases h : L.findIdx? (fun x => decide (x = s)) with
  | none =>
    rw [List.findIdx?_eq_none_iff] at h
    exact ⟨fun _ hm => by have := h s hm; simp at this, fun _ => by decide⟩
  | some i =>
    obtain ⟨hi, he, _⟩ := List.findIdx?_eq_some_iff_getElem.1 h
    have he := of_decide_eq_true he
    exact ⟨fun hl => by dsimp at hl; omega, fun hm => absurd (he ▸ List.getElem_mem hi) hm⟩
set_option maxRecDepth 20000 in
theorem q_words (w : World) : Calls Tryz.prog 150 #[] w fun e W => ∃ u, e = .returned u /\ NewSl w W u 33 1 (wds.map Value.string) /\ Mb w W := by
  refine fn_new [] Tryz.func150 rfl rfl rfl (run_ok (st mo ?_))
  repeat refine st mo ?_
  exact ⟨rfl, rfl, rfl, rfl⟩
set_option maxRecDepth 20000 in
theorem q_free (s : ByteArray) (hs : s.size < 9223372036854775807) (w : World) : Calls Tryz.prog 80 #[.string s] w fun e W => e = .returned (.bool (fre s)) /\ Mb w W := by
  refine fn_pure [.string s] Tryz.func80 rfl rfl rfl (run_ok (st mo ?_))
  cases h : nam s with
  | false =>
    refine ⟨_, fun _ => r_call (t := litF) rfl rfl Tryz.func117 (fun W M E => h ▸ q_name s hs W), ?_⟩
    (repeat refine st mo ?_); show _ = _; rw [fre, h]; rfl
  | true =>
    refine ⟨_, fun _ => r_call (t := litT) rfl rfl Tryz.func117 (fun W M E => h ▸ q_name s hs W), ?_⟩
    repeat refine st mo ?_
    refine ⟨_, fun nn => r_callN nn rfl rfl Tryz.func150 (fun W M E => q_words W), ?_⟩
    repeat refine st mo ?_
    refine ⟨_, fun _ => r_callA (t := .int .i64 (ixB wds s)) (bit 0) rfl rfl Tryz.func149 (fun W us M E hA => ?_), ?_⟩
    · obtain ⟨u0, us, rfl, ⟨b, cap, rfl, hc, hL⟩, u1, us, rfl, h1, h2⟩ := hA
      cases h2
      rw [show u1 = .string s from h1 rfl]
      have := (hL _ rfl (tb_bit.2 rfl) rfl).2
      exact q_at wds s b cap W (by decide) this
    · repeat refine st mo ?_
      refine ⟨fun hq => ?_, fun hq => ?_⟩
      · (repeat refine st mo ?_); show _ = _; rw [fre, h, own_f (ixB_neg.1 (by omega))]; rfl
      · (repeat refine st mo ?_); show _ = _; rw [fre, h, own_t (Classical.byContradiction fun q => by have := ixB_neg.2 q; omega)]; rfl
end Go.Proofs.YtpabcmaeaiaknaaGreatDoor
namespace Go.Proofs.YtpabcmaeaiaknaaGreatDoor
open Go.RowKit

def vl (a b c d : Int) : Int := a + 18446744073709551616 * b + 340282366920938463463374607431768211456 * c + 6277101735386680763835789423207666416102355444464034512896 * d
def l0 (n : Int) : Int := n % 18446744073709551616
def l1 (n : Int) : Int := n / 18446744073709551616 % 18446744073709551616
def l2 (n : Int) : Int := n / 340282366920938463463374607431768211456 % 18446744073709551616
def l3 (n : Int) : Int := n / 6277101735386680763835789423207666416102355444464034512896 % 18446744073709551616
def MM : Int := 115792089237316195423570985008687907853269984665640564039457584007913129639936
def U1 (a : Int) : Prop := 0 <= a /\ a < 18446744073709551616
def U4 (a b c d : Int) : Prop := U1 a /\ U1 b /\ U1 c /\ U1 d

abbrev nv (n : Int) : Value := .agg #[.int .u64 (l0 n), .int .u64 (l1 n), .int .u64 (l2 n), .int .u64 (l3 n)]

theorem u4_lb (n : Int) : U4 (l0 n) (l1 n) (l2 n) (l3 n) := by unfold U4 U1 l0 l1 l2 l3; omega
theorem vl_lb (n : Int) (h0 : 0 <= n) (h : n < MM) : vl (l0 n) (l1 n) (l2 n) (l3 n) = n := by unfold vl l0 l1 l2 l3; unfold MM at h; omega
theorem l0_vl {a b c d : Int} (h : U4 a b c d) : l0 (vl a b c d) = a := by unfold vl l0; unfold U4 U1 at h; omega
theorem l1_vl {a b c d : Int} (h : U4 a b c d) : l1 (vl a b c d) = b := by unfold vl l1; unfold U4 U1 at h; omega
theorem l2_vl {a b c d : Int} (h : U4 a b c d) : l2 (vl a b c d) = c := by unfold vl l2; unfold U4 U1 at h; omega
theorem l3_vl {a b c d : Int} (h : U4 a b c d) : l3 (vl a b c d) = d := by unfold vl l3; unfold U4 U1 at h; omega
theorem nv_vl {a b c d : Int} (h : U4 a b c d) : nv (vl a b c d) = .agg #[.int .u64 a, .int .u64 b, .int .u64 c, .int .u64 d] := by
  rw [nv, l0_vl h, l1_vl h, l2_vl h, l3_vl h]
structure Mo (w w' : World) : Prop where
  mk ::
  b : Below w.heap.size w w'
  f : ∀ a, w'.frozen? a = w.frozen? a
  d : w.drawn <= w'.drawn
theorem Mo.refl (w : World) : Mo w w := ⟨Below.refl _ _, fun _ => rfl, Nat.le_refl _⟩
theorem Mo.trans {a b c : World} (h : Mo a b) (k : Mo b c) : Mo a c :=
  ⟨h.1.trans (k.1.mono h.1.size), fun x => (k.2 x).trans (h.2 x), Nat.le_trans h.3 k.3⟩
theorem Mo.drew {a b : World} (h : Mo a b) : Mo a b.drew := ⟨h.1.drew, h.2, Nat.le_succ_of_le h.3⟩
theorem Mo.drewN {a b : World} (h : Mo a b) (n : Nat) : Mo a (b.drewN n) := ⟨h.1.trans ⟨rfl, rfl, rfl, Nat.le_refl _, fun _ _ => rfl⟩, h.2, Nat.le_trans h.3 (Nat.le_add_right _ _)⟩
theorem drawn_set (b : World) (p : Addr) (v : Value) : (b.setCell p v).drawn = b.drawn := by
  unfold World.setCell; repeat (first | rfl | split)
theorem Mo.alloc {a b : World} (h : Mo a b) (c : Array Value) (t : TypeId) : Mo a (b.alloc (.cells c t)) :=
  ⟨h.1.alloc h.1.size _, fun x => (frozen?_alloc_cells _ _ _ x).trans (h.2 x), h.3⟩
theorem Mo.setCell {a b : World} (h : Mo a b) {p : Addr} (hp : a.heap.size <= p.block) (v : Value) : Mo a (b.setCell p v) :=
  ⟨h.1.setCell hp v, fun x => (World.frozen?_setCell _ _ _ _).trans (h.2 x), by rw [drawn_set]; exact h.3⟩
theorem Mo.size {a b : World} (h : Mo a b) : a.heap.size <= b.heap.size := h.1.size
theorem Mo.cell {a b : World} (h : Mo a b) : ∀ k o, k < a.heap.size -> b.cell? ⟨k, o, none⟩ = a.cell? ⟨k, o, none⟩ := fun k o hk => h.1.cell (p := ⟨k, o, none⟩) hk
def At4 (w : World) (k : Nat) (a b c d : Int) : Prop := w.cell? ⟨k, 0, none⟩ = some (.int .u64 a) /\ w.cell? ⟨k, 1, none⟩ = some (.int .u64 b) /\ w.cell? ⟨k, 2, none⟩ = some (.int .u64 c) /\ w.cell? ⟨k, 3, none⟩ = some (.int .u64 d)
def Fz (w : World) (k : Nat) : Prop := ∀ o, w.frozen? ⟨k, o, none⟩ = false
theorem At4.mo {w w' : World} {k : Nat} {a b c d : Int} (h : At4 w k a b c d) (m : Mo w w') (hk : k < w.heap.size) : At4 w' k a b c d := by
  unfold At4 at *; simp only [m.cell k _ hk]; exact h
theorem Fz.mo {w w' : World} {k : Nat} (h : Fz w k) (m : Mo w w') : Fz w' k := fun o => (m.2 _).trans (h o)

theorem part0 (x0 x1 x2 x3 : Value) (w : World) : (part 22 #[x0, x1, x2, x3] 0).run Tryz.prog w = .ok x0 w := by kernel_rfl
theorem part1 (x0 x1 x2 x3 : Value) (w : World) : (part 22 #[x0, x1, x2, x3] 1).run Tryz.prog w = .ok x1 w := by kernel_rfl
theorem part2 (x0 x1 x2 x3 : Value) (w : World) : (part 22 #[x0, x1, x2, x3] 2).run Tryz.prog w = .ok x2 w := by kernel_rfl
theorem part3 (x0 x1 x2 x3 : Value) (w : World) : (part 22 #[x0, x1, x2, x3] 3).run Tryz.prog w = .ok x3 w := by kernel_rfl
theorem cells22 : Tryz.prog.cellsOf 22 = 1 := by kernel_rfl
theorem info22 : ∃ i, Tryz.prog.info? 22 = some i := Option.isSome_iff_exists.1 (by kernel_rfl)
theorem eq4 (a b c d e f g h : Int) (w : World) : (Op.equalIn 10000 24 (.agg #[.int .u64 a, .int .u64 b, .int .u64 c, .int .u64 d]) (.agg #[.int .u64 e, .int .u64 f, .int .u64 g, .int .u64 h])).run Tryz.prog w = .ok (a == e && (b == f && (c == g && d == h))) w := by
  obtain ⟨i, hi⟩ := info22
  rw [show (10000 : Nat) = 9998 + 1 + 1 from rfl, run_equalIn_array w (9998 + 1) _ _ Tryz.underlying24 hi, cells22]
  have q : ∀ (x y : Int), (Op.equalIn 9999 22 (.int .u64 x) (.int .u64 y)).run Tryz.prog w = .ok (x == y) w := fun x y => run_equalIn_int w 9998 22 .u64 .u64 x y Tryz.underlying22
  rw [show List.range 4 = [0, 1, 2, 3] from rfl]
  cases ha : a == e <;> cases hb : b == f <;> cases hc : c == g <;> cases hd : d == h <;> simp [Op.eqItems, Sem.run_bind, part0, part1, part2, part3, Result.andThen_ok, q, ha, hb, hc, hd, Sem.run_pure]
end Go.Proofs.YtpabcmaeaiaknaaGreatDoor
namespace Go.Proofs.YtpabcmaeaiaknaaGreatDoor
open S Go.RowKit
theorem Mo.mb {w W : World} (h : Mo w W) : S.Mb w W := ⟨h.1, h.3⟩
abbrev dc (b : Bool) (n s : Int) : Value := .agg #[.bool b, .int .u64 (l0 n), .int .u64 (l1 n), .int .u64 (l2 n), .int .u64 (l3 n), .int .i64 s]
def sc (s : Int) : Bool := decide (0 <= s) && decide (s <= 18)
def ck (b : Bool) (n s : Int) : Int := if sc s && !(b && decide (n = 0)) then 0 else 20
theorem sc_iff {s : Int} : sc s = true ↔ 0 <= s /\ s <= 18 := by unfold sc; simp
theorem nv_inj {n m : Int} (hn0 : 0 <= n) (hn : n < MM) (hm0 : 0 <= m) (hm : m < MM) (h : l0 n = l0 m /\ l1 n = l1 m /\ l2 n = l2 m /\ l3 n = l3 m) : n = m := by
  rw [← vl_lb n hn0 hn, ← vl_lb m hm0 hm, h.1, h.2.1, h.2.2.1, h.2.2.2]
theorem limbs_eq {n m : Int} (hn0 : 0 <= n) (hn : n < MM) (hm0 : 0 <= m) (hm : m < MM) : (l0 n == l0 m && (l1 n == l1 m && (l2 n == l2 m && l3 n == l3 m))) = decide (n = m) := by
  rw [Bool.eq_iff_iff]
  simp
  constructor
  · rintro ⟨a, b, c, d⟩; exact nv_inj hn0 hn hm0 hm ⟨a, b, c, d⟩
  · rintro rfl; exact ⟨rfl, rfl, rfl, rfl⟩
theorem gt24 : Tryz.prog.eqGuardType Tryz.prog.depth 24 = false := by kernel_rfl
theorem guard_run {op : BinOp} {ty : TypeId} {a b : Array Value} {w : World} (x y : Operand) (hg : Tryz.prog.eqGuardType Tryz.prog.depth ty = false) : (eqGuard op ty x y (.agg a) (.agg b)).run Tryz.prog w = .ok () w := by
  unfold eqGuard
  cases op <;> simp [hg]
theorem eqa_run {ty : TypeId} {a b : Array Value} {r : Bool} {w : World} (hg : Tryz.prog.eqGuardType Tryz.prog.depth ty = false) (q : (Op.equalIn 10000 ty (.agg a) (.agg b)).run Tryz.prog w = .ok r w) (x y : Operand) :
    (do eqGuard .eql ty x y (.agg a) (.agg b); binOp .eql ty (.agg a) (.agg b)).run Tryz.prog w = .ok (.bool r) w := by
  have e : binOp .eql ty (.agg a) (.agg b) = (do pure (.bool (← Op.equalIn 10000 ty (.agg a) (.agg b)))) := rfl
  rw [Sem.run_bind, guard_run x y hg, e, Result.andThen_ok, Sem.run_bind, q]; rfl
theorem nea_run {ty : TypeId} {a b : Array Value} {r : Bool} {w : World} (hg : Tryz.prog.eqGuardType Tryz.prog.depth ty = false) (q : (Op.equalIn 10000 ty (.agg a) (.agg b)).run Tryz.prog w = .ok r w) (x y : Operand) :
    (do eqGuard .neq ty x y (.agg a) (.agg b); binOp .neq ty (.agg a) (.agg b)).run Tryz.prog w = .ok (.bool (!r)) w := by
  have e : binOp .neq ty (.agg a) (.agg b) = (do pure (.bool (!(← Op.equalIn 10000 ty (.agg a) (.agg b))))) := rfl
  rw [Sem.run_bind, guard_run x y hg, e, Result.andThen_ok, Sem.run_bind, q]; rfl
theorem eq4d (d : Nat) (a b c e f g h i : Int) (w : World) : (Op.equalIn (d + 1 + 1) 24 (.agg #[.int .u64 a, .int .u64 b, .int .u64 c, .int .u64 e]) (.agg #[.int .u64 f, .int .u64 g, .int .u64 h, .int .u64 i])).run Tryz.prog w = .ok (a == f && (b == g && (c == h && e == i))) w := by
  obtain ⟨j, hj⟩ := info22
  rw [run_equalIn_array w (d + 1) _ _ Tryz.underlying24 hj, cells22]
  have q : ∀ (x y : Int), (Op.equalIn (d + 1) 22 (.int .u64 x) (.int .u64 y)).run Tryz.prog w = .ok (x == y) w := fun x y => run_equalIn_int w d 22 .u64 .u64 x y Tryz.underlying22
  rw [show List.range 4 = [0, 1, 2, 3] from rfl]
  cases ha : a == f <;> cases hb : b == g <;> cases hc : c == h <;> cases hd : e == i <;> simp [Op.eqItems, Sem.run_bind, part0, part1, part2, part3, Result.andThen_ok, q, ha, hb, hc, hd, Sem.run_pure]
def s4 (n0 n1 n2 n3 m0 m1 m2 m3 : Int) : Bool := n0 == m0 && (n1 == m1 && (n2 == m2 && n3 == m3))
theorem ht40 : Tryz.prog.underlying 26 = some (.struct (Tryz.prog.fieldsOf 26)) := by kernel_rfl
theorem hp40 : Tryz.prog.stoodInHeld 26 = false := by kernel_rfl
theorem fo40 : (Tryz.prog.fieldsOf 26).toList.map (fun f => (f.name, f.type, f.offset)) = [("Neg", 4, 0), ("N", 24, 1), ("Scale", 3, 5)] := by kernel_rfl
theorem pt40 (x0 x1 x2 x3 x4 x5 : Value) (w : World) : (part 4 #[x0, x1, x2, x3, x4, x5] 0).run Tryz.prog w = .ok x0 w := by kernel_rfl
theorem pt41 (x0 x1 x2 x3 x4 x5 : Value) (w : World) : (part 24 #[x0, x1, x2, x3, x4, x5] 1).run Tryz.prog w = .ok (.agg #[x1, x2, x3, x4]) w := by kernel_rfl
theorem pt45 (x0 x1 x2 x3 x4 x5 : Value) (w : World) : (part 3 #[x0, x1, x2, x3, x4, x5] 5).run Tryz.prog w = .ok x5 w := by kernel_rfl
theorem ht28 : Tryz.prog.underlying 28 = some (.struct (Tryz.prog.fieldsOf 28)) := by kernel_rfl
theorem hp28 : Tryz.prog.stoodInHeld 28 = false := by kernel_rfl
theorem fo28 : (Tryz.prog.fieldsOf 28).toList.map (fun f => (f.name, f.type, f.offset)) = [("Kind", 3, 0), ("Num", 26, 1), ("Flag", 4, 7), ("Text", 9, 8), ("Err", 3, 9)] := by kernel_rfl
theorem p28_0 (x0 x1 x2 x3 x4 x5 x6 x7 x8 x9 : Value) (w : World) : (part 3 #[x0, x1, x2, x3, x4, x5, x6, x7, x8, x9] 0).run Tryz.prog w = .ok x0 w := by kernel_rfl
theorem p28_1 (x0 x1 x2 x3 x4 x5 x6 x7 x8 x9 : Value) (w : World) : (part 26 #[x0, x1, x2, x3, x4, x5, x6, x7, x8, x9] 1).run Tryz.prog w = .ok (.agg #[x1, x2, x3, x4, x5, x6]) w := by kernel_rfl
theorem p28_7 (x0 x1 x2 x3 x4 x5 x6 x7 x8 x9 : Value) (w : World) : (part 4 #[x0, x1, x2, x3, x4, x5, x6, x7, x8, x9] 7).run Tryz.prog w = .ok x7 w := by kernel_rfl
theorem p28_8 (x0 x1 x2 x3 x4 x5 x6 x7 x8 x9 : Value) (w : World) : (part 9 #[x0, x1, x2, x3, x4, x5, x6, x7, x8, x9] 8).run Tryz.prog w = .ok x8 w := by kernel_rfl
theorem p28_9 (x0 x1 x2 x3 x4 x5 x6 x7 x8 x9 : Value) (w : World) : (part 3 #[x0, x1, x2, x3, x4, x5, x6, x7, x8, x9] 9).run Tryz.prog w = .ok x9 w := by kernel_rfl
theorem gt28 : Tryz.prog.eqGuardType Tryz.prog.depth 28 = false := by kernel_rfl
def svl (k : Int) (b : Bool) (n0 n1 n2 n3 s : Int) (f : Bool) (t : ByteArray) (e : Int) (k' : Int) (b' : Bool) (m0 m1 m2 m3 s' : Int) (f' : Bool) (t' : ByteArray) (e' : Int) : Bool :=
  k == k' && ((b == b' && (s4 n0 n1 n2 n3 m0 m1 m2 m3 && s == s')) && (f == f' && (t == t' && e == e')))
theorem eq26 (d : Nat) (b c : Bool) (n0 n1 n2 n3 m0 m1 m2 m3 s t : Int) (w : World) : (Op.equalIn (d + 1 + 1 + 1) 26 (.agg #[.bool b, .int .u64 n0, .int .u64 n1, .int .u64 n2, .int .u64 n3, .int .i64 s]) (.agg #[.bool c, .int .u64 m0, .int .u64 m1, .int .u64 m2, .int .u64 m3, .int .i64 t])).run Tryz.prog w = .ok (b == c && (s4 n0 n1 n2 n3 m0 m1 m2 m3 && s == t)) w := by
  rw [run_equalIn_struct w (d + 1 + 1) 26 _ _ ht40 hp40]
  have h := fo40
  generalize (Tryz.prog.fieldsOf 26).toList = L at h
  have hl : L.length = 3 := by have := congrArg List.length h; simpa using this
  match L, hl with
  | [f0, f1, f2], _ =>
    simp at h
    obtain ⟨⟨a0, a1, a2⟩, ⟨b0, b1, b2⟩, ⟨c0, c1, c2⟩⟩ := h
    have q1 : (Op.equalIn (d + 1 + 1) 4 (.bool b) (.bool c)).run Tryz.prog w = .ok (b == c) w := by kernel_rfl
    have q2 : _ = Result.ok (s4 n0 n1 n2 n3 m0 m1 m2 m3) w := eq4d d n0 n1 n2 n3 m0 m1 m2 m3 w
    have q3 : (Op.equalIn (d + 1 + 1) 3 (.int .i64 s) (.int .i64 t)).run Tryz.prog w = .ok (s == t) w := run_equalIn_int w (d + 1) 3 .i64 .i64 s t Tryz.underlying3
    generalize s4 n0 n1 n2 n3 m0 m1 m2 m3 = z at q2 ⊢
    simp only [Op.eqFields, a0, a1, a2, b0, b1, b2, c0, c1, c2]
    cases h1 : (b == c) <;> cases z <;> cases h3 : (s == t) <;> simp [Sem.run_bind, pt40, pt41, pt45, Result.andThen_ok, q1, q2, q3, h1, h3, Sem.run_pure]
theorem eq28 (k : Int) (b : Bool) (n0 n1 n2 n3 s : Int) (f : Bool) (t : ByteArray) (e : Int) (k' : Int) (b' : Bool) (m0 m1 m2 m3 s' : Int) (f' : Bool) (t' : ByteArray) (e' : Int) (w : World) : (Op.equalIn 10000 28 (.agg #[.int .i64 k, .bool b, .int .u64 n0, .int .u64 n1, .int .u64 n2, .int .u64 n3, .int .i64 s, .bool f, .string t, .int .i64 e]) (.agg #[.int .i64 k', .bool b', .int .u64 m0, .int .u64 m1, .int .u64 m2, .int .u64 m3, .int .i64 s', .bool f', .string t', .int .i64 e'])).run Tryz.prog w = .ok (svl k b n0 n1 n2 n3 s f t e k' b' m0 m1 m2 m3 s' f' t' e') w := by
  rw [show (10000 : Nat) = 9999 + 1 from rfl, run_equalIn_struct w 9999 28 _ _ ht28 hp28]
  have h := fo28
  generalize (Tryz.prog.fieldsOf 28).toList = L at h
  have hl : L.length = 5 := by have := congrArg List.length h; simpa using this
  match L, hl with
  | [f0, f1, f2, f3, f4], _ =>
    simp at h
    obtain ⟨⟨a0, a1, a2⟩, ⟨b0, b1, b2⟩, ⟨c0, c1, c2⟩, ⟨g0, g1, g2⟩, ⟨i0, i1, i2⟩⟩ := h
    have qi : ∀ x y : Int, (Op.equalIn 9999 3 (.int .i64 x) (.int .i64 y)).run Tryz.prog w = .ok (x == y) w := fun x y => run_equalIn_int w 9998 3 .i64 .i64 x y Tryz.underlying3
    have q2 : (Op.equalIn 9999 26 _ _).run Tryz.prog w = _ := eq26 9996 b b' n0 n1 n2 n3 m0 m1 m2 m3 s s' w
    have q3 : (Op.equalIn 9999 4 (.bool f) (.bool f')).run Tryz.prog w = .ok (f == f') w := by kernel_rfl
    have q4 : (Op.equalIn 9999 9 (.string t) (.string t')).run Tryz.prog w = .ok (t == t') w := by kernel_rfl
    unfold svl
    generalize (b == b' && (s4 n0 n1 n2 n3 m0 m1 m2 m3 && s == s')) = z at q2 ⊢
    simp only [Op.eqFields, a0, a1, a2, b0, b1, b2, c0, c1, c2, g0, g1, g2, i0, i1, i2]
    cases h1 : (k == k') <;> cases z <;> cases h3 : (f == f') <;> cases h4 : (t == t') <;> cases h5 : (e == e') <;> simp [Sem.run_bind, p28_0, p28_1, p28_7, p28_8, p28_9, Result.andThen_ok, qi, q2, q3, q4, h1, h3, h4, h5, Sem.run_pure]
section
variable {k : Int} {b : Bool} {n0 n1 n2 n3 s : Int} {f : Bool} {t : ByteArray} {e : Int} {k' : Int} {b' : Bool} {m0 m1 m2 m3 s' : Int} {f' : Bool} {t' : ByteArray} {e' : Int} {r : Bool}
theorem eqV (h : svl k b n0 n1 n2 n3 s f t e k' b' m0 m1 m2 m3 s' f' t' e' = r) (x y : Operand) (w : World) : (do eqGuard .eql 28 x y (.agg #[.int .i64 k, .bool b, .int .u64 n0, .int .u64 n1, .int .u64 n2, .int .u64 n3, .int .i64 s, .bool f, .string t, .int .i64 e]) (.agg #[.int .i64 k', .bool b', .int .u64 m0, .int .u64 m1, .int .u64 m2, .int .u64 m3, .int .i64 s', .bool f', .string t', .int .i64 e']); binOp .eql 28 (.agg #[.int .i64 k, .bool b, .int .u64 n0, .int .u64 n1, .int .u64 n2, .int .u64 n3, .int .i64 s, .bool f, .string t, .int .i64 e]) (.agg #[.int .i64 k', .bool b', .int .u64 m0, .int .u64 m1, .int .u64 m2, .int .u64 m3, .int .i64 s', .bool f', .string t', .int .i64 e'])).run Tryz.prog w = .ok (.bool r) w := eqa_run gt28 (by rw [← h]; exact eq28 ..) x y
end
structure VL where
  k : Int
  b : Bool
  n : Int
  s : Int
  f : Bool
  t : ByteArray
  e : Int
def VL.cells (v : VL) : List Value := [.int .i64 v.k, .bool v.b, .int .u64 (l0 v.n), .int .u64 (l1 v.n), .int .u64 (l2 v.n), .int .u64 (l3 v.n), .int .i64 v.s, .bool v.f, .string v.t, .int .i64 v.e]
abbrev VL.v (v : VL) : Value := .agg v.cells.toArray
def VL.ok (v : VL) : Prop := 0 <= v.n /\ v.n < MM
def svv (x y : VL) : Bool := svl x.k x.b (l0 x.n) (l1 x.n) (l2 x.n) (l3 x.n) x.s x.f x.t x.e y.k y.b (l0 y.n) (l1 y.n) (l2 y.n) (l3 y.n) y.s y.f y.t y.e
theorem eqW {x y : VL} {r : Bool} (h : svv x y = r) (p q : Operand) (w : World) : (do eqGuard .eql 28 p q x.v y.v; binOp .eql 28 x.v y.v).run Tryz.prog w = .ok (.bool r) w := eqV h p q w
theorem eq_limbs (n m : Int) (hn : 0 <= n /\ n < MM) (hm : 0 <= m /\ m < MM) (w : World) : (Op.equalIn 10000 24 (nv n) (nv m)).run Tryz.prog w = .ok (decide (n = m)) w := by
  have := eq4d 9998 (l0 n) (l1 n) (l2 n) (l3 n) (l0 m) (l1 m) (l2 m) (l3 m) w
  rw [limbs_eq hn.1 hn.2 hm.1 hm.2] at this; exact this
section
variable {w0 : B0} {X : World} {o : Oper} {fr : FT} {h : HT} {n : Nat} {y z : Operand} {t' : TypeId}
theorem r_eqN (a b : Int) (ha : 0 <= a /\ a < MM) (hb : 0 <= b /\ b < MM) (ho : o.op = .binOp .eql 24 y z t' := by rfl) (hy : den2 (evo fr y) = nv a := by rfl) (hz : den2 (evo fr z) = nv b := by rfl) (hpy : pur2 (evo fr y) = true := by rfl) (hpz : pur2 (evo fr z) = true := by rfl) : Oa (Am w0 X) Tryz.prog o fr h n ⟨.bool (decide (a = b)), h, n, 0, 0⟩ :=
  Oo.to (s_bin0 ho (fun k u hu => by rw [pur2_eq hu hpy, hy]) (fun k u hu => by rw [pur2_eq hu hpz, hz]) rfl (fun w => eqa_run gt24 (eq_limbs a b ha hb w) y z))
theorem r_neN (a b : Int) (ha : 0 <= a /\ a < MM) (hb : 0 <= b /\ b < MM) (ho : o.op = .binOp .neq 24 y z t' := by rfl) (hy : den2 (evo fr y) = nv a := by rfl) (hz : den2 (evo fr z) = nv b := by rfl) (hpy : pur2 (evo fr y) = true := by rfl) (hpz : pur2 (evo fr z) = true := by rfl) : Oa (Am w0 X) Tryz.prog o fr h n ⟨.bool (!decide (a = b)), h, n, 0, 0⟩ :=
  Oo.to (s_bin0 ho (fun k u hu => by rw [pur2_eq hu hpy, hy]) (fun k u hu => by rw [pur2_eq hu hpz, hz]) rfl (fun w => nea_run gt24 (eq_limbs a b ha hb w) y z))
theorem r_eqV (p q : VL) (ho : o.op = .binOp .eql 28 y z t' := by rfl) (hy : den2 (evo fr y) = p.v := by rfl) (hz : den2 (evo fr z) = q.v := by rfl) (hpy : pur2 (evo fr y) = true := by rfl) (hpz : pur2 (evo fr z) = true := by rfl) : Oa (Am w0 X) Tryz.prog o fr h n ⟨.bool (svv p q), h, n, 0, 0⟩ :=
  Oo.to (s_bin0 ho (fun k u hu => by rw [pur2_eq hu hpy, hy]) (fun k u hu => by rw [pur2_eq hu hpz, hz]) rfl (fun w => eqW rfl y z w))
end
abbrev VL.y (x : VL) : Value := .agg (x.cells.map rel1).toArray
def v0 : VL := ⟨0, false, 0, 0, false, E0, 0⟩
structure Ex where
  k : Int
  op : Int
  nm : ByteArray
  sc : ByteArray
  v : VL
  s : Int
  pl : Int
  p : Option Addr
  cl : Nat
  a : List Ex
def Ex.c (x : Ex) : List Value := [.int .i64 x.k, .int .i64 x.op, .string x.nm, .string x.sc, .int .i64 x.v.k, .bool x.v.b, .int .u64 (l0 x.v.n), .int .u64 (l1 x.v.n), .int .u64 (l2 x.v.n), .int .u64 (l3 x.v.n), .int .i64 x.v.s, .bool x.v.f, .string x.v.t, .int .i64 x.v.e, .int .i64 x.s, .int .i64 x.pl, .slice x.p x.a.length x.cl]
abbrev Ex.y (x : Ex) : Value := .agg (x.c.map rel1).toArray
abbrev Ex.w (x : Ex) : Value := .agg x.c.toArray
def Ex.ok (x : Ex) : Prop := x.v.ok /\ x.nm.size <= 9223372036854775806 /\ x.sc.size <= 9223372036854775806 /\ x.v.t.size <= 9223372036854775806 /\ x.a.length <= 9223372036854775806
def LT (w : World) : Nat -> Ex -> Prop
  | 0, x => x.ok /\ x.a = []
  | d + 1, x => x.ok /\ ∀ i y, x.a[i]? = some y -> (∃ b o, x.p = some ⟨b, o, none⟩ /\ Lies w b (o + i * 17) y.c) /\ LT w d y
theorem LT.mono {w W : World} (E : ∀ a u, w.cell? a = some u -> W.cell? a = some u) : ∀ {d : Nat} {x : Ex}, LT w d x -> LT W d x
  | 0, _, h => h
  | d + 1, _, h3 => ⟨h3.1, fun i y hy => by
    obtain ⟨⟨b, o, h4, h5⟩, h8⟩ := h3.2 i y hy
    exact ⟨⟨b, o, h4, fun j u hj => E _ _ (h5 j u hj)⟩, LT.mono E h8⟩⟩
theorem LT.ok {w : World} {d : Nat} {x : Ex} (h : LT w d x) : x.ok := by cases d <;> exact h.1
theorem xce {X' X : World} (h : Xf X' X) (a : Addr) (u : Value) (hc : X.cell? a = some u) : X'.cell? a = some u := by
  unfold World.cell? at hc ⊢
  split at hc
  · rename_i c ty fz hx
    have : (Obj.cells c ty fz) ≠ hole X := fun e => by
      unfold hole at e
      cases e
      split at hc <;> simp at hc
    rw [(h.2 _ _ hx this).1]; exact hc
  · cases hc
theorem LT.xf {X X' : World} {d : Nat} {x : Ex} (h : LT X d x) (hX : Xf X' X) : LT X' d x := h.mono (xce hX)
abbrev sndP (x y : Ex) : Prop := x.op = y.op /\ x.nm = y.nm /\ x.sc = y.sc /\ svv x.v y.v = true /\ x.s = y.s /\ x.pl = y.pl
def pln (x y : Ex) : Bool := decide (sndP x y)
def snd (x y : Ex) : Bool := decide (x.k = y.k) && pln x y
theorem pln_f {x y : Ex} (h : ¬ sndP x y) : pln x y = false := decide_eq_false h
theorem pln_t {x y : Ex} (h : sndP x y) : pln x y = true := decide_eq_true h
theorem snd_k {x y : Ex} (h : x.k = y.k) : snd x y = pln x y := by unfold snd; rw [decide_eq_true h]; rfl
set_option maxRecDepth 20000 in
theorem q_plain (x y : Ex) (w : World) : Calls Tryz.prog 29 #[x.w, y.w] w fun e W => e = .returned (.bool (pln x y)) /\ Mb w W := by
  refine fn_pure [x.y, y.y] Tryz.func29 rfl rfl rfl (run_ok (st mo ?_))
  repeat refine st mo ?_
  refine ⟨fun h0 => ?_, fun h0 => ?_⟩
  rotate_left
  · (repeat refine st mo ?_); show _ = _; rw [pln_f fun a => h0 a.1]
  repeat refine st mo ?_
  refine ⟨fun h1 => ?_, fun h1 => ?_⟩
  rotate_left
  · (repeat refine st mo ?_); show _ = _; rw [pln_f fun a => h1 a.2.1]
  repeat refine st mo ?_
  refine ⟨fun h2 => ?_, fun h2 => ?_⟩
  rotate_left
  · (repeat refine st mo ?_); show _ = _; rw [pln_f fun a => h2 a.2.2.1]
  repeat refine st mo ?_
  refine ⟨_, r_eqV x.v y.v, fun h3 => ?_, fun h3 => ?_⟩
  rotate_left
  · (repeat refine st mo ?_); show _ = _; rw [pln_f fun a => by rw [a.2.2.2.1] at h3; cases h3]
  repeat refine st mo ?_
  refine ⟨fun h4 => ?_, fun h4 => ?_⟩
  rotate_left
  · (repeat refine st mo ?_); show _ = _; rw [pln_f fun a => h4 a.2.2.2.2.1]
  repeat refine st mo ?_
  refine ⟨fun h5 => ?_, fun h5 => ?_⟩
  rotate_left
  · (repeat refine st mo ?_); show _ = _; rw [pln_f fun a => h5 a.2.2.2.2.2]
  repeat refine st mo ?_
  show _ = _; rw [pln_t ⟨h0, h1, h2, h3, h4, h5⟩]
set_option maxRecDepth 20000 in
theorem p_node (x y : Ex) (w : World) : Calls Tryz.prog 52 #[x.w, y.w] w fun e W => e = .returned (.bool (snd x y)) /\ Mb w W := by
  refine fn_pure [x.y, y.y] Tryz.func52 rfl rfl rfl (run_ok (st mo ?_))
  repeat refine st mo ?_
  refine ⟨fun hk => ?_, fun hk => ?_⟩
  rotate_left
  · (repeat refine st mo ?_); show _ = _; unfold snd; rw [decide_eq_false hk]; rfl
  repeat refine st mo ?_
  rw [snd_k hk]
  refine ⟨fun h0 => ?_, fun h0 => ?_⟩
  rotate_left
  · (repeat refine st mo ?_); show _ = _; rw [pln_f fun a => h0 a.1]
  repeat refine st mo ?_
  refine ⟨fun h1 => ?_, fun h1 => ?_⟩
  rotate_left
  · (repeat refine st mo ?_); show _ = _; rw [pln_f fun a => h1 a.2.1]
  repeat refine st mo ?_
  refine ⟨fun h2 => ?_, fun h2 => ?_⟩
  rotate_left
  · (repeat refine st mo ?_); show _ = _; rw [pln_f fun a => h2 a.2.2.1]
  repeat refine st mo ?_
  refine ⟨_, r_eqV x.v y.v, fun h3 => ?_, fun h3 => ?_⟩
  rotate_left
  · (repeat refine st mo ?_); show _ = _; rw [pln_f fun a => by rw [a.2.2.2.1] at h3; cases h3]
  repeat refine st mo ?_
  refine ⟨fun h4 => ?_, fun h4 => ?_⟩
  rotate_left
  · (repeat refine st mo ?_); show _ = _; rw [pln_f fun a => h4 a.2.2.2.2.1]
  repeat refine st mo ?_
  refine ⟨fun h5 => ?_, fun h5 => ?_⟩
  rotate_left
  · (repeat refine st mo ?_); show _ = _; rw [pln_f fun a => h5 a.2.2.2.2.2]
  repeat refine st mo ?_
  show _ = _; rw [pln_t ⟨h0, h1, h2, h3, h4, h5⟩]
def x0 : Ex := ⟨0, 0, E0, E0, v0, 0, 0, none, 0, []⟩
def nth (x : Ex) : Bool := snd x x0 && decide (x.a = [])
theorem wu {x y : Int} (h : x = y := by omega) (hb : 0 <= y /\ y < 18446744073709551616 := by omega) : IntKind.u64.wrap x = y := by rw [h, IntKind.wrap_u64]; omega
def hf (n : Int) (i : Nat) : Int := n / 4294967296 ^ i % 4294967296
theorem hf_bd (n : Int) (i : Nat) : 0 <= hf n i /\ hf n i < 4294967296 := by unfold hf; omega
set_option maxRecDepth 20000 in
theorem half0 (n : Int) (w : World) : Calls Tryz.prog 226 #[nv n, .int .i64 0] w fun e W => e = .returned (.int .u64 (hf n 0)) /\ Mb w W := by
  refine fn_pure [nv n, .int .i64 0] Tryz.func226 rfl rfl rfl (run_ok (st mo ?_))
  repeat refine st mo ?_
  refine ⟨by decide, _, wz 0 rfl, st mo ⟨0, rfl, by decide, st mo ⟨_, rfl, st mo ⟨by decide, 0, rfl, st mo ⟨_, wz 0 rfl, st mo ⟨by decide, _, Int.fdiv_eq_ediv_of_nonneg _ (by decide), st mo ⟨by decide, hf n 0, ?_, st mo ?_⟩⟩⟩⟩⟩⟩⟩
  · show Int.tmod (_ / (2 ^ 0)) 4294967296 = _
    rw [Int.tmod_eq_emod_of_nonneg (by unfold l0; omega)]
    unfold hf l0; omega
  · rfl
set_option maxRecDepth 20000 in
theorem half1 (n : Int) (w : World) : Calls Tryz.prog 226 #[nv n, .int .i64 1] w fun e W => e = .returned (.int .u64 (hf n 1)) /\ Mb w W := by
  refine fn_pure [nv n, .int .i64 1] Tryz.func226 rfl rfl rfl (run_ok (st mo ?_))
  repeat refine st mo ?_
  refine ⟨by decide, _, wz 0 rfl, st mo ⟨0, rfl, by decide, st mo ⟨_, rfl, st mo ⟨by decide, 1, rfl, st mo ⟨_, wz 32 rfl, st mo ⟨by decide, _, Int.fdiv_eq_ediv_of_nonneg _ (by decide), st mo ⟨by decide, hf n 1, ?_, st mo ?_⟩⟩⟩⟩⟩⟩⟩
  · show Int.tmod (_ / (2 ^ 32)) 4294967296 = _
    rw [Int.tmod_eq_emod_of_nonneg (by unfold l0; omega)]
    unfold hf l0; omega
  · rfl
set_option maxRecDepth 20000 in
theorem half2 (n : Int) (w : World) : Calls Tryz.prog 226 #[nv n, .int .i64 2] w fun e W => e = .returned (.int .u64 (hf n 2)) /\ Mb w W := by
  refine fn_pure [nv n, .int .i64 2] Tryz.func226 rfl rfl rfl (run_ok (st mo ?_))
  repeat refine st mo ?_
  refine ⟨by decide, _, wz 1 rfl, st mo ⟨1, rfl, by decide, st mo ⟨_, rfl, st mo ⟨by decide, 0, rfl, st mo ⟨_, wz 0 rfl, st mo ⟨by decide, _, Int.fdiv_eq_ediv_of_nonneg _ (by decide), st mo ⟨by decide, hf n 2, ?_, st mo ?_⟩⟩⟩⟩⟩⟩⟩
  · show Int.tmod (_ / (2 ^ 0)) 4294967296 = _
    rw [Int.tmod_eq_emod_of_nonneg (by unfold l1; omega)]
    unfold hf l1; omega
  · rfl
set_option maxRecDepth 20000 in
theorem half3 (n : Int) (w : World) : Calls Tryz.prog 226 #[nv n, .int .i64 3] w fun e W => e = .returned (.int .u64 (hf n 3)) /\ Mb w W := by
  refine fn_pure [nv n, .int .i64 3] Tryz.func226 rfl rfl rfl (run_ok (st mo ?_))
  repeat refine st mo ?_
  refine ⟨by decide, _, wz 1 rfl, st mo ⟨1, rfl, by decide, st mo ⟨_, rfl, st mo ⟨by decide, 1, rfl, st mo ⟨_, wz 32 rfl, st mo ⟨by decide, _, Int.fdiv_eq_ediv_of_nonneg _ (by decide), st mo ⟨by decide, hf n 3, ?_, st mo ?_⟩⟩⟩⟩⟩⟩⟩
  · show Int.tmod (_ / (2 ^ 32)) 4294967296 = _
    rw [Int.tmod_eq_emod_of_nonneg (by unfold l1; omega)]
    unfold hf l1; omega
  · rfl
set_option maxRecDepth 20000 in
theorem half4 (n : Int) (w : World) : Calls Tryz.prog 226 #[nv n, .int .i64 4] w fun e W => e = .returned (.int .u64 (hf n 4)) /\ Mb w W := by
  refine fn_pure [nv n, .int .i64 4] Tryz.func226 rfl rfl rfl (run_ok (st mo ?_))
  repeat refine st mo ?_
  refine ⟨by decide, _, wz 2 rfl, st mo ⟨2, rfl, by decide, st mo ⟨_, rfl, st mo ⟨by decide, 0, rfl, st mo ⟨_, wz 0 rfl, st mo ⟨by decide, _, Int.fdiv_eq_ediv_of_nonneg _ (by decide), st mo ⟨by decide, hf n 4, ?_, st mo ?_⟩⟩⟩⟩⟩⟩⟩
  · show Int.tmod (_ / (2 ^ 0)) 4294967296 = _
    rw [Int.tmod_eq_emod_of_nonneg (by unfold l2; omega)]
    unfold hf l2; omega
  · rfl
set_option maxRecDepth 20000 in
theorem half5 (n : Int) (w : World) : Calls Tryz.prog 226 #[nv n, .int .i64 5] w fun e W => e = .returned (.int .u64 (hf n 5)) /\ Mb w W := by
  refine fn_pure [nv n, .int .i64 5] Tryz.func226 rfl rfl rfl (run_ok (st mo ?_))
  repeat refine st mo ?_
  refine ⟨by decide, _, wz 2 rfl, st mo ⟨2, rfl, by decide, st mo ⟨_, rfl, st mo ⟨by decide, 1, rfl, st mo ⟨_, wz 32 rfl, st mo ⟨by decide, _, Int.fdiv_eq_ediv_of_nonneg _ (by decide), st mo ⟨by decide, hf n 5, ?_, st mo ?_⟩⟩⟩⟩⟩⟩⟩
  · show Int.tmod (_ / (2 ^ 32)) 4294967296 = _
    rw [Int.tmod_eq_emod_of_nonneg (by unfold l2; omega)]
    unfold hf l2; omega
  · rfl
set_option maxRecDepth 20000 in
theorem half6 (n : Int) (w : World) : Calls Tryz.prog 226 #[nv n, .int .i64 6] w fun e W => e = .returned (.int .u64 (hf n 6)) /\ Mb w W := by
  refine fn_pure [nv n, .int .i64 6] Tryz.func226 rfl rfl rfl (run_ok (st mo ?_))
  repeat refine st mo ?_
  refine ⟨by decide, _, wz 3 rfl, st mo ⟨3, rfl, by decide, st mo ⟨_, rfl, st mo ⟨by decide, 0, rfl, st mo ⟨_, wz 0 rfl, st mo ⟨by decide, _, Int.fdiv_eq_ediv_of_nonneg _ (by decide), st mo ⟨by decide, hf n 6, ?_, st mo ?_⟩⟩⟩⟩⟩⟩⟩
  · show Int.tmod (_ / (2 ^ 0)) 4294967296 = _
    rw [Int.tmod_eq_emod_of_nonneg (by unfold l3; omega)]
    unfold hf l3; omega
  · rfl
set_option maxRecDepth 20000 in
theorem half7 (n : Int) (w : World) : Calls Tryz.prog 226 #[nv n, .int .i64 7] w fun e W => e = .returned (.int .u64 (hf n 7)) /\ Mb w W := by
  refine fn_pure [nv n, .int .i64 7] Tryz.func226 rfl rfl rfl (run_ok (st mo ?_))
  repeat refine st mo ?_
  refine ⟨by decide, _, wz 3 rfl, st mo ⟨3, rfl, by decide, st mo ⟨_, rfl, st mo ⟨by decide, 1, rfl, st mo ⟨_, wz 32 rfl, st mo ⟨by decide, _, Int.fdiv_eq_ediv_of_nonneg _ (by decide), st mo ⟨by decide, hf n 7, ?_, st mo ?_⟩⟩⟩⟩⟩⟩⟩
  · show Int.tmod (_ / (2 ^ 32)) 4294967296 = _
    rw [Int.tmod_eq_emod_of_nonneg (by unfold l3; omega)]
    unfold hf l3; omega
  · rfl
def qs (n : Int) (k : Nat) : Int := n / 4294967296 ^ k / 10 * 4294967296 ^ k
abbrev J8 (n : Int) (X : World) (k : Nat) : St := ⟨⟨38, [(1, .int .u64 10), (2, .pointer (some ⟨0, 0, none⟩)), (4, .pointer (some ⟨1, 0, none⟩)), (6, .pointer (some ⟨2, 0, none⟩)), (7, .int .u64 (n / 4294967296 ^ k % 10)), (8, .int .i64 ((k : Int) - 1))]⟩, [(0, some [.int .u64 (l0 n), .int .u64 (l1 n), .int .u64 (l2 n), .int .u64 (l3 n)]), (1, some [.int .u64 0, .int .u64 0, .int .u64 0, .int .u64 0]), (2, some [.int .u64 (l0 (qs n k)), .int .u64 (l1 (qs n k)), .int .u64 (l2 (qs n k)), .int .u64 (l3 (qs n k))])], 3, X⟩
def xs (n : Int) (i : Nat) : Int := n / 4294967296 ^ (i + 1) % 10 * 4294967296 + hf n i
theorem xs_bd (n : Int) (i : Nat) : 0 <= xs n i /\ xs n i < 42949672960 := by have := hf_bd n i; unfold xs; omega
theorem hf_split (n : Int) (i : Nat) : n / 4294967296 ^ i = n / 4294967296 ^ (i + 1) * 4294967296 + hf n i := by
  have : n / 4294967296 ^ (i + 1) = n / 4294967296 ^ i / 4294967296 := by rw [Int.pow_succ, Int.ediv_ediv_of_nonneg (Int.pow_nonneg (by decide))]
  unfold hf; omega
theorem xs_mod (n : Int) (i : Nat) : xs n i % 10 = n / 4294967296 ^ i % 10 := by
  have := hf_split n i
  unfold xs; omega
theorem qs_eq (n : Int) (i : Nat) : qs n i = (n / 4294967296 ^ (i + 1) / 10 * 4294967296 + xs n i / 10) * 4294967296 ^ i := by
  have := hf_split n i
  unfold qs xs
  congr 1
  omega
theorem qs_at0 (n : Int) : l0 (qs n 0) = l0 (qs n 1) + xs n 0 / 10 * 1 /\ l1 (qs n 0) = l1 (qs n 1) /\ l2 (qs n 0) = l2 (qs n 1) /\ l3 (qs n 0) = l3 (qs n 1) := by
  have hb := xs_bd n 0
  rw [qs_eq n 0]
  rw [show qs n 1 = n / 4294967296 ^ (0 + 1) / 10 * 4294967296 ^ (0 + 1) from rfl]
  generalize xs n 0 = x at *
  generalize n / 4294967296 ^ (0 + 1) / 10 = y
  unfold l0 l1 l2 l3
  omega
theorem qs_at1 (n : Int) : l0 (qs n 1) = l0 (qs n 2) + xs n 1 / 10 * 4294967296 /\ l1 (qs n 1) = l1 (qs n 2) /\ l2 (qs n 1) = l2 (qs n 2) /\ l3 (qs n 1) = l3 (qs n 2) := by
  have hb := xs_bd n 1
  rw [qs_eq n 1]
  rw [show qs n 2 = n / 4294967296 ^ (1 + 1) / 10 * 4294967296 ^ (1 + 1) from rfl]
  generalize xs n 1 = x at *
  generalize n / 4294967296 ^ (1 + 1) / 10 = y
  unfold l0 l1 l2 l3
  omega
theorem qs_at2 (n : Int) : l1 (qs n 2) = l1 (qs n 3) + xs n 2 / 10 * 1 /\ l0 (qs n 2) = l0 (qs n 3) /\ l2 (qs n 2) = l2 (qs n 3) /\ l3 (qs n 2) = l3 (qs n 3) := by
  have hb := xs_bd n 2
  rw [qs_eq n 2]
  rw [show qs n 3 = n / 4294967296 ^ (2 + 1) / 10 * 4294967296 ^ (2 + 1) from rfl]
  generalize xs n 2 = x at *
  generalize n / 4294967296 ^ (2 + 1) / 10 = y
  unfold l0 l1 l2 l3
  omega
theorem qs_at3 (n : Int) : l1 (qs n 3) = l1 (qs n 4) + xs n 3 / 10 * 4294967296 /\ l0 (qs n 3) = l0 (qs n 4) /\ l2 (qs n 3) = l2 (qs n 4) /\ l3 (qs n 3) = l3 (qs n 4) := by
  have hb := xs_bd n 3
  rw [qs_eq n 3]
  rw [show qs n 4 = n / 4294967296 ^ (3 + 1) / 10 * 4294967296 ^ (3 + 1) from rfl]
  generalize xs n 3 = x at *
  generalize n / 4294967296 ^ (3 + 1) / 10 = y
  unfold l0 l1 l2 l3
  omega
theorem qs_at4 (n : Int) : l2 (qs n 4) = l2 (qs n 5) + xs n 4 / 10 * 1 /\ l0 (qs n 4) = l0 (qs n 5) /\ l1 (qs n 4) = l1 (qs n 5) /\ l3 (qs n 4) = l3 (qs n 5) := by
  have hb := xs_bd n 4
  rw [qs_eq n 4]
  rw [show qs n 5 = n / 4294967296 ^ (4 + 1) / 10 * 4294967296 ^ (4 + 1) from rfl]
  generalize xs n 4 = x at *
  generalize n / 4294967296 ^ (4 + 1) / 10 = y
  unfold l0 l1 l2 l3
  omega
theorem qs_at5 (n : Int) : l2 (qs n 5) = l2 (qs n 6) + xs n 5 / 10 * 4294967296 /\ l0 (qs n 5) = l0 (qs n 6) /\ l1 (qs n 5) = l1 (qs n 6) /\ l3 (qs n 5) = l3 (qs n 6) := by
  have hb := xs_bd n 5
  rw [qs_eq n 5]
  rw [show qs n 6 = n / 4294967296 ^ (5 + 1) / 10 * 4294967296 ^ (5 + 1) from rfl]
  generalize xs n 5 = x at *
  generalize n / 4294967296 ^ (5 + 1) / 10 = y
  unfold l0 l1 l2 l3
  omega
theorem qs_at6 (n : Int) : l3 (qs n 6) = l3 (qs n 7) + xs n 6 / 10 * 1 /\ l0 (qs n 6) = l0 (qs n 7) /\ l1 (qs n 6) = l1 (qs n 7) /\ l2 (qs n 6) = l2 (qs n 7) := by
  have hb := xs_bd n 6
  rw [qs_eq n 6]
  rw [show qs n 7 = n / 4294967296 ^ (6 + 1) / 10 * 4294967296 ^ (6 + 1) from rfl]
  generalize xs n 6 = x at *
  generalize n / 4294967296 ^ (6 + 1) / 10 = y
  unfold l0 l1 l2 l3
  omega
theorem qs_at7 (n : Int) : l3 (qs n 7) = l3 (qs n 8) + xs n 7 / 10 * 4294967296 /\ l0 (qs n 7) = l0 (qs n 8) /\ l1 (qs n 7) = l1 (qs n 8) /\ l2 (qs n 7) = l2 (qs n 8) := by
  have hb := xs_bd n 7
  rw [qs_eq n 7]
  rw [show qs n 8 = n / 4294967296 ^ (7 + 1) / 10 * 4294967296 ^ (7 + 1) from rfl]
  generalize xs n 7 = x at *
  generalize n / 4294967296 ^ (7 + 1) / 10 = y
  unfold l0 l1 l2 l3
  omega
set_option maxRecDepth 20000 in
theorem q_small (n : Int) (h0 : 0 <= n) (hn : n < MM) (w : World) : Calls Tryz.prog 220 #[nv n, .int .u64 10] w fun e W => e = .returned (.tuple #[nv (n / 10), .int .u64 (n % 10)]) /\ Mb w W := by
  refine fn_pure [nv n, .int .u64 10] Tryz.func220 rfl rfl rfl (run_ok (st mo ?_))
  repeat refine st mo ?_
  refine w_loop (J8 n w) (fun k => k <= 8) (fun k => k) 8 (by decide) [0, 1, 2] ⟨rfl, ⟨fv, fp, fp, fp, ?_, fv, trivial⟩, ⟨fl rfl rfl, fl rfl rfl, ?_, trivial⟩, xf, rfl, rfl⟩ ?_
  · refine fv ?_ rfl
    rw [show n / 4294967296 ^ 8 = 0 by unfold MM at hn; omega]; rfl
  · refine fl ?_ rfl
    rw [show qs n 8 = 0 by unfold qs; rw [show n / 4294967296 ^ 8 = 0 by unfold MM at hn; omega]; rfl]; rfl
  intro k hk
  have hc : k = 0 ∨ k = 1 ∨ k = 2 ∨ k = 3 ∨ k = 4 ∨ k = 5 ∨ k = 6 ∨ k = 7 ∨ k = 8 := by omega
  rcases hc with rfl | rfl | rfl | rfl | rfl | rfl | rfl | rfl | rfl
  · repeat refine st mo ?_
    refine ⟨fun hf => absurd hf (by decide), fun _ => ?_⟩
    repeat refine st mo ?_
    show _ = _
    rw [show qs n 0 = n / 10 by unfold qs; omega, show n / 4294967296 ^ 0 % 10 = n % 10 by omega]
    rfl
  · repeat refine st mo ?_
    refine ⟨fun _ => ?_, fun hf => absurd hf (by decide)⟩
    have hb := hf_bd n 0
    have hx := xs_bd n 0
    have hr : 0 <= n / 4294967296 ^ 1 % 10 /\ n / 4294967296 ^ 1 % 10 < 10 := by omega
    repeat refine st mo ?_
    refine ⟨by decide, n / 4294967296 ^ 1 % 10 * 4294967296, by show IntKind.u64.wrap (_ * 4294967296) = _; exact wu, st mo ⟨_, fun _ => r_call (t := .int .u64 (hf n 0)) rfl rfl Tryz.func226 (fun W M E => half0 n W), st mo ⟨xs n 0, wu rfl, st mo ⟨by decide, 0, wz 0 rfl, st mo ⟨0, rfl, by decide, st mo ⟨_, rfl, st mo ⟨by decide, xs n 0 / 10, ?_, st mo ⟨by decide, 0, rfl, st mo ⟨0, wz 0 rfl, st mo ⟨by decide, xs n 0 / 10 * 1, ?_, st mo ⟨l0 (qs n 0), ?_, st mo ⟨0, rfl, by decide, st mo ?_⟩⟩⟩⟩⟩⟩⟩⟩⟩⟩⟩⟩
    · rw [Int.tdiv_eq_ediv_of_nonneg hx.1]; exact wu
    · show IntKind.u64.wrap (_ * 1) = _; exact wu
    · rw [← (qs_at0 n).1]; have := u4_lb (qs n 0); unfold U4 U1 at this; exact wu
    · repeat refine st mo ?_
      refine ⟨Nat.le_of_ble_eq_true rfl, _, rfl, st mo ?_⟩
      repeat refine st mo ?_
      refine ⟨dk, st mo ?_⟩
      repeat refine st mo ?_
      refine ⟨by decide, n / 4294967296 ^ 0 % 10, by rw [Int.tmod_eq_emod_of_nonneg hx.1]; exact xs_mod n 0, st mo ⟨_, wi, st mo ?_⟩⟩
      obtain ⟨q1, q2, q3, q4⟩ := qs_at0 n
      refine ⟨0, by decide, by decide, [0, 1, 2], rfl, ⟨fv, fp, fp, fp, fv, fv, trivial⟩, ⟨fl rfl rfl, fl rfl rfl, fl (by rw [q2, q3, q4]; rfl) rfl, trivial⟩, xf, rfl, rfl⟩
  · repeat refine st mo ?_
    refine ⟨fun _ => ?_, fun hf => absurd hf (by decide)⟩
    have hb := hf_bd n 1
    have hx := xs_bd n 1
    have hr : 0 <= n / 4294967296 ^ 2 % 10 /\ n / 4294967296 ^ 2 % 10 < 10 := by omega
    repeat refine st mo ?_
    refine ⟨by decide, n / 4294967296 ^ 2 % 10 * 4294967296, by show IntKind.u64.wrap (_ * 4294967296) = _; exact wu, st mo ⟨_, fun _ => r_call (t := .int .u64 (hf n 1)) rfl rfl Tryz.func226 (fun W M E => half1 n W), st mo ⟨xs n 1, wu rfl, st mo ⟨by decide, 0, wz 0 rfl, st mo ⟨0, rfl, by decide, st mo ⟨_, rfl, st mo ⟨by decide, xs n 1 / 10, ?_, st mo ⟨by decide, 1, rfl, st mo ⟨32, wz 32 rfl, st mo ⟨by decide, xs n 1 / 10 * 4294967296, ?_, st mo ⟨l0 (qs n 1), ?_, st mo ⟨0, rfl, by decide, st mo ?_⟩⟩⟩⟩⟩⟩⟩⟩⟩⟩⟩⟩
    · rw [Int.tdiv_eq_ediv_of_nonneg hx.1]; exact wu
    · show IntKind.u64.wrap (_ * 4294967296) = _; exact wu
    · rw [← (qs_at1 n).1]; have := u4_lb (qs n 1); unfold U4 U1 at this; exact wu
    · repeat refine st mo ?_
      refine ⟨Nat.le_of_ble_eq_true rfl, _, rfl, st mo ?_⟩
      repeat refine st mo ?_
      refine ⟨dk, st mo ?_⟩
      repeat refine st mo ?_
      refine ⟨by decide, n / 4294967296 ^ 1 % 10, by rw [Int.tmod_eq_emod_of_nonneg hx.1]; exact xs_mod n 1, st mo ⟨_, wi, st mo ?_⟩⟩
      obtain ⟨q1, q2, q3, q4⟩ := qs_at1 n
      refine ⟨1, by decide, by decide, [0, 1, 2], rfl, ⟨fv, fp, fp, fp, fv, fv, trivial⟩, ⟨fl rfl rfl, fl rfl rfl, fl (by rw [q2, q3, q4]; rfl) rfl, trivial⟩, xf, rfl, rfl⟩
  · repeat refine st mo ?_
    refine ⟨fun _ => ?_, fun hf => absurd hf (by decide)⟩
    have hb := hf_bd n 2
    have hx := xs_bd n 2
    have hr : 0 <= n / 4294967296 ^ 3 % 10 /\ n / 4294967296 ^ 3 % 10 < 10 := by omega
    repeat refine st mo ?_
    refine ⟨by decide, n / 4294967296 ^ 3 % 10 * 4294967296, by show IntKind.u64.wrap (_ * 4294967296) = _; exact wu, st mo ⟨_, fun _ => r_call (t := .int .u64 (hf n 2)) rfl rfl Tryz.func226 (fun W M E => half2 n W), st mo ⟨xs n 2, wu rfl, st mo ⟨by decide, 1, wz 1 rfl, st mo ⟨1, rfl, by decide, st mo ⟨_, rfl, st mo ⟨by decide, xs n 2 / 10, ?_, st mo ⟨by decide, 0, rfl, st mo ⟨0, wz 0 rfl, st mo ⟨by decide, xs n 2 / 10 * 1, ?_, st mo ⟨l1 (qs n 2), ?_, st mo ⟨1, rfl, by decide, st mo ?_⟩⟩⟩⟩⟩⟩⟩⟩⟩⟩⟩⟩
    · rw [Int.tdiv_eq_ediv_of_nonneg hx.1]; exact wu
    · show IntKind.u64.wrap (_ * 1) = _; exact wu
    · rw [← (qs_at2 n).1]; have := u4_lb (qs n 2); unfold U4 U1 at this; exact wu
    · repeat refine st mo ?_
      refine ⟨Nat.le_of_ble_eq_true rfl, _, rfl, st mo ?_⟩
      repeat refine st mo ?_
      refine ⟨dk, st mo ?_⟩
      repeat refine st mo ?_
      refine ⟨by decide, n / 4294967296 ^ 2 % 10, by rw [Int.tmod_eq_emod_of_nonneg hx.1]; exact xs_mod n 2, st mo ⟨_, wi, st mo ?_⟩⟩
      obtain ⟨q1, q2, q3, q4⟩ := qs_at2 n
      refine ⟨2, by decide, by decide, [0, 1, 2], rfl, ⟨fv, fp, fp, fp, fv, fv, trivial⟩, ⟨fl rfl rfl, fl rfl rfl, fl (by rw [q2, q3, q4]; rfl) rfl, trivial⟩, xf, rfl, rfl⟩
  · repeat refine st mo ?_
    refine ⟨fun _ => ?_, fun hf => absurd hf (by decide)⟩
    have hb := hf_bd n 3
    have hx := xs_bd n 3
    have hr : 0 <= n / 4294967296 ^ 4 % 10 /\ n / 4294967296 ^ 4 % 10 < 10 := by omega
    repeat refine st mo ?_
    refine ⟨by decide, n / 4294967296 ^ 4 % 10 * 4294967296, by show IntKind.u64.wrap (_ * 4294967296) = _; exact wu, st mo ⟨_, fun _ => r_call (t := .int .u64 (hf n 3)) rfl rfl Tryz.func226 (fun W M E => half3 n W), st mo ⟨xs n 3, wu rfl, st mo ⟨by decide, 1, wz 1 rfl, st mo ⟨1, rfl, by decide, st mo ⟨_, rfl, st mo ⟨by decide, xs n 3 / 10, ?_, st mo ⟨by decide, 1, rfl, st mo ⟨32, wz 32 rfl, st mo ⟨by decide, xs n 3 / 10 * 4294967296, ?_, st mo ⟨l1 (qs n 3), ?_, st mo ⟨1, rfl, by decide, st mo ?_⟩⟩⟩⟩⟩⟩⟩⟩⟩⟩⟩⟩
    · rw [Int.tdiv_eq_ediv_of_nonneg hx.1]; exact wu
    · show IntKind.u64.wrap (_ * 4294967296) = _; exact wu
    · rw [← (qs_at3 n).1]; have := u4_lb (qs n 3); unfold U4 U1 at this; exact wu
    · repeat refine st mo ?_
      refine ⟨Nat.le_of_ble_eq_true rfl, _, rfl, st mo ?_⟩
      repeat refine st mo ?_
      refine ⟨dk, st mo ?_⟩
      repeat refine st mo ?_
      refine ⟨by decide, n / 4294967296 ^ 3 % 10, by rw [Int.tmod_eq_emod_of_nonneg hx.1]; exact xs_mod n 3, st mo ⟨_, wi, st mo ?_⟩⟩
      obtain ⟨q1, q2, q3, q4⟩ := qs_at3 n
      refine ⟨3, by decide, by decide, [0, 1, 2], rfl, ⟨fv, fp, fp, fp, fv, fv, trivial⟩, ⟨fl rfl rfl, fl rfl rfl, fl (by rw [q2, q3, q4]; rfl) rfl, trivial⟩, xf, rfl, rfl⟩
  · repeat refine st mo ?_
    refine ⟨fun _ => ?_, fun hf => absurd hf (by decide)⟩
    have hb := hf_bd n 4
    have hx := xs_bd n 4
    have hr : 0 <= n / 4294967296 ^ 5 % 10 /\ n / 4294967296 ^ 5 % 10 < 10 := by omega
    repeat refine st mo ?_
    refine ⟨by decide, n / 4294967296 ^ 5 % 10 * 4294967296, by show IntKind.u64.wrap (_ * 4294967296) = _; exact wu, st mo ⟨_, fun _ => r_call (t := .int .u64 (hf n 4)) rfl rfl Tryz.func226 (fun W M E => half4 n W), st mo ⟨xs n 4, wu rfl, st mo ⟨by decide, 2, wz 2 rfl, st mo ⟨2, rfl, by decide, st mo ⟨_, rfl, st mo ⟨by decide, xs n 4 / 10, ?_, st mo ⟨by decide, 0, rfl, st mo ⟨0, wz 0 rfl, st mo ⟨by decide, xs n 4 / 10 * 1, ?_, st mo ⟨l2 (qs n 4), ?_, st mo ⟨2, rfl, by decide, st mo ?_⟩⟩⟩⟩⟩⟩⟩⟩⟩⟩⟩⟩
    · rw [Int.tdiv_eq_ediv_of_nonneg hx.1]; exact wu
    · show IntKind.u64.wrap (_ * 1) = _; exact wu
    · rw [← (qs_at4 n).1]; have := u4_lb (qs n 4); unfold U4 U1 at this; exact wu
    · repeat refine st mo ?_
      refine ⟨Nat.le_of_ble_eq_true rfl, _, rfl, st mo ?_⟩
      repeat refine st mo ?_
      refine ⟨dk, st mo ?_⟩
      repeat refine st mo ?_
      refine ⟨by decide, n / 4294967296 ^ 4 % 10, by rw [Int.tmod_eq_emod_of_nonneg hx.1]; exact xs_mod n 4, st mo ⟨_, wi, st mo ?_⟩⟩
      obtain ⟨q1, q2, q3, q4⟩ := qs_at4 n
      refine ⟨4, by decide, by decide, [0, 1, 2], rfl, ⟨fv, fp, fp, fp, fv, fv, trivial⟩, ⟨fl rfl rfl, fl rfl rfl, fl (by rw [q2, q3, q4]; rfl) rfl, trivial⟩, xf, rfl, rfl⟩
  · repeat refine st mo ?_
    refine ⟨fun _ => ?_, fun hf => absurd hf (by decide)⟩
    have hb := hf_bd n 5
    have hx := xs_bd n 5
    have hr : 0 <= n / 4294967296 ^ 6 % 10 /\ n / 4294967296 ^ 6 % 10 < 10 := by omega
    repeat refine st mo ?_
    refine ⟨by decide, n / 4294967296 ^ 6 % 10 * 4294967296, by show IntKind.u64.wrap (_ * 4294967296) = _; exact wu, st mo ⟨_, fun _ => r_call (t := .int .u64 (hf n 5)) rfl rfl Tryz.func226 (fun W M E => half5 n W), st mo ⟨xs n 5, wu rfl, st mo ⟨by decide, 2, wz 2 rfl, st mo ⟨2, rfl, by decide, st mo ⟨_, rfl, st mo ⟨by decide, xs n 5 / 10, ?_, st mo ⟨by decide, 1, rfl, st mo ⟨32, wz 32 rfl, st mo ⟨by decide, xs n 5 / 10 * 4294967296, ?_, st mo ⟨l2 (qs n 5), ?_, st mo ⟨2, rfl, by decide, st mo ?_⟩⟩⟩⟩⟩⟩⟩⟩⟩⟩⟩⟩
    · rw [Int.tdiv_eq_ediv_of_nonneg hx.1]; exact wu
    · show IntKind.u64.wrap (_ * 4294967296) = _; exact wu
    · rw [← (qs_at5 n).1]; have := u4_lb (qs n 5); unfold U4 U1 at this; exact wu
    · repeat refine st mo ?_
      refine ⟨Nat.le_of_ble_eq_true rfl, _, rfl, st mo ?_⟩
      repeat refine st mo ?_
      refine ⟨dk, st mo ?_⟩
      repeat refine st mo ?_
      refine ⟨by decide, n / 4294967296 ^ 5 % 10, by rw [Int.tmod_eq_emod_of_nonneg hx.1]; exact xs_mod n 5, st mo ⟨_, wi, st mo ?_⟩⟩
      obtain ⟨q1, q2, q3, q4⟩ := qs_at5 n
      refine ⟨5, by decide, by decide, [0, 1, 2], rfl, ⟨fv, fp, fp, fp, fv, fv, trivial⟩, ⟨fl rfl rfl, fl rfl rfl, fl (by rw [q2, q3, q4]; rfl) rfl, trivial⟩, xf, rfl, rfl⟩
  · repeat refine st mo ?_
    refine ⟨fun _ => ?_, fun hf => absurd hf (by decide)⟩
    have hb := hf_bd n 6
    have hx := xs_bd n 6
    have hr : 0 <= n / 4294967296 ^ 7 % 10 /\ n / 4294967296 ^ 7 % 10 < 10 := by omega
    repeat refine st mo ?_
    refine ⟨by decide, n / 4294967296 ^ 7 % 10 * 4294967296, by show IntKind.u64.wrap (_ * 4294967296) = _; exact wu, st mo ⟨_, fun _ => r_call (t := .int .u64 (hf n 6)) rfl rfl Tryz.func226 (fun W M E => half6 n W), st mo ⟨xs n 6, wu rfl, st mo ⟨by decide, 3, wz 3 rfl, st mo ⟨3, rfl, by decide, st mo ⟨_, rfl, st mo ⟨by decide, xs n 6 / 10, ?_, st mo ⟨by decide, 0, rfl, st mo ⟨0, wz 0 rfl, st mo ⟨by decide, xs n 6 / 10 * 1, ?_, st mo ⟨l3 (qs n 6), ?_, st mo ⟨3, rfl, by decide, st mo ?_⟩⟩⟩⟩⟩⟩⟩⟩⟩⟩⟩⟩
    · rw [Int.tdiv_eq_ediv_of_nonneg hx.1]; exact wu
    · show IntKind.u64.wrap (_ * 1) = _; exact wu
    · rw [← (qs_at6 n).1]; have := u4_lb (qs n 6); unfold U4 U1 at this; exact wu
    · repeat refine st mo ?_
      refine ⟨Nat.le_of_ble_eq_true rfl, _, rfl, st mo ?_⟩
      repeat refine st mo ?_
      refine ⟨dk, st mo ?_⟩
      repeat refine st mo ?_
      refine ⟨by decide, n / 4294967296 ^ 6 % 10, by rw [Int.tmod_eq_emod_of_nonneg hx.1]; exact xs_mod n 6, st mo ⟨_, wi, st mo ?_⟩⟩
      obtain ⟨q1, q2, q3, q4⟩ := qs_at6 n
      refine ⟨6, by decide, by decide, [0, 1, 2], rfl, ⟨fv, fp, fp, fp, fv, fv, trivial⟩, ⟨fl rfl rfl, fl rfl rfl, fl (by rw [q2, q3, q4]; rfl) rfl, trivial⟩, xf, rfl, rfl⟩
  · repeat refine st mo ?_
    refine ⟨fun _ => ?_, fun hf => absurd hf (by decide)⟩
    have hb := hf_bd n 7
    have hx := xs_bd n 7
    have hr : 0 <= n / 4294967296 ^ 8 % 10 /\ n / 4294967296 ^ 8 % 10 < 10 := by omega
    repeat refine st mo ?_
    refine ⟨by decide, n / 4294967296 ^ 8 % 10 * 4294967296, by show IntKind.u64.wrap (_ * 4294967296) = _; exact wu, st mo ⟨_, fun _ => r_call (t := .int .u64 (hf n 7)) rfl rfl Tryz.func226 (fun W M E => half7 n W), st mo ⟨xs n 7, wu rfl, st mo ⟨by decide, 3, wz 3 rfl, st mo ⟨3, rfl, by decide, st mo ⟨_, rfl, st mo ⟨by decide, xs n 7 / 10, ?_, st mo ⟨by decide, 1, rfl, st mo ⟨32, wz 32 rfl, st mo ⟨by decide, xs n 7 / 10 * 4294967296, ?_, st mo ⟨l3 (qs n 7), ?_, st mo ⟨3, rfl, by decide, st mo ?_⟩⟩⟩⟩⟩⟩⟩⟩⟩⟩⟩⟩
    · rw [Int.tdiv_eq_ediv_of_nonneg hx.1]; exact wu
    · show IntKind.u64.wrap (_ * 4294967296) = _; exact wu
    · rw [← (qs_at7 n).1]; have := u4_lb (qs n 7); unfold U4 U1 at this; exact wu
    · repeat refine st mo ?_
      refine ⟨Nat.le_of_ble_eq_true rfl, _, rfl, st mo ?_⟩
      repeat refine st mo ?_
      refine ⟨dk, st mo ?_⟩
      repeat refine st mo ?_
      refine ⟨by decide, n / 4294967296 ^ 7 % 10, by rw [Int.tmod_eq_emod_of_nonneg hx.1]; exact xs_mod n 7, st mo ⟨_, wi, st mo ?_⟩⟩
      obtain ⟨q1, q2, q3, q4⟩ := qs_at7 n
      refine ⟨7, by decide, by decide, [0, 1, 2], rfl, ⟨fv, fp, fp, fp, fv, fv, trivial⟩, ⟨fl rfl rfl, fl rfl rfl, fl (by rw [q2, q3, q4]; rfl) rfl, trivial⟩, xf, rfl, rfl⟩
end Go.Proofs.YtpabcmaeaiaknaaGreatDoor
namespace Go.Proofs.YtpabcmaeaiaknaaGreatDoor
open Go.RowKit
section runs
variable {P : Program} {w : World} {k : Nat} {vs : List Value}
end runs
def look : List (Nat × Value) -> Nat -> Value
  | [], _ => undef
  | (d, v) :: l, t => bif Nat.beq d t then v else look l t
def fr (n : Nat) (l : List (Nat × Value)) : Act := { tmps := Array.ofFn (n := n) fun i => look l i, defers := [] }
section steps
variable {P : Program} {o : Oper} {n : Nat} {l : List (Nat × Value)} {w : World} {ops : Array Oper} {rest : List Oper} {Q : Exit -> Act -> World -> Prop} {K : Act -> World -> Prop}
end steps
end Go.Proofs.YtpabcmaeaiaknaaGreatDoor
namespace Go.Proofs.YtpabcmaeaiaknaaGreatDoor
structure Gs (u d h l q r : Int) : Prop where
  hh : 2147483648 <= h
  hh2 : h < 4294967296
  hl : 0 <= l
  hl2 : l < 4294967296
  hd : 0 <= d
  hd2 : d < 4294967296
  hu : 0 <= u
  hu2 : u < h * 4294967296 + l
  hq : 0 <= q
  hr : 0 <= r
  hr2 : r < 4294967296
  hqr : q * h + r = u
  ht : (u * 4294967296 + d) / (h * 4294967296 + l) <= q
theorem Gs.qy {h l : Int} (q : Int) : q * (h * 4294967296 + l) = q * h * 4294967296 + q * l := by
  rw [Int.mul_add, Int.mul_assoc]
theorem Gs.tlt {u d h l q r : Int} (g : Gs u d h l q r) : (u * 4294967296 + d) / (h * 4294967296 + l) < 4294967296 := by
  have := g.hh; have := g.hl; have := g.hu2; have := g.hd2
  apply Int.ediv_lt_of_lt_mul (by omega)
  have : 4294967296 * (h * 4294967296 + l) ≥ 4294967296 * (u + 1) := Int.mul_le_mul_of_nonneg_left (by omega) (by decide)
  omega
theorem Gs.start {u d h l : Int} (hh : 2147483648 <= h) (hh2 : h < 4294967296) (hl : 0 <= l) (hl2 : l < 4294967296) (hd : 0 <= d) (hd2 : d < 4294967296) (hu : 0 <= u) (hu2 : u < h * 4294967296 + l) :
    Gs u d h l (u / h) (u % h) := by
  have e := Int.emod_lt_of_pos u (show 0 < h by omega)
  have e0 := Int.emod_nonneg u (show h ≠ 0 by omega)
  have e1 : u / h * h + u % h = u := by rw [Int.mul_comm]; exact Int.mul_ediv_add_emod u h
  refine ⟨hh, hh2, hl, hl2, hd, hd2, hu, hu2, Int.ediv_nonneg hu (by omega), e0, by omega, e1, ?_⟩
  have hy : 0 < h * 4294967296 + l := by omega
  have t := Int.ediv_mul_le (u * 4294967296 + d) (show h * 4294967296 + l ≠ 0 by omega)
  have tn : 0 <= (u * 4294967296 + d) / (h * 4294967296 + l) := Int.ediv_nonneg (by omega) (by omega)
  generalize (u * 4294967296 + d) / (h * 4294967296 + l) = T at *
  rw [Gs.qy] at t
  have : 0 <= T * l := Int.mul_nonneg tn hl
  exact (Int.le_ediv_iff_mul_le (by omega)).2 (by omega)
theorem Gs.fit {u d h l q r : Int} (g : Gs u d h l q r) (hq : q < 4294967296) : 0 <= q * l /\ q * l < 18446744073709551616 := by
  have := g.hl; have := g.hl2; have := g.hq
  refine ⟨Int.mul_nonneg g.hq g.hl, ?_⟩
  have : q * l <= 4294967295 * 4294967295 := Int.mul_le_mul (by omega) (by omega) g.hl (by decide)
  omega
theorem Gs.done {u d h l q r : Int} (g : Gs u d h l q r) (ht : q * l <= 4294967296 * r + d) : q = (u * 4294967296 + d) / (h * 4294967296 + l) := by
  have := g.ht
  have hy : 0 < h * 4294967296 + l := by have := g.hh; have := g.hl; omega
  have : q <= (u * 4294967296 + d) / (h * 4294967296 + l) := by
    apply (Int.le_ediv_iff_mul_le hy).2
    rw [Gs.qy]
    have := g.hqr
    omega
  omega
theorem Gs.down {u d h l q r : Int} (g : Gs u d h l q r) (ht : 4294967296 <= q ∨ 4294967296 * r + d < q * l) : 1 <= q /\ (u * 4294967296 + d) / (h * 4294967296 + l) <= q - 1 := by
  have hy : 0 < h * 4294967296 + l := by have := g.hh; have := g.hl; omega
  have tn : 0 <= (u * 4294967296 + d) / (h * 4294967296 + l) := by have := g.hu; have := g.hd; exact Int.ediv_nonneg (by omega) (by omega)
  have tl := g.tlt
  rcases ht with ht | ht
  · omega
  · have : (u * 4294967296 + d) / (h * 4294967296 + l) < q := by
      apply Int.ediv_lt_of_lt_mul hy
      rw [Gs.qy]
      have := g.hqr
      omega
    omega
theorem Gs.next {u d h l q r : Int} (g : Gs u d h l q r) (ht : 4294967296 <= q ∨ 4294967296 * r + d < q * l) (hr : r + h < 4294967296) : Gs u d h l (q - 1) (r + h) := by
  obtain ⟨d1, d2⟩ := g.down ht
  refine ⟨g.hh, g.hh2, g.hl, g.hl2, g.hd, g.hd2, g.hu, g.hu2, by omega, ?_, hr, ?_, d2⟩
  · have := g.hr; have := g.hh; omega
  · have := g.hqr; rw [Int.sub_mul]; omega
theorem Gs.stop {u d h l q r : Int} (g : Gs u d h l q r) (ht : 4294967296 <= q ∨ 4294967296 * r + d < q * l) (hr : 4294967296 <= r + h) : q - 1 = (u * 4294967296 + d) / (h * 4294967296 + l) := by
  obtain ⟨d1, d2⟩ := g.down ht
  have hy : 0 < h * 4294967296 + l := by have := g.hh; have := g.hl; omega
  have e : (q - 1) * h + (r + h) = u := by have := g.hqr; rw [Int.sub_mul]; omega
  have lt : q - 1 < 4294967296 := by
    apply Int.lt_of_not_ge
    intro hge
    have := Int.mul_le_mul_of_nonneg_right (c := h) hge (by have := g.hh; omega)
    have := g.hu2; have := g.hl2
    omega
  have m : (q - 1) * l <= 4294967295 * 4294967295 := Int.mul_le_mul (by omega) (by have := g.hl2; omega) g.hl (by decide)
  have : q - 1 <= (u * 4294967296 + d) / (h * 4294967296 + l) := by
    apply (Int.le_ediv_iff_mul_le hy).2
    rw [Gs.qy]
    have := g.hd
    omega
  omega
end Go.Proofs.YtpabcmaeaiaknaaGreatDoor
namespace Go.Proofs.YtpabcmaeaiaknaaGreatDoor
open Go.RowKit
set_option maxHeartbeats 1000000 in
theorem div64_0 (lo y : Int) (w : World) (h0 : 0 <= lo) (h1 : lo < 18446744073709551616) (h2 : 0 < y) (h3 : y < 18446744073709551616) :
    Calls Tryz.prog 260 #[.int .u64 0, .int .u64 lo, .int .u64 y] w fun e w' =>
      e = .returned (.tuple #[.int .u64 (lo / y), .int .u64 (lo % y)]) /\ ∃ n, w' = w.drewN n := by
  have hy : (y == 0) = false := by rw [beq_eq_false_iff_ne]; omega
  have hy2 : ¬ y <= 0 := by omega
  have hy3 : y ≠ 0 := by omega
  go_enter Tryz.func260, Tryz.ntmps260
  go_wp2
  go_quiet (fail)
  go_wp2
  go_ret2
  exact ⟨rfl, _, rfl⟩
end Go.Proofs.YtpabcmaeaiaknaaGreatDoor
namespace Go.Proofs
open Go.Shelf
def Tryz.lays134_ren : Go.Shelf.Ren := ⟨fun | 134 => 276 | 129 => 253 | n => n, fun | 53 => 22 | 3 => 3 | 4 => 4 | 46 => 227 | 5 => 5 | 9 => 9 | n => n, fun | n => n⟩
theorem Tryz.lays134 : Go.Proofs.Lays.n134 Tryz.prog Tryz.lays134_ren := {
  mixed := by kernel_rfl
  f129 := Tryz.func253.trans (congrArg some (by kernel_rfl))
  f134 := Tryz.func276.trans (congrArg some (by kernel_rfl))
  t3 := Tryz.underlying3
  a3 := Tryz.isAgg3
  z3 := Tryz.sizeOf3
  v3 := Tryz.zeroValue3
  t4 := Tryz.underlying4
  a4 := Tryz.isAgg4
  z4 := Tryz.sizeOf4
  v4 := Tryz.zeroValue4
  t5 := Tryz.underlying5
  a5 := Tryz.isAgg5
  z5 := Tryz.sizeOf5
  v5 := Tryz.zeroValue5
  t9 := Tryz.underlying9
  a9 := Tryz.isAgg9
  z9 := Tryz.sizeOf9
  v9 := Tryz.zeroValue9
  t46 := Tryz.underlying227
  a46 := Tryz.isAgg227
  z46 := Tryz.sizeOf227
  v46 := Tryz.zeroValue227
  t53 := Tryz.underlying22
  a53 := Tryz.isAgg22
  z53 := Tryz.sizeOf22
  v53 := Tryz.zeroValue22 }
theorem Tryz.bits_LeadingZeros64 (x : Int) (w : World) (h0 : 0 <= x) (h1 : x <= 18446744073709551615) :
    Calls Tryz.prog 276 #[.int .u64 x] w fun e w' => e = .returned (.int .i64 (64 - (Lib.bitLen x.toNat : Int))) /\ w' = w := Any.bits_LeadingZeros64 Tryz.lays134 x w h0 h1
end Go.Proofs
namespace Go.Proofs.YtpabcmaeaiaknaaGreatDoor
open Go.RowKit
theorem bitLen_zero : Lib.bitLen 0 = 0 := by decide
theorem bitLen_bd : ∀ (k x : Nat), x < 2 ^ k -> k <= 64 -> x ≠ 0 -> 1 <= Lib.bitLen x /\ Lib.bitLen x <= k /\ 2 ^ (Lib.bitLen x - 1) <= x /\ x < 2 ^ Lib.bitLen x
  | 0, x, h, _, h0 => by simp at h; omega
  | k + 1, x, h, hk, h0 => by
    have h64 : x < 2 ^ 64 := Nat.lt_of_lt_of_le h (Nat.pow_le_pow_right (n := 2) (by decide) hk)
    have e := Lib.bitLen_half x h0 h64
    by_cases hx : x / 2 = 0
    · rw [hx, bitLen_zero] at e
      have : x = 1 := by omega
      subst this
      rw [e]; simp
    · have h2 : x / 2 < 2 ^ k := by rw [Nat.pow_succ] at h; omega
      obtain ⟨a, b, c, d⟩ := bitLen_bd k (x / 2) h2 (by omega) hx
      rw [e]
      generalize Lib.bitLen (x / 2) = m at *
      obtain ⟨m, rfl⟩ : ∃ j, m = j + 1 := ⟨m - 1, by omega⟩
      have c' : 2 ^ m <= x / 2 := by simpa using c
      refine ⟨by omega, by omega, ?_, ?_⟩
      · rw [show 1 + (m + 1) - 1 = m + 1 from by omega, Nat.pow_succ]; omega
      · rw [show 1 + (m + 1) = m + 1 + 1 from by omega, Nat.pow_succ]; omega
theorem lead (y : Int) (h0 : 0 < y) (h1 : y < 18446744073709551616) : ∃ k : Nat, (64 - (Lib.bitLen y.toNat : Int)) = k /\ k <= 63 /\ 9223372036854775808 <= y * 2 ^ k /\ y * 2 ^ k < 18446744073709551616 := by
  obtain ⟨x, rfl⟩ := Int.eq_ofNat_of_zero_le (show 0 <= y by omega)
  obtain ⟨a, b, c, d⟩ := bitLen_bd 64 x (by omega) (by omega) (by omega)
  refine ⟨64 - Lib.bitLen x, ?_, by omega, ?_, ?_⟩
  · simp; omega
  · have h : 2 ^ (Lib.bitLen x - 1) * 2 ^ (64 - Lib.bitLen x) <= x * 2 ^ (64 - Lib.bitLen x) := Nat.mul_le_mul_right _ c
    rw [← Nat.pow_add, show Lib.bitLen x - 1 + (64 - Lib.bitLen x) = 63 from by omega] at h
    have e : ((x * 2 ^ (64 - Lib.bitLen x) : Nat) : Int) = (x : Int) * 2 ^ (64 - Lib.bitLen x) := by rw [Int.natCast_mul, Int.natCast_pow]; rfl
    rw [← e]
    generalize x * 2 ^ (64 - Lib.bitLen x) = z at *
    omega
  · have h : x * 2 ^ (64 - Lib.bitLen x) < 2 ^ Lib.bitLen x * 2 ^ (64 - Lib.bitLen x) := Nat.mul_lt_mul_of_pos_right d (Nat.pow_pos (by decide))
    rw [← Nat.pow_add, show Lib.bitLen x + (64 - Lib.bitLen x) = 64 from by omega] at h
    have e : ((x * 2 ^ (64 - Lib.bitLen x) : Nat) : Int) = (x : Int) * 2 ^ (64 - Lib.bitLen x) := by rw [Int.natCast_mul, Int.natCast_pow]; rfl
    rw [← e]
    generalize x * 2 ^ (64 - Lib.bitLen x) = z at *
    omega

theorem div_fit {u h : Int} (hu : 0 <= u) (hh : 0 < h) : 0 <= u / h /\ u / h <= u /\ 0 <= u / h * h /\ u / h * h <= u := by
  have a := Int.ediv_nonneg hu (show 0 <= h by omega)
  have b := Int.ediv_mul_le u (show h ≠ 0 by omega)
  refine ⟨a, ?_, Int.mul_nonneg a (by omega), b⟩
  exact Int.ediv_le_self h hu
theorem mod_sub (u h : Int) : u % h = u - u / h * h := by rw [Int.emod_def, Int.mul_comm]

set_option maxHeartbeats 2000000 in
theorem div64_core (hi lo y Y h l u v d1 d0 T1 R1 T0 R0 : Int) (k : Nat) (w : World) (h0 : 0 < hi) (h1 : hi < y) (_h2 : 0 <= lo) (_h3 : lo < 18446744073709551616) (h4 : y < 18446744073709551616)
    (hk : Hid ((64 - (Lib.bitLen y.toNat : Int)) = k)) (hk2 : k <= 63)
    (eY : IntKind.u64.wrap (y * 2 ^ k) = Y) (eh : Y / 4294967296 = h) (el : bits .and .u64 Y 4294967295 = l)
    (eu : bits .or .u64 (IntKind.u64.wrap (hi * 2 ^ k)) (lo / 2 ^ (64 - k)) = u) (ev : IntKind.u64.wrap (lo * 2 ^ k) = v) (e1 : v / 4294967296 = d1) (e0 : bits .and .u64 v 4294967295 = d0)
    (hY : Hid (Y = h * 4294967296 + l)) (bh : 2147483648 <= h) (bh2 : h < 4294967296) (bl : 0 <= l) (bl2 : l < 4294967296) (bd1 : 0 <= d1) (bd1' : d1 < 4294967296) (bd0 : 0 <= d0) (bd0' : d0 < 4294967296) (bu : 0 <= u) (bu2 : u < Y) (bY2 : Y < 18446744073709551616)
    (q1 : Hid (T1 = (u * 4294967296 + d1) / Y)) (q2 : Hid (R1 = (u * 4294967296 + d1) % Y)) (q3 : Hid (T0 = (R1 * 4294967296 + d0) / Y)) (q4 : Hid (R0 = (R1 * 4294967296 + d0) % Y))
    (bT1 : 0 <= T1) (bT1' : T1 < 4294967296) (bR1 : 0 <= R1) (bR1' : R1 < Y) (bT0 : 0 <= T0) (bT0' : T0 < 4294967296) (bR0 : 0 <= R0) (bR0' : R0 < Y) :
    Calls Tryz.prog 260 #[.int .u64 hi, .int .u64 lo, .int .u64 y] w fun e w' =>
      e = .returned (.tuple #[.int .u64 (T1 * 4294967296 + T0), .int .u64 (R0 / 2 ^ k)]) /\ w' = w := by
  have hy : (y == 0) = false := by rw [beq_eq_false_iff_ne]; omega
  have hy2 : ¬ y <= hi := by omega
  have hh : (hi == 0) = false := by rw [beq_eq_false_iff_ne]; omega
  have hh0 : h ≠ 0 := by omega
  obtain ⟨a1, a2, a3, a4⟩ := div_fit bu (show 0 < h by omega)
  obtain ⟨a5, a6, a7, a8⟩ := div_fit bR1 (show 0 < h by omega)
  have r1 : IntKind.u64.wrap (IntKind.u64.wrap (IntKind.u64.wrap (u * 4294967296) + d1) - IntKind.u64.wrap (T1 * Y)) = R1 := by
    have := q2.out; have e := q1.out
    have m := mod_sub (u * 4294967296 + d1) Y
    rw [← e] at m
    simp only [IntKind.wrap_u64]
    omega
  have r0 : IntKind.u64.wrap (IntKind.u64.wrap (IntKind.u64.wrap (R1 * 4294967296) + d0) - IntKind.u64.wrap (T0 * Y)) = R0 := by
    have := q4.out; have e := q3.out
    have m := mod_sub (R1 * 4294967296 + d0) Y
    rw [← e] at m
    simp only [IntKind.wrap_u64]
    omega
  have G1 : Gs u d1 h l (u / h) (u - u / h * h) := by
    rw [← mod_sub]; exact Gs.start bh bh2 bl bl2 bd1 bd1' bu (by rw [← hY.out]; exact bu2)
  have G0 : Gs R1 d0 h l (R1 / h) (R1 - R1 / h * h) := by
    rw [← mod_sub]; exact Gs.start bh bh2 bl bl2 bd0 bd0' bR1 (by rw [← hY.out]; exact bR1')
  have Hr1 : Hid _ := r1
  have Hr0 : Hid _ := r0
  clear r1 r0
  go_enter Tryz.func260, Tryz.ntmps260
  go_upto_block 0 with (go_at_call 276; refine (Tryz.bits_LeadingZeros64 y _ (by omega) (by omega)).mono ?_; rintro e w' ⟨rfl, rfl⟩; rw [hk.out])
  go_cut [15, 16] from 67 to 85 (fun a _ wx => a = .int .u64 T1 /\ wx = w')
  case first =>
    go_wp2
    go_loop [15, 16] (fun a b => ∃ q r : Int, a = .int .u64 q /\ b = .int .u64 r /\ Gs u d1 h l q r) (fun a _ => (intOf a).toNat)
    case atStart => exact ⟨_, _, rfl, rfl, G1⟩
    case round =>
      obtain ⟨q, r, rfl, rfl, g⟩ := hrel
      have i1 := g.hq
      have i2 := g.hr
      have i3 := g.hr2
      have i4 : q <= u := by
        have m1 : q * 1 <= q * h := Int.mul_le_mul_of_nonneg_left (show (1 : Int) <= h by omega) i1
        have m2 := g.hqr
        omega
      by_cases hq : 4294967296 <= q
      · obtain ⟨j1, _⟩ := g.down (Or.inl hq)
        by_cases hs : 4294967296 <= r + h
        · have hT : q - 1 = T1 := by rw [q1.out, hY.out]; exact g.stop (Or.inl hq) hs
          have HT : Hid _ := hT
          clear hT
          go_wp2
          go_meet
          case rel => exact ⟨by rw [HT.out], rfl⟩
        · go_wp2
          go_round
          case rel => exact ⟨_, _, rfl, rfl, g.next (Or.inl hq) (by omega)⟩
          case measure => simp [intOf]; omega
      · obtain ⟨f1, f2⟩ := g.fit (by omega)
        by_cases ht : 4294967296 * r + d1 < q * l
        · obtain ⟨j1, _⟩ := g.down (Or.inr ht)
          by_cases hs : 4294967296 <= r + h
          · have hT : q - 1 = T1 := by rw [q1.out, hY.out]; exact g.stop (Or.inr ht) hs
            have HT : Hid _ := hT
            clear hT
            go_wp2
            go_meet
            case rel => exact ⟨by rw [HT.out], rfl⟩
          · go_wp2
            go_round
            case rel => exact ⟨_, _, rfl, rfl, g.next (Or.inr ht) (by omega)⟩
            case measure => simp [intOf]; omega
        · have hT : q = T1 := by rw [q1.out, hY.out]; exact g.done (by omega)
          have HT : Hid _ := hT
          clear hT
          go_wp2
          go_meet
          case rel => exact ⟨by rw [HT.out], rfl⟩
  case rest =>
    obtain ⟨rfl, rfl⟩ := hcut
    have r1 := Hr1.out
    go_upto_block 2 with fail
    go_cut [18, 16] from 102 to 120 (fun a _ wx => a = .int .u64 T0 /\ wx = wc)
    case first =>
      go_wp2
      go_loop [18, 16] (fun a b => ∃ q r : Int, a = .int .u64 q /\ b = .int .u64 r /\ Gs R1 d0 h l q r) (fun a _ => (intOf a).toNat)
      case atStart => exact ⟨_, _, rfl, rfl, G0⟩
      case round =>
        obtain ⟨q, r, rfl, rfl, g⟩ := hrel
        have i1 := g.hq
        have i2 := g.hr
        have i3 := g.hr2
        have i4 : q <= R1 := by
          have m1 : q * 1 <= q * h := Int.mul_le_mul_of_nonneg_left (show (1 : Int) <= h by omega) i1
          have m2 := g.hqr
          omega
        by_cases hq : 4294967296 <= q
        · obtain ⟨j1, _⟩ := g.down (Or.inl hq)
          by_cases hs : 4294967296 <= r + h
          · have hT : q - 1 = T0 := by rw [q3.out, hY.out]; exact g.stop (Or.inl hq) hs
            have HT : Hid _ := hT
            clear hT
            go_wp2
            go_meet
            case rel => exact ⟨by rw [HT.out], rfl⟩
          · go_wp2
            go_round
            case rel => exact ⟨_, _, rfl, rfl, g.next (Or.inl hq) (by omega)⟩
            case measure => simp [intOf]; omega
        · obtain ⟨f1, f2⟩ := g.fit (by omega)
          by_cases ht : 4294967296 * r + d0 < q * l
          · obtain ⟨j1, _⟩ := g.down (Or.inr ht)
            by_cases hs : 4294967296 <= r + h
            · have hT : q - 1 = T0 := by rw [q3.out, hY.out]; exact g.stop (Or.inr ht) hs
              have HT : Hid _ := hT
              clear hT
              go_wp2
              go_meet
              case rel => exact ⟨by rw [HT.out], rfl⟩
            · go_wp2
              go_round
              case rel => exact ⟨_, _, rfl, rfl, g.next (Or.inr ht) (by omega)⟩
              case measure => simp [intOf]; omega
          · have hT : q = T0 := by rw [q3.out, hY.out]; exact g.done (by omega)
            have HT : Hid _ := hT
            clear hT
            go_wp2
            go_meet
            case rel => exact ⟨by rw [HT.out], rfl⟩
    case rest =>
      obtain ⟨rfl, rfl⟩ := hcut
      have r0 := Hr0.out
      go_wp2
      go_ret2
      exact ⟨rfl, rfl⟩

theorem mask32 (a : Int) (h0 : 0 <= a) (h1 : a < 18446744073709551616) : bits .and .u64 a 4294967295 = a % 4294967296 := by
  obtain ⟨x, rfl⟩ := Int.eq_ofNat_of_zero_le h0
  rw [Mul64.maskN x (by omega)]
  omega
theorem or_join (a b : Int) (k : Nat) (ha : 0 <= a) (hb : 0 <= b) (hb2 : b < 2 ^ k) (h : a * 2 ^ k + b < 18446744073709551616) : bits .or .u64 (a * 2 ^ k) b = a * 2 ^ k + b := by
  obtain ⟨x, rfl⟩ := Int.eq_ofNat_of_zero_le ha
  obtain ⟨z, rfl⟩ := Int.eq_ofNat_of_zero_le hb
  have e : ((x * 2 ^ k : Nat) : Int) = (x : Int) * 2 ^ k := by rw [Int.natCast_mul, Int.natCast_pow]; rfl
  have e2 : ((2 ^ k : Nat) : Int) = (2 : Int) ^ k := by rw [Int.natCast_pow]; rfl
  rw [← e] at h ⊢
  rw [← e2] at hb2
  have j : x * 2 ^ k ||| z = x * 2 ^ k + z := by
    rw [Nat.mul_comm x]; exact (Nat.two_pow_add_eq_or_of_lt (by omega) x).symm
  rw [bits_or_u64_nat (x * 2 ^ k) z (by omega) (by omega), j]
  omega
theorem pow_split (k : Nat) (hk : k <= 63) : (2 : Int) ^ (64 - k) * 2 ^ k = 18446744073709551616 := by
  rw [← Int.pow_add, show 64 - k + k = 64 from by omega]; decide

theorem div64_big (hi lo y : Int) (w : World) (h0 : 0 < hi) (h1 : hi < y) (h2 : 0 <= lo) (h3 : lo < 18446744073709551616) (h4 : y < 18446744073709551616) :
    Calls Tryz.prog 260 #[.int .u64 hi, .int .u64 lo, .int .u64 y] w fun e w' =>
      e = .returned (.tuple #[.int .u64 ((hi * 18446744073709551616 + lo) / y), .int .u64 ((hi * 18446744073709551616 + lo) % y)]) /\ w' = w := by
  obtain ⟨k, hk, hk2, c1, c2⟩ := lead y (by omega) h4
  have hP : (0 : Int) < 2 ^ k := Int.pow_pos (by decide)
  have hQ : (0 : Int) < 2 ^ (64 - k) := Int.pow_pos (by decide)
  have hPQ := pow_split k hk2
  -- the words, shifted
  have lq : lo / 2 ^ (64 - k) < 2 ^ k := Int.ediv_lt_of_lt_mul hQ (by rw [Int.mul_comm, hPQ]; exact h3)
  have lq0 : 0 <= lo / 2 ^ (64 - k) := Int.ediv_nonneg h2 (by omega)
  have hy1 : (hi + 1) * 2 ^ k <= y * 2 ^ k := Int.mul_le_mul_of_nonneg_right (by omega) (by omega)
  rw [Int.add_mul, Int.one_mul] at hy1
  have hiP : 0 <= hi * 2 ^ k := Int.mul_nonneg (by omega) (by omega)
  have lop : lo * 2 ^ k / 18446744073709551616 = lo / 2 ^ (64 - k) := by
    rw [← hPQ]; exact Int.mul_ediv_mul_of_pos_left _ _ hP
  have eY : IntKind.u64.wrap (y * 2 ^ k) = y * 2 ^ k := by rw [IntKind.wrap_u64]; omega
  have ehi : IntKind.u64.wrap (hi * 2 ^ k) = hi * 2 ^ k := by rw [IntKind.wrap_u64]; omega
  have eu : bits .or .u64 (IntKind.u64.wrap (hi * 2 ^ k)) (lo / 2 ^ (64 - k)) = hi * 2 ^ k + lo / 2 ^ (64 - k) := by
    rw [ehi]; exact or_join hi _ k (by omega) lq0 lq (by omega)
  have ev : IntKind.u64.wrap (lo * 2 ^ k) = lo * 2 ^ k % 18446744073709551616 := by rw [IntKind.wrap_u64]
  have whole : (hi * 2 ^ k + lo / 2 ^ (64 - k)) * 18446744073709551616 + lo * 2 ^ k % 18446744073709551616 = (hi * 18446744073709551616 + lo) * 2 ^ k := by
    rw [Int.add_mul (hi * 18446744073709551616), Int.mul_right_comm hi 18446744073709551616, ← lop, Int.add_mul]; omega
  have div1 : (hi * 18446744073709551616 + lo) * 2 ^ k / (y * 2 ^ k) = (hi * 18446744073709551616 + lo) / y := Int.mul_ediv_mul_of_pos_left _ _ hP
  have mod1 : (hi * 18446744073709551616 + lo) * 2 ^ k % (y * 2 ^ k) = (hi * 18446744073709551616 + lo) % y * 2 ^ k := by
    rw [mod_sub, div1, mod_sub, Int.sub_mul, Int.mul_assoc]
  have mod2 : (hi * 18446744073709551616 + lo) % y * 2 ^ k / 2 ^ k = (hi * 18446744073709551616 + lo) % y := Int.mul_ediv_cancel _ (by omega)
  generalize hYe : y * 2 ^ k = Y at *
  generalize hue : hi * 2 ^ k + lo / 2 ^ (64 - k) = u at *
  generalize hve : lo * 2 ^ k % 18446744073709551616 = v at *
  have hv : 0 <= v /\ v < 18446744073709551616 := by omega
  have hu : 0 <= u /\ u < Y := by omega
  have hY0 : Y ≠ 0 := by omega
  -- the digits
  have b1 := Int.emod_nonneg (u * 4294967296 + v / 4294967296) hY0
  have b2 := Int.emod_lt_of_pos (u * 4294967296 + v / 4294967296) (show 0 < Y by omega)
  have t1 : (u * 4294967296 + v / 4294967296) / Y < 4294967296 := Int.ediv_lt_of_lt_mul (by omega) (by omega)
  have t1' : 0 <= (u * 4294967296 + v / 4294967296) / Y := Int.ediv_nonneg (by omega) (by omega)
  have s1 := mod_sub (u * 4294967296 + v / 4294967296) Y
  generalize hT1 : (u * 4294967296 + v / 4294967296) / Y = T1 at *
  generalize hR1 : (u * 4294967296 + v / 4294967296) % Y = R1 at *
  have b3 := Int.emod_nonneg (R1 * 4294967296 + v % 4294967296) hY0
  have b4 := Int.emod_lt_of_pos (R1 * 4294967296 + v % 4294967296) (show 0 < Y by omega)
  have t0 : (R1 * 4294967296 + v % 4294967296) / Y < 4294967296 := Int.ediv_lt_of_lt_mul (by omega) (by omega)
  have t0' : 0 <= (R1 * 4294967296 + v % 4294967296) / Y := Int.ediv_nonneg (by omega) (by omega)
  have s0 := mod_sub (R1 * 4294967296 + v % 4294967296) Y
  generalize hT0 : (R1 * 4294967296 + v % 4294967296) / Y = T0 at *
  generalize hR0 : (R1 * 4294967296 + v % 4294967296) % Y = R0 at *
  have key : (hi * 18446744073709551616 + lo) * 2 ^ k = R0 + Y * (T1 * 4294967296 + T0) := by
    rw [← whole, Int.mul_add, ← Int.mul_assoc, Int.mul_comm Y T1, Int.mul_comm Y T0]; omega
  have fq : (hi * 18446744073709551616 + lo) / y = T1 * 4294967296 + T0 := by
    rw [← div1, key, Int.add_mul_ediv_left _ _ hY0, Int.ediv_eq_zero_of_lt b3 b4, Int.zero_add]
  have fr : (hi * 18446744073709551616 + lo) % y = R0 / 2 ^ k := by
    rw [← mod2, ← mod1, key, Int.add_mul_emod_self_left, Int.emod_eq_of_lt b3 b4]
  rw [fq, fr]
  exact div64_core hi lo y Y (Y / 4294967296) (Y % 4294967296) u v (v / 4294967296) (v % 4294967296) T1 R1 T0 R0 k w h0 h1 h2 h3 h4 hk hk2 (by rw [hYe]; exact eY) rfl (mask32 Y (by omega) c2) eu ev rfl (mask32 v hv.1 hv.2)
    (show Y = Y / 4294967296 * 4294967296 + Y % 4294967296 by omega) (by omega) (by omega) (by omega) (by omega) (by omega) (by omega) (by omega) (by omega) hu.1 hu.2 c2 hT1.symm hR1.symm hT0.symm hR0.symm t1' t1 b1 b2 t0' t0 b3 b4

theorem div64_any (hi lo y : Int) (w : World) (h0 : 0 <= hi) (h1 : hi < y) (h2 : 0 <= lo) (h3 : lo < 18446744073709551616) (h4 : y < 18446744073709551616) :
    Calls Tryz.prog 260 #[.int .u64 hi, .int .u64 lo, .int .u64 y] w fun e w' =>
      e = .returned (.tuple #[.int .u64 ((hi * 18446744073709551616 + lo) / y), .int .u64 ((hi * 18446744073709551616 + lo) % y)]) /\ ∃ n, w' = w.drewN n := by
  by_cases h : hi = 0
  · subst h
    rw [Int.zero_mul, Int.zero_add]
    exact div64_0 lo y w h2 h3 (by omega) h4
  · refine (div64_big hi lo y w (by omega) h1 h2 h3 h4).mono ?_
    rintro e w' ⟨rfl, rfl⟩
    exact ⟨rfl, 0, rfl⟩
theorem shifted {H L D : Int} {s : Nat} (hs : s <= 255) (hH : 0 <= H) (hHD : H < D) (hL0 : 0 <= L) (hL : L < MM) :
    0 <= H * 2 ^ s + L / 2 ^ (256 - s) /\ H * 2 ^ s + L / 2 ^ (256 - s) < D * 2 ^ s ∧
    ((H * 2 ^ s + L / 2 ^ (256 - s)) * MM + L * 2 ^ s % MM) / (D * 2 ^ s) = (H * MM + L) / D /\ ((H * 2 ^ s + L / 2 ^ (256 - s)) * MM + L * 2 ^ s % MM) % (D * 2 ^ s) / 2 ^ s = (H * MM + L) % D := by
  have hP : (0 : Int) < 2 ^ s := Int.pow_pos (by decide)
  have hQ : (0 : Int) < 2 ^ (256 - s) := Int.pow_pos (by decide)
  have hPQ : (2 : Int) ^ (256 - s) * 2 ^ s = MM := by rw [← Int.pow_add, show 256 - s + s = 256 from by omega]; decide
  have lq0 : 0 <= L / 2 ^ (256 - s) := Int.ediv_nonneg hL0 (by omega)
  have lq : L / 2 ^ (256 - s) < 2 ^ s := Int.ediv_lt_of_lt_mul hQ (by rw [Int.mul_comm, hPQ]; exact hL)
  have hy1 : (H + 1) * 2 ^ s <= D * 2 ^ s := Int.mul_le_mul_of_nonneg_right (by omega) (by omega)
  rw [Int.add_mul, Int.one_mul] at hy1
  have hiP : 0 <= H * 2 ^ s := Int.mul_nonneg hH (by omega)
  have lop : L * 2 ^ s / MM = L / 2 ^ (256 - s) := by rw [← hPQ]; exact Int.mul_ediv_mul_of_pos_left _ _ hP
  have whole : (H * 2 ^ s + L / 2 ^ (256 - s)) * MM + L * 2 ^ s % MM = (H * MM + L) * 2 ^ s := by
    rw [Int.add_mul (H * MM), Int.mul_right_comm H MM, ← lop, Int.add_mul]
    have := Int.mul_ediv_add_emod (L * 2 ^ s) MM
    rw [Int.mul_comm MM] at this
    omega
  have div1 : (H * MM + L) * 2 ^ s / (D * 2 ^ s) = (H * MM + L) / D := Int.mul_ediv_mul_of_pos_left _ _ hP
  refine ⟨by omega, by omega, ?_, ?_⟩
  · rw [whole, div1]
  · rw [whole, mod_sub, div1, mod_sub, ← Int.mul_assoc, ← Int.sub_mul, Int.mul_ediv_cancel _ (by omega)]
end Go.Proofs.YtpabcmaeaiaknaaGreatDoor
namespace Go.Proofs.YtpabcmaeaiaknaaGreatDoor
def sl (r : Nat) (a b : Int) : Int := a * 2 ^ r % 18446744073709551616 + b / 2 ^ (64 - r)
theorem up {Y : Int} (h0 : 0 <= Y) (h1 : Y < 2135987035920910082395021706169552114602704522356652769947041607822219725780640550022962086936576) : vl (l1 Y) (l2 Y) (l3 Y) (l0 (Y / MM)) = Y / 18446744073709551616 := by
  have e : (Y / MM) = Y / 18446744073709551616 / 6277101735386680763835789423207666416102355444464034512896 := by unfold MM; omega
  have b : Y / 18446744073709551616 < MM := by unfold MM; omega
  have b0 : 0 <= Y / 18446744073709551616 := by omega
  have e1 : l1 Y = l0 (Y / 18446744073709551616) := by unfold l1 l0; rfl
  have e2 : l2 Y = l1 (Y / 18446744073709551616) := by unfold l2 l1; omega
  have e3 : l3 Y = l2 (Y / 18446744073709551616) := by unfold l3 l2; omega
  have e4 : l0 (Y / MM) = l3 (Y / 18446744073709551616) := by rw [e]; unfold l0 l3; rfl
  rw [e1, e2, e3, e4, vl_lb _ b0 b]
end Go.Proofs.YtpabcmaeaiaknaaGreatDoor
namespace Go.Proofs.YtpabcmaeaiaknaaGreatDoor
open Go.RowKit
theorem At4.set {w : World} {k k' : Nat} {a b c d : Int} (h : At4 w k a b c d) (hk : k ≠ k') (o : Nat) (v : Value) : At4 (w.setCell ⟨k', o, none⟩ v) k a b c d := by
  obtain ⟨h0, h1, h2, h3⟩ := h
  have e : ∀ j, (w.setCell ⟨k', o, none⟩ v).cell? ⟨k, j, none⟩ = w.cell? ⟨k, j, none⟩ := fun j => World.cell?_of_block (Below.heap_setCell _ _ _ _ hk)
  exact ⟨(e 0).trans h0, (e 1).trans h1, (e 2).trans h2, (e 3).trans h3⟩
theorem Fz.set {w : World} {k : Nat} (h : Fz w k) (a : Addr) (v : Value) : Fz (w.setCell a v) k := fun o => (World.frozen?_setCell _ _ _ _).trans (h o)
theorem zero4 {q : Int} (h0 : 0 <= q) (h : q < MM) : (l0 q == 0 && (l1 q == 0 && (l2 q == 0 && l3 q == 0))) = decide (q = 0) := by
  have e := vl_lb q h0 h
  rw [Bool.eq_iff_iff]
  simp
  constructor
  · rintro ⟨a, b, c, d⟩; rw [a, b, c, d] at e; rw [← e]; rfl
  · rintro rfl; decide
end Go.Proofs.YtpabcmaeaiaknaaGreatDoor
namespace Go.Proofs.YtpabcmaeaiaknaaGreatDoor.V
open Go.RowKit
section runs
variable {P : Program} {w : World} {k : Nat} {vs : List Value}
end runs
def look : List (Nat × Value) -> Nat -> Value
  | [], _ => undef
  | (d, v) :: l, t => bif Nat.beq d t then v else look l t
def fr (n : Nat) (l : List (Nat × Value)) : Act := { tmps := Array.ofFn (n := n) fun i => look l i, defers := [] }
section steps
variable {P : Program} {o : Oper} {n : Nat} {l : List (Nat × Value)} {w : World} {ops : Array Oper} {rest : List Oper} {Q : Exit -> Act -> World -> Prop} {K : Act -> World -> Prop}
end steps
end Go.Proofs.YtpabcmaeaiaknaaGreatDoor.V
