/-
  Code with letters: what is left to be shown of it, step by step. Appends of any length onto slices of one's own.
-/
import Derived.Test.YtfmfeipeeedfpaaGreatLd
import Derived.Below
namespace Go.Proofs.YtfmfeipeeedfpaaGreat
namespace S
open Go.CheckFast (force force_eq)
open Go.RowKit (Below)
/-- A block of which nothing is told. -/
def hole (X : World) : Obj := .cells #[] X.drawn (0, 0)
/-- Where it began: a world below which all stays; how many blocks keep their numbers, and where these are. -/
structure B0 where
  w : World
  m : Nat
  l : Nat → Nat × Nat
/-- What is known of all worlds that are met: old blocks are as they were; what can be seen is there, and is nobody's own. -/
structure Am (w0 : B0) (X : World) (k : K) (W : World) : Prop where
  old : Below w0.w.heap.size w0.w W
  own : ∀ i b z, k i = some (b, z) → w0.w.heap.size ≤ b
  see : ∀ (b : Nat) (o : Obj), X.heap[b]? = some o → o ≠ hole X → W.heap[b]? = some o
  out : ∀ i b z, k i = some (b, z) → ∀ o : Obj, X.heap[b]? = some o → o = hole X
  sz : X.heap.size ≤ W.heap.size
  kp : ∀ i, i < w0.m → k i = some (w0.l i)
  dr : w0.w.drawn ≤ W.drawn
theorem Am.stable (w0 : B0) (X : World) : Stable (Am w0 X) := by
  intro h n h' n' r w k W k' W' hA hd
  have lt : ∀ (b : Nat) (o : Obj), X.heap[b]? = some o → o ≠ hole X → b < W.heap.size := fun b o h1 h2 => (Array.getElem?_eq_some_iff.1 (hA.see b o h1 h2)).1
  refine ⟨hA.old.trans ⟨hd.os, hd.tape.1, hd.output, hd.size, fun b hb => hd.frm b (Nat.lt_of_lt_of_le hb hA.old.size) (fun j z _ _ hk => absurd (hA.own j b z hk) (by omega))⟩, fun i b z hk => ?_, fun b o h1 h2 => ?_, fun i b z hk o ho => ?_, Nat.le_trans hA.sz hd.size, fun i hi => hd.ext _ _ (hA.kp i hi), Nat.le_trans hA.dr hd.tape.2⟩
  · have := hd.own (fun b => b < w0.w.heap.size) (fun b hb => Nat.lt_of_lt_of_le hb hA.old.size) (fun i b z hk hb => absurd (hA.own i b z hk) (by omega)) i b z hk
    omega
  · rw [hd.frm b (lt b o h1 h2) (fun j z _ _ hk => h2 (hA.out j b z hk o h1))]; exact hA.see b o h1 h2
  · have := hd.own (fun b => ∃ o : Obj, X.heap[b]? = some o ∧ o ≠ hole X) (fun b ⟨o, h1, h2⟩ => lt b o h1 h2) (fun i b z hk ⟨o, h1, h2⟩ => h2 (hA.out i b z hk o h1)) i b z hk
    exact Classical.byContradiction fun hne => this ⟨o, ho, hne⟩
theorem Am.drew {w0 : B0} {X : World} (k : K) (W : World) (h : Am w0 X k W) : Am w0 X k { W with drawn := W.drawn + 1 } := ⟨h.old.drew, h.own, h.see, h.out, h.sz, h.kp, Nat.le_trans h.dr (Nat.le_succ _)⟩
structure St where
  f : FT
  h : HT
  n : Nat
  X : World
def ones (n : Nat) : Nat := 2 ^ n - 1
theorem tb_ones {n i : Nat} : tb (ones n) i ↔ i < n := by unfold tb ones; rw [Nat.testBit_two_pow_sub_one]; simp
theorem HR.all {k : K} {h : HT} {W : World} {n : Nat} (H : HR k h W (ones n)) (nn : ∀ i, n ≤ i → hget h i = Option.none) (m : Nat) : HR k h W m := by
  have lt : ∀ i, live h i → i < n := fun i hl => by
    rcases Nat.lt_or_ge i n with h' | h'
    · exact h'
    · exact absurd hl (not_live (nn i h'))
  exact ⟨fun i _ cs hcs => H.rep i (tb_ones.2 (lt i ⟨cs, hcs⟩)) cs hcs, fun i j _ _ li lj => H.inj i j (tb_ones.2 (lt i li)) (tb_ones.2 (lt j lj)) li lj⟩
/-- A state against a run. -/
structure Rl (w0 : B0) (s : St) (k : K) (W : World) (a : Act) : Prop where
  fr : FR k s.f a
  hr : HR k s.h W (ones s.n)
  nn : ∀ i, s.n ≤ i → hget s.h i = none
  nk : ∀ i, s.n ≤ i → k i = none
  am : Am w0 s.X k W
def WC (P : Program) (w0 : B0) (c : Code) (s : St) (K : Exit → St → Prop) : Prop :=
  ∀ (Q : Exit → Act → World → Prop) k W a, Rl w0 s k W a → (∀ e s' k' W' a', Rl w0 s' k' W' a' → K e s' → Q e a' W') → c.wp P Q a W
def isCmp (op : BinOp) : Bool := match op with
  | .eql => true
  | .neq => true
  | .lss => true
  | .leq => true
  | .gtr => true
  | .geq => true
  | _ => false
/-! Values that name no block of one's own. -/
def pur1 (v : Value) : Bool := match v with
  | .bool _ => true
  | .int _ _ => true
  | .string _ => true
  | .complex _ _ _ => true
  | .iface _ _ => true
  | .pointer none => true
  | .slice none _ _ => true
  | .map none => true
  | .nilFunc => true
  | .nilIface => true
  | _ => false
def den1 (v : Value) : Value := match v with
  | .complex _ re _ => .bool (Nat.beq re 1)
  | .iface _ x => x
  | v => v
def pur2 (v : Value) : Bool := match v with
  | .agg cs => cs.toList.all pur1
  | v => pur1 v
def den2 (v : Value) : Value := match v with
  | .agg cs => .agg (cs.toList.map den1).toArray
  | v => den1 v
def pur (v : Value) : Bool := match v with
  | .tuple cs => cs.toList.all pur2
  | v => pur2 v
def den (v : Value) : Value := match v with
  | .tuple cs => .tuple (cs.toList.map den2).toArray
  | v => den2 v
theorem pur1_eq {k : K} {v u : Value} (h : VX k v u) (hp : pur1 v = true) : u = den1 v := by
  have h0 : V0 k v u := h.v0 (by cases v <;> first | trivial | cases hp)
  cases v with
  | pointer a => cases a <;> first | exact h0 | cases hp
  | slice a _ _ => cases a <;> first | exact h0 | cases hp
  | map a => cases a <;> first | exact h0 | cases hp
  | _ => first | exact h0 | cases hp
theorem LR.map {R : Value → Value → Prop} {p : Value → Bool} {d : Value → Value} (hR : ∀ v u, R v u → p v = true → u = d v) : ∀ {l m : List Value}, LR R l m → l.all p = true → m = l.map d
  | [], _, e, _ => e
  | x :: xs, _, ⟨y, ys, e, r, q⟩, hp => by
    simp only [List.all_cons, Bool.and_eq_true] at hp
    rw [e, hR x y r hp.1, LR.map hR q hp.2]; rfl
theorem pur2_eq {k : K} {v u : Value} (h : VX k v u) (hp : pur2 v = true) : u = den2 v := by
  cases v with
  | agg cs => obtain ⟨us, e, l⟩ := h.agg_inv; rw [e, LR.map (p := pur1) (d := den1) (fun _ _ h => pur1_eq h) l hp]; rfl
  | _ => exact pur1_eq h hp
theorem pur_eq {k : K} {v u : Value} (h : VX k v u) (hp : pur v = true) : u = den v := by
  cases v with
  | tuple cs => obtain ⟨us, e, l⟩ := h.tuple_inv; rw [e, LR.map (p := pur2) (d := den2) (fun _ _ h => pur2_eq h) l hp]; rfl
  | _ => exact pur2_eq h hp
theorem pur1_vx {k : K} {v : Value} (hp : pur1 v = true) : VX k v (den1 v) := by
  refine VX.of0 ?_
  cases v with
  | pointer a => cases a <;> first | rfl | cases hp
  | slice a _ _ => cases a <;> first | rfl | cases hp
  | map a => cases a <;> first | rfl | cases hp
  | _ => first | rfl | cases hp
theorem LR.mk {R : Value → Value → Prop} {p : Value → Bool} {d : Value → Value} (hR : ∀ v, p v = true → R v (d v)) : ∀ {l : List Value}, l.all p = true → LR R l (l.map d)
  | [], _ => rfl
  | x :: xs, hp => by
    simp only [List.all_cons, Bool.and_eq_true] at hp
    exact ⟨d x, xs.map d, rfl, hR x hp.1, LR.mk hR hp.2⟩
theorem pur2_vx {k : K} {v : Value} (hp : pur2 v = true) : VX k v (den2 v) := by
  cases v with
  | agg cs => have := VX.agg (LR.mk (R := VX k) (p := pur1) (d := den1) (fun _ h => pur1_vx h) hp); simpa [den2] using this
  | _ => exact pur1_vx hp
theorem pur_vx {k : K} {v : Value} (hp : pur v = true) : VX k v (den v) := by
  cases v with
  | tuple cs => have := VX.tuple (LR.mk (R := VX k) (p := pur2) (d := den2) (fun _ h => pur2_vx h) hp); simpa [den] using this
  | _ => exact pur2_vx hp
/-! Numbers, texts, lengths, places in slices, cells that were there: what is left to be shown. -/
def isSh (op : BinOp) : Bool := match op with
  | .shl => true
  | .shr => true
  | _ => false
def intK (op : BinOp) (k : IntKind) (a b : Int) (D : Value → Prop) : Prop := match op with
  | .eql => (a = b → D litT) ∧ (a ≠ b → D litF)
  | .neq => (a ≠ b → D litT) ∧ (a = b → D litF)
  | .lss => (a < b → D litT) ∧ (b ≤ a → D litF)
  | .leq => (a ≤ b → D litT) ∧ (b < a → D litF)
  | .gtr => (b < a → D litT) ∧ (a ≤ b → D litF)
  | .geq => (b ≤ a → D litT) ∧ (a < b → D litF)
  | .add => ∃ z, k.wrap (a + b) = z ∧ D (.int k z)
  | .sub => ∃ z, k.wrap (a - b) = z ∧ D (.int k z)
  | .mul => ∃ z, k.wrap (a * b) = z ∧ D (.int k z)
  | .quo => b ≠ 0 ∧ ∃ z, k.wrap (a.tdiv b) = z ∧ D (.int k z)
  | .rem => b ≠ 0 ∧ ∃ z, a.tmod b = z ∧ D (.int k z)
  | .and => ∃ z, k.wrap ((BitVec.ofInt k.bits a &&& BitVec.ofInt k.bits b).toNat : Int) = z ∧ D (.int k z)
  | .or => ∃ z, k.wrap ((BitVec.ofInt k.bits a ||| BitVec.ofInt k.bits b).toNat : Int) = z ∧ D (.int k z)
  | .xor => ∃ z, k.wrap ((BitVec.ofInt k.bits a ^^^ BitVec.ofInt k.bits b).toNat : Int) = z ∧ D (.int k z)
  | .andNot => ∃ z, k.wrap ((BitVec.ofInt k.bits a &&& ~~~ BitVec.ofInt k.bits b).toNat : Int) = z ∧ D (.int k z)
  | .shl => False
  | .shr => False
def shK (op : BinOp) (k : IntKind) (a b : Int) (D : Value → Prop) : Prop := match op with
  | .shl => 0 ≤ b ∧ ∃ z, k.wrap (a * 2 ^ min b.toNat k.bits) = z ∧ D (.int k z)
  | .shr => 0 ≤ b ∧ ∃ z, a.fdiv (2 ^ min b.toNat k.bits) = z ∧ D (.int k z)
  | _ => False
def strK (P : Program) (op : BinOp) (a b : ByteArray) (D : Value → Prop) : Prop := match op with
  | .eql => (a = b → D litT) ∧ (a ≠ b → D litF)
  | .neq => (a ≠ b → D litT) ∧ (a = b → D litF)
  | op => ∃ v, (∀ w, (Op.stringOp op a b).run P w = .ok (den1 v) w) ∧ pur1 v = true ∧ D v
section
variable {P : Program} {o : Oper} {fr : FT} {h : HT} {n : Nat}
theorem s_bin0 {op : BinOp} {t t' : TypeId} {y z : Operand} {p q v : Value} (ho : o.op = .binOp op t y z t') (hy : ∀ k u, VX k (evo fr y) u → u = p) (hz : ∀ k u, VX k (evo fr z) u → u = q) (hv : pur1 v = true)
    (hr : ∀ w, (do eqGuard op t y z p q; binOp op t p q : Sem Value).run P w = .ok (den1 v) w) : Oo P o fr h n ⟨v, h, n, 0, 0⟩ := by
  refine Oo.val rfl fun k W a hop => ⟨den1 v, pur1_vx hv, ?_⟩
  have e1 := hy k _ (hop y (by simp [ho, Op.operands]))
  have e2 := hz k _ (hop z (by simp [ho, Op.operands]))
  have h5 := hr W
  simp only [execOp, ho, e1, e2]
  rw [Sem.run_bind, h5]
  rfl
theorem eqg_int (op : BinOp) (t : TypeId) (x y : Operand) (k k' : IntKind) (a b : Int) (w : World) : (eqGuard op t x y (.int k a) (.int k' b)).run P w = .ok () w := by
  cases op <;> rfl
theorem eqg_str (op : BinOp) (t : TypeId) (x y : Operand) (a b : ByteArray) (w : World) : (eqGuard op t x y (.string a) (.string b)).run P w = .ok () w := by
  cases op <;> rfl
theorem bin_t (op : BinOp) (t : TypeId) (k k' : IntKind) (a b : Int) : binOp op t (.int k a) (.int k' b) = binOp op 0 (.int k a) (.int k' b) := by
  cases op <;> rfl
theorem bin_ts (op : BinOp) (t : TypeId) (a b : ByteArray) : binOp op t (.string a) (.string b) = Op.stringOp op a b := by
  cases op <;> rfl
theorem pick2 {p : Prop} {A B : Value → Prop} (hp : Decidable p) (h1 : p → A litT ∧ B litT) (h2 : ¬ p → A litF ∧ B litF) : ∃ v, A v ∧ B v := by
  cases hp with
  | isTrue h => exact ⟨_, h1 h⟩
  | isFalse h => exact ⟨_, h2 h⟩
theorem dT : den1 litT = .bool true := rfl
theorem dF : den1 litF = .bool false := rfl
theorem intK_ok {op : BinOp} {t t' : TypeId} {y z : Operand} {k : IntKind} {a b : Int} {D : Value → Prop} (ho : o.op = .binOp op t y z t') (hy : evo fr y = .int k a) (hz : evo fr z = .int k b) (e : intK op k a b D) : ∃ v, Oo P o fr h n ⟨v, h, n, 0, 0⟩ ∧ D v := by
  have hy' : ∀ k' u, VX k' (evo fr y) u → u = .int k a := fun k' u hu => by rw [hy] at hu; exact hu.int_inv
  have hz' : ∀ k' u, VX k' (evo fr z) u → u = .int k b := fun k' u hu => by rw [hz] at hu; exact hu.int_inv
  have hrun : ∀ v, pur1 v = true → (∀ w, (binOp op 0 (.int k a) (.int k b)).run P w = .ok (den1 v) w) → Oo P o fr h n ⟨v, h, n, 0, 0⟩ := fun v hv hr => s_bin0 ho hy' hz' hv fun w => by
    rw [Sem.run_bind, eqg_int, Result.andThen_ok, bin_t]; exact hr w
  cases op with
  | eql => exact pick2 (p := a = b) inferInstance (fun hp => ⟨hrun _ rfl fun w => by rw [dT]; simp [binOp, Op.intCmp, hp], e.1 hp⟩) (fun hp => ⟨hrun _ rfl fun w => by rw [dF]; simp [binOp, Op.intCmp, hp], e.2 hp⟩)
  | neq => exact pick2 (p := a ≠ b) inferInstance (fun hp => ⟨hrun _ rfl fun w => by rw [dT]; simp [binOp, Op.intCmp, hp], e.1 hp⟩) (fun hp => ⟨hrun _ rfl fun w => by rw [dF]; simp [binOp, Op.intCmp, Classical.not_not.1 hp], e.2 (Classical.not_not.1 hp)⟩)
  | lss => exact pick2 (p := a < b) inferInstance (fun hp => ⟨hrun _ rfl fun w => by rw [dT]; simp [binOp, Op.intCmp, hp], e.1 hp⟩) (fun hp => ⟨hrun _ rfl fun w => by rw [dF]; simp [binOp, Op.intCmp]; omega, e.2 (by omega)⟩)
  | leq => exact pick2 (p := a ≤ b) inferInstance (fun hp => ⟨hrun _ rfl fun w => by rw [dT]; simp [binOp, Op.intCmp, hp], e.1 hp⟩) (fun hp => ⟨hrun _ rfl fun w => by rw [dF]; simp [binOp, Op.intCmp]; omega, e.2 (by omega)⟩)
  | gtr => exact pick2 (p := b < a) inferInstance (fun hp => ⟨hrun _ rfl fun w => by rw [dT]; simp [binOp, Op.intCmp, hp], e.1 hp⟩) (fun hp => ⟨hrun _ rfl fun w => by rw [dF]; simp [binOp, Op.intCmp]; omega, e.2 (by omega)⟩)
  | geq => exact pick2 (p := b ≤ a) inferInstance (fun hp => ⟨hrun _ rfl fun w => by rw [dT]; simp [binOp, Op.intCmp, hp], e.1 hp⟩) (fun hp => ⟨hrun _ rfl fun w => by rw [dF]; simp [binOp, Op.intCmp]; omega, e.2 (by omega)⟩)
  | add => obtain ⟨v, h1, h2⟩ := e; exact ⟨_, hrun _ rfl fun w => by simp [binOp, Op.intArith, h1, den1], h2⟩
  | sub => obtain ⟨v, h1, h2⟩ := e; exact ⟨_, hrun _ rfl fun w => by simp [binOp, Op.intArith, h1, den1], h2⟩
  | mul => obtain ⟨v, h1, h2⟩ := e; exact ⟨_, hrun _ rfl fun w => by simp [binOp, Op.intArith, h1, den1], h2⟩
  | quo => obtain ⟨h0, v, h1, h2⟩ := e; exact ⟨_, hrun _ rfl fun w => by simp [binOp, Op.intDiv, h0, h1, den1], h2⟩
  | rem => obtain ⟨h0, v, h1, h2⟩ := e; exact ⟨_, hrun _ rfl fun w => by simp [binOp, Op.intDiv, h0, h1, den1], h2⟩
  | and => obtain ⟨v, h1, h2⟩ := e; exact ⟨_, hrun _ rfl fun w => by rw [← h1]; simp [binOp, Op.intBits, den1], h2⟩
  | or => obtain ⟨v, h1, h2⟩ := e; exact ⟨_, hrun _ rfl fun w => by rw [← h1]; simp [binOp, Op.intBits, den1], h2⟩
  | xor => obtain ⟨v, h1, h2⟩ := e; exact ⟨_, hrun _ rfl fun w => by rw [← h1]; simp [binOp, Op.intBits, den1], h2⟩
  | andNot => obtain ⟨v, h1, h2⟩ := e; exact ⟨_, hrun _ rfl fun w => by rw [← h1]; simp [binOp, Op.intBits, den1], h2⟩
  | shl => exact e.elim
  | shr => exact e.elim
theorem shK_ok {op : BinOp} {t t' : TypeId} {y z : Operand} {k k2 : IntKind} {a b : Int} {D : Value → Prop} (ho : o.op = .binOp op t y z t') (hy : evo fr y = .int k a) (hz : evo fr z = .int k2 b) (e : shK op k a b D) : ∃ v, Oo P o fr h n ⟨v, h, n, 0, 0⟩ ∧ D v := by
  have hy' : ∀ k' u, VX k' (evo fr y) u → u = .int k a := fun k' u hu => by rw [hy] at hu; exact hu.int_inv
  have hz' : ∀ k' u, VX k' (evo fr z) u → u = .int k2 b := fun k' u hu => by rw [hz] at hu; exact hu.int_inv
  have hrun : ∀ v, pur1 v = true → (∀ w, (binOp op 0 (.int k a) (.int k2 b)).run P w = .ok (den1 v) w) → Oo P o fr h n ⟨v, h, n, 0, 0⟩ := fun v hv hr => s_bin0 ho hy' hz' hv fun w => by
    rw [Sem.run_bind, eqg_int, Result.andThen_ok, bin_t]; exact hr w
  cases op with
  | shl => obtain ⟨h0, v, h1, h2⟩ := e; exact ⟨_, hrun _ rfl fun w => by simp [binOp, Op.shift, show ¬ b < 0 by omega, h1, den1], h2⟩
  | shr => obtain ⟨h0, v, h1, h2⟩ := e; exact ⟨_, hrun _ rfl fun w => by simp [binOp, Op.shift, show ¬ b < 0 by omega, h1, den1], h2⟩
  | _ => exact e.elim
theorem strK_ok {op : BinOp} {t t' : TypeId} {y z : Operand} {a b : ByteArray} {D : Value → Prop} (ho : o.op = .binOp op t y z t') (hy : evo fr y = .string a) (hz : evo fr z = .string b) (e : strK P op a b D) : ∃ v, Oo P o fr h n ⟨v, h, n, 0, 0⟩ ∧ D v := by
  have hy' : ∀ k' u, VX k' (evo fr y) u → u = .string a := fun k' u hu => by rw [hy] at hu; exact hu.str_inv
  have hz' : ∀ k' u, VX k' (evo fr z) u → u = .string b := fun k' u hu => by rw [hz] at hu; exact hu.str_inv
  have hrun : ∀ v, pur1 v = true → (∀ w, (Op.stringOp op a b).run P w = .ok (den1 v) w) → Oo P o fr h n ⟨v, h, n, 0, 0⟩ := fun v hv hr => s_bin0 ho hy' hz' hv fun w => by
    rw [Sem.run_bind, eqg_str, Result.andThen_ok, bin_ts]; exact hr w
  have hne : a ≠ b → ¬ a.toList = b.toList := fun hp e => hp (by
    rw [ByteArray.toList_eq, ByteArray.toList_eq] at e
    apply ByteArray.ext
    apply Array.ext'
    exact e)
  unfold strK at e
  split at e
  · exact pick2 (p := a = b) inferInstance (fun hp => ⟨hrun _ rfl fun w => by rw [dT]; simp [Op.stringOp, hp], e.1 hp⟩) (fun hp => ⟨hrun _ rfl fun w => by rw [dF]; simp [Op.stringOp, hne hp], e.2 hp⟩)
  · exact pick2 (p := a ≠ b) inferInstance (fun hp => ⟨hrun _ rfl fun w => by rw [dT]; simp [Op.stringOp, hne hp], e.1 hp⟩) (fun hp => ⟨hrun _ rfl fun w => by rw [dF]; simp [Op.stringOp, Classical.not_not.1 hp], e.2 (Classical.not_not.1 hp)⟩)
  · obtain ⟨v, h1, h2, h3⟩ := e
    exact ⟨v, hrun v h2 h1, h3⟩
end
/-! Lengths; places in slices that came; cells that were there. -/
def lenK (P : Program) (ts : List TypeId) (vs : List Value) (D : Value → Prop) : Option Prop := match ts with
  | t :: _ => match vs with
    | x :: _ => match P.underlying t with
      | some .string => match x with
        | .string s => some (D (.int .i64 (s.size : Int)))
        | _ => none
      | some (.slice _) => match x with
        | .slice _ m _ => some (D (.int .i64 (m : Int)))
        | .iface 0 (.slice _ m _) => some (D (.int .i64 (m : Int)))
        | _ => none
      | _ => none
    | [] => none
  | [] => none
def ixK (P : Program) (t : TypeId) (x i : Value) (D : Value → Prop) : Option Prop := match x with
  | .iface 0 (.slice p m _) => match i with
    | .int _ j => match P.underlying t with
      | some (.slice e) => match szOf P e with
        | some z => some (∃ b q i : Nat, p = some ⟨b, q, none⟩ ∧ (i : Int) = j ∧ i < m ∧ D (raw (.pointer (some ⟨b, q + i * z, none⟩))))
        | none => none
      | _ => none
    | _ => none
  | _ => none
/-- A cell as it came. -/
def rel1 (v : Value) : Value := match v with
  | .bool b => .bool b
  | .int k a => .int k a
  | .string s => .string s
  | v => raw v
/-- Cells can be seen there. -/
def Lies (X : World) (b o : Nat) (us : List Value) : Prop := ∀ (j : Nat) (u : Value), us[j]? = some u → X.cell? ⟨b, o + j, none⟩ = some u
def ldK (P : Program) (X : World) (t : TypeId) (x : Value) (D : Value → Prop) : Option Prop := match x with
  | .iface 0 (.pointer (some ⟨b, q, none⟩)) => match isRow P t with
    | some true => match szOf P t with
      | some z => some (∃ us : List Value, us.length = z ∧ Lies X b q us ∧ D (.agg (us.map rel1).toArray))
      | none => none
    | some false => some (∃ u, X.cell? ⟨b, q, none⟩ = some u ∧ D (rel1 u))
    | none => none
  | _ => none
theorem den_rel1 (v : Value) : den1 (rel1 v) = v := by cases v <;> rfl
theorem pur_rel1 (v : Value) : pur1 (rel1 v) = true := by cases v <;> rfl
theorem rel1_vx {k : K} (v : Value) : VX k (rel1 v) v := by have := pur1_vx (k := k) (pur_rel1 v); rwa [den_rel1] at this
theorem rels_vx {k : K} : ∀ l : List Value, LR (VX k) (l.map rel1) l
  | [] => rfl
  | x :: xs => ⟨x, xs, rfl, rel1_vx x, rels_vx xs⟩
theorem Am.cell {w0 : B0} {X : World} {k : K} {W : World} (h : Am w0 X k W) {a : Addr} {u : Value} (hc : X.cell? a = some u) : W.cell? a = some u := by
  unfold World.cell? at hc ⊢
  split at hc
  · rename_i c ty fz hx
    have : (Obj.cells c ty fz) ≠ hole X := fun e => by
      unfold hole at e
      cases e
      split at hc <;> simp at hc
    rw [h.see _ _ hx this]; exact hc
  · cases hc
section
variable {P : Program} {o : Oper} {fr : FT} {h : HT} {n : Nat} {w0 : B0} {X : World}
theorem Oa.val {A : K → World → Prop} {v : Value} (hr : ∀ (k : K) (W : World) (a : Act), A k W → (∀ y ∈ o.op.operands.toList, VX k (evo fr y) (a.eval y)) → ∃ u, VX k v u ∧ (execOp a.eval o).run P W = .ok (.value u) W) : Oa A P o fr h n ⟨v, h, n, 0, 0⟩ := by
  refine ⟨Ss.refl h n, fun k W a K' Q hA ho _ _ hk => ?_⟩
  obtain ⟨u, h1, h2⟩ := hr k W a hA ho
  unfold Oper.wp
  rw [h2, Oper.upon_value]
  exact hk u W k (Sd.refl h n k W) h1
theorem lenK_ok {ts : Array TypeId} {xs : Array Operand} {D : Value → Prop} {R : Prop} (ho : o.op = .call { callee := .builtin .len, args := xs, argTypes := ts }) (he : lenK P ts.toList (evl fr xs.toList) D = some R) (e : R) : ∃ v, Oo P o fr h n ⟨v, h, n, 0, 0⟩ ∧ D v := by
  unfold lenK at he
  split at he
  · rename_i t ts' hts
    split at he
    · rename_i v vs hvs
      have hr : ∀ (k : K) (a : Act), (∀ y ∈ o.op.operands.toList, VX k (evo fr y) (a.eval y)) → ∃ u, VX k v u ∧ (xs.map a.eval)[0]? = some u := by
        intro k a hop
        have h1 := evl_rel (fr := fr) (k := k) (a := a) xs.toList (fun y hy => hop y (by rw [ho]; simpa [Op.operands, Call.operands] using hy))
        rw [hvs] at h1
        obtain ⟨u, us, h2, h3, _⟩ := h1
        refine ⟨u, h3, ?_⟩
        have : (xs.map a.eval).toList = u :: us := by rw [Array.toList_map]; exact h2
        rw [← Array.getElem?_toList, this]; rfl
      have ht : ts[0]? = some t := by rw [← Array.getElem?_toList, hts]; rfl
      split at he
      · rename_i hu
        split at he
        · rename_i s
          cases he
          refine ⟨.int .i64 (s.size : Int), Oo.val rfl fun k W a hop => ⟨.int .i64 (s.size : Int), VX.of0 rfl, ?_⟩, e⟩
          obtain ⟨u, h1, h2⟩ := hr k a hop
          have h3 := h1.str_inv
          subst h3
          simp [execOp, ho, resolve, invoke, builtin, Builtin.len_, ht, h2, run_underlying hu, goInt]
        · cases he
      · rename_i e' hu
        split at he
        · rename_i p m c
          cases he
          refine ⟨.int .i64 (m : Int), Oo.val rfl fun k W a hop => ⟨.int .i64 (m : Int), VX.of0 rfl, ?_⟩, e⟩
          obtain ⟨u, h1, h2⟩ := hr k a hop
          have h3 : ∃ p' c', u = .slice p' m c' := by
            cases p with
            | none => exact ⟨_, _, h1.nilslc_inv⟩
            | some p => obtain ⟨_, b', z, cap, _, h3, _⟩ := h1.slc_inv; exact ⟨_, _, h3⟩
          obtain ⟨p', c', h3⟩ := h3
          subst h3
          simp [execOp, ho, resolve, invoke, builtin, Builtin.len_, ht, h2, run_underlying hu, goInt]
        · rename_i p m c
          cases he
          refine ⟨.int .i64 (m : Int), Oo.val rfl fun k W a hop => ⟨.int .i64 (m : Int), VX.of0 rfl, ?_⟩, e⟩
          obtain ⟨u, h1, h2⟩ := hr k a hop
          have h3 := h1.raw_inv
          subst h3
          simp [execOp, ho, resolve, invoke, builtin, Builtin.len_, ht, h2, run_underlying hu, goInt]
        · cases he
      · cases he
    · cases he
  · cases he
theorem ixK_ok {t : TypeId} {y ix : Operand} {D : Value → Prop} {R : Prop} (ho : o.op = .indexAddr t y ix) (he : ixK P t (evo fr y) (evo fr ix) D = some R) (e : R) : ∃ v, Oo P o fr h n ⟨v, h, n, 0, 0⟩ ∧ D v := by
  unfold ixK at he
  split at he
  · rename_i p m c hv
    split at he
    · rename_i ki j hi
      split at he
      · rename_i e' hu
        split at he
        · rename_i z hz
          cases he
          obtain ⟨b, q, i, hp, h0, h1, hD⟩ := e
          subst hp h0
          refine ⟨_, Oo.val rfl fun k W a hop => ⟨_, VX.raw, ?_⟩, hD⟩
          have h2 := hop y (by simp [ho, Op.operands])
          have h2' := hop ix (by simp [ho, Op.operands])
          rw [hv] at h2; rw [hi] at h2'
          have h3 := h2.raw_inv
          have h4 := h2'.int_inv
          obtain ⟨inf, hinf, hsz⟩ := szOf_info hz
          simp [execOp, ho, h3, h4, Instr.indexAt, asIntOf, run_underlying hu, sizeOf, typeInfo, hinf, hsz, Addr.add_mid, h1]
        · cases he
      · cases he
    · cases he
  · cases he
theorem ldK_ok {t : TypeId} {y : Operand} {D : Value → Prop} {R : Prop} (ho : o.op = .load t y) (he : ldK P X t (evo fr y) D = some R) (e : R) : ∃ v, Oa (Am w0 X) P o fr h n ⟨v, h, n, 0, 0⟩ ∧ D v := by
  unfold ldK at he
  split at he
  · rename_i b q hv
    have key : ∀ (k : K) (a : Act), (∀ y ∈ o.op.operands.toList, VX k (evo fr y) (a.eval y)) → a.eval y = .pointer (some ⟨b, q, none⟩) := fun k a hop => by
      have h2 := hop y (by simp [ho, Op.operands])
      rw [hv] at h2
      exact h2.raw_inv
    split at he
    · rename_i hrow
      obtain ⟨d, hu, hd⟩ := isRow_some hrow
      split at he
      · rename_i z hz
        cases he
        obtain ⟨us, hl, hc, hD⟩ := e
        obtain ⟨inf, hinf, hsz⟩ := szOf_info hz
        refine ⟨_, Oa.val fun k W a hA hop => ⟨.agg us.toArray, VX.agg (rels_vx us), ?_⟩, hD⟩
        have := run_loadVar_mid (P := P) W b q t us d (fun j v hv => hA.cell (hc j v hv)) hu hd (by rw [hinf]; simp [hsz, hl])
        simp [execOp, ho, key k a hop, Instr.loadAt, Instr.sureAddr, this]
      · cases he
    · rename_i hrow
      obtain ⟨d, hu, hd⟩ := isRow_some hrow
      cases he
      obtain ⟨u, hc, hD⟩ := e
      refine ⟨_, Oa.val fun k W a hA hop => ⟨u, rel1_vx u, ?_⟩, hD⟩
      have hagg : (isAgg t).run P W = .ok false W := by
        unfold isAgg
        rw [Sem.run_bind, run_underlying hu W]
        cases d <;> simp_all
      simp [execOp, ho, key k a hop, Instr.loadAt, Instr.sureAddr, loadVar, Sem.run_bind, hagg, hA.cell hc]
    · cases he
  · cases he
end
/-! Pieces; signs of texts. -/
def bnd (v : Option Value) (d : Int) : Option Int := match v with
  | none => some d
  | some v => match v with
    | .int _ i => some i
    | _ => none
/-- Where a piece begins. -/
def slp (p : Option Addr) (c l z : Nat) : Option Addr := if c = l then p else p.map (·.add (l * z))
def slcK (P : Program) (t : TypeId) (x : Value) (lo hi : Option Value) (D : Value → Prop) : Option Prop := match x with
  | .string s => match P.underlying t with
    | some .string => match bnd lo 0 with
      | some a => match bnd hi s.size with
        | some b => some (∃ i j : Nat, (i : Int) = a ∧ (j : Int) = b ∧ i ≤ j ∧ j ≤ s.size ∧ D (.string (s.extract i j)))
        | none => none
      | none => none
    | _ => none
  | .iface 0 (.slice p m c) => match P.underlying t with
    | some (.slice e) => match szOf P e with
      | some z => match bnd lo 0 with
        | some a => match hi with
          | none => some (∃ i : Nat, (i : Int) = a ∧ i ≤ m ∧ D (raw (.slice (slp p c i z) (m - i) (c - i))))
          | some hv => match hv with
            | .int _ b => match lo with
              | none => some (∃ j : Nat, (j : Int) = b ∧ j ≤ c ∧ D (raw (.slice p j c)))
              | some _ => some (∃ i j : Nat, (i : Int) = a ∧ (j : Int) = b ∧ i ≤ j ∧ j ≤ c ∧ D (raw (.slice (slp p c i z) (j - i) (c - i))))
            | _ => none
        | none => none
      | none => none
    | _ => none
  | _ => none
def sixK (P : Program) (t : TypeId) (x i : Value) (D : Value → Prop) : Option Prop := match x with
  | .string s => match i with
    | .int _ j => match P.underlying t with
      | some .string => some (∃ (i : Nat) (b : UInt8), (i : Int) = j ∧ s[i]? = some b ∧ D (.int .u8 (b.toNat : Int)))
      | _ => none
    | _ => none
  | _ => none
theorem slp_0 (p : Option Addr) (c z : Nat) : slp p c 0 z = p := by
  unfold slp
  split
  · rfl
  · cases p <;> simp [Addr.add]
theorem slp_some {b q c l z : Nat} (h : l < c) : slp (some ⟨b, q, none⟩) c l z = some ⟨b, q + l * z, none⟩ := by
  unfold slp
  rw [if_neg (by omega)]
  simp [Addr.add_mid]
section
variable {P : Program} {o : Oper} {fr : FT} {h : HT} {n : Nat}
theorem bnd_some {v : Option Value} {d i : Int} (e : bnd v d = some i) : (v = none ∧ i = d) ∨ ∃ k, v = some (.int k i) := by
  unfold bnd at e
  split at e
  · cases e; exact Or.inl ⟨rfl, rfl⟩
  · split at e
    · cases e; exact Or.inr ⟨_, rfl⟩
    · cases e
theorem opt_eval {k : K} {a : Act} {l : Option Operand} (hl : ∀ y ∈ l.toArray.toList, VX k (evo fr y) (a.eval y)) {d i : Int} (e : bnd (l.map (evo fr)) d = some i) : (l.map a.eval = none ∧ i = d) ∨ ∃ k, l.map a.eval = some (.int k i) := by
  cases l with
  | none => rcases bnd_some e with ⟨_, h⟩ | ⟨_, h⟩
            · exact Or.inl ⟨rfl, h⟩
            · cases h
  | some y =>
    rcases bnd_some e with ⟨h, _⟩ | ⟨kk, h⟩
    · cases h
    · simp only [Option.map_some, Option.some.injEq] at h
      have := hl y (by simp)
      rw [h] at this
      exact Or.inr ⟨kk, by simp [this.int_inv]⟩
theorem bounds_run {l hi : Option Value} {isS : Bool} {len cap : Nat} {a b : Int} (ha : (l = none ∧ a = 0) ∨ ∃ k, l = some (.int k a)) (hb : (hi = none ∧ b = (len : Int)) ∨ (∃ k, hi = some (.int k b)) ∧ b ≤ (cap : Int)) (h0 : 0 ≤ a) (h1 : a ≤ b) (W : World) :
    (Instr.sliceBounds isS len cap l hi none).run P W = .ok (a.toNat, b.toNat, cap) W := by
  unfold Instr.sliceBounds
  rcases ha with ⟨rfl, rfl⟩ | ⟨k1, rfl⟩ <;> rcases hb with ⟨rfl, rfl⟩ | ⟨⟨k2, rfl⟩, hc⟩
  · simp
  · simp [Instr.sliceBound, asIntOf, h1, hc]
  · have : a ≤ (len : Int) := h1
    simp [Instr.sliceBound, asIntOf, h0, this]
  · simp [Instr.sliceBound, asIntOf, h0, hc, show 0 ≤ b by omega]
    intro h; omega
theorem slcK_ok {t : TypeId} {y : Operand} {l hi : Option Operand} {D : Value → Prop} {R : Prop} (ho : o.op = .slice t y l hi none) (he : slcK P t (evo fr y) (l.map (evo fr)) (hi.map (evo fr)) D = some R) (e : R) : ∃ v, Oo P o fr h n ⟨v, h, n, 0, 0⟩ ∧ D v := by
  have bl : ∀ (k : K) (a : Act), (∀ y ∈ o.op.operands.toList, VX k (evo fr y) (a.eval y)) → (∀ y ∈ l.toArray.toList, VX k (evo fr y) (a.eval y)) ∧ (∀ y ∈ hi.toArray.toList, VX k (evo fr y) (a.eval y)) := by
    intro k a hop
    rw [ho] at hop
    constructor
    · intro y hy; exact hop y (by simp only [Op.operands, Array.toList_append, List.mem_append]; exact Or.inl (Or.inl (Or.inr hy)))
    · intro y hy; exact hop y (by simp only [Op.operands, Array.toList_append, List.mem_append]; exact Or.inl (Or.inr hy))
  have hm0 : ∀ a : Act, (Option.map a.eval (none : Option Operand)) = none := fun _ => rfl
  unfold slcK at he
  split at he
  · rename_i s hv
    split at he
    · rename_i hu
      split at he
      · rename_i a hla
        split at he
        · rename_i b hhb
          cases he
          obtain ⟨i, j, h0, h0', h1, h2, hD⟩ := e
          subst h0 h0'
          refine ⟨.string (s.extract i j), Oo.val rfl fun k W ac hop => ⟨.string (s.extract i j), VX.of0 rfl, ?_⟩, hD⟩
          have h3 := hop y (by simp [ho, Op.operands])
          rw [hv] at h3
          have h4 := h3.str_inv
          have hb := bl k ac hop
          have hB := bounds_run (P := P) (isS := false) (len := s.size) (cap := s.size) (opt_eval hb.1 hla) ((opt_eval hb.2 hhb).imp id (fun h => ⟨h, by omega⟩)) (by omega) (by omega) W
          simp only [execOp, ho, h4, Instr.sliceAt, Instr.slice, Sem.run_bind, run_underlying hu, Result.andThen_ok, hm0, Sem.run_pure]
          simp [hB]
        · cases he
      · cases he
    · cases he
  · rename_i p m c hv
    split at he
    · rename_i e' hu
      split at he
      · rename_i z hz
        obtain ⟨inf, hinf, hsi⟩ := szOf_info hz
        split at he
        · rename_i a hla
          have fin : ∀ (b : Int) (v : Value), v = raw (.slice (slp p c a.toNat z) (b.toNat - a.toNat) (c - a.toNat)) → 0 ≤ a → a ≤ b → (∀ (k : K) (ac : Act), (∀ y ∈ o.op.operands.toList, VX k (evo fr y) (ac.eval y)) → (hi.map ac.eval = none ∧ b = (m : Int)) ∨ (∃ k, hi.map ac.eval = some (.int k b)) ∧ b ≤ (c : Int)) → Oo P o fr h n ⟨v, h, n, 0, 0⟩ := by
            intro b v hvv h0 h1 hbb
            subst hvv
            refine Oo.val rfl fun k W ac hop => ⟨_, VX.raw, ?_⟩
            have h3 := hop y (by simp [ho, Op.operands])
            rw [hv] at h3
            have h4 := h3.raw_inv
            have hB := bounds_run (P := P) (isS := true) (len := m) (cap := c) (opt_eval (bl k ac hop).1 hla) (hbb k ac hop) h0 h1 W
            simp only [execOp, ho, h4, Instr.sliceAt, Instr.slice, Sem.run_bind, run_underlying hu, Result.andThen_ok, hm0, hB, Sem.run_pure]
            simp [sizeOf, typeInfo, hinf, hsi, slp]
          split at he
          · rename_i hhi
            cases he
            obtain ⟨i, h0, h1, hD⟩ := e
            subst h0
            refine ⟨_, fin (m : Int) _ (by simp) (by omega) (by omega) (fun k ac hop => ?_), hD⟩
            have : hi = none := by cases hi <;> simp_all
            subst this
            exact Or.inl ⟨rfl, rfl⟩
          · rename_i hv2 hhi
            split at he
            · rename_i kb b
              have hbb : ∀ (k : K) (ac : Act), (∀ y ∈ o.op.operands.toList, VX k (evo fr y) (ac.eval y)) → ∃ k, hi.map ac.eval = some (.int k b) := fun k ac hop => by
                rcases opt_eval (d := 0) (i := b) (bl k ac hop).2 (by rw [hhi]; rfl) with ⟨h, _⟩ | h
                · have : hi = none := by cases hi <;> simp_all
                  subst this; cases hhi
                · exact h
              split at he
              · rename_i hlo
                cases he
                obtain ⟨j, h0, h1, hD⟩ := e
                subst h0
                rw [hlo] at hla
                cases hla
                exact ⟨_, fin (j : Int) _ (by simp [slp_0]) (Int.le_refl _) (by omega) (fun k ac hop => Or.inr ⟨hbb k ac hop, by omega⟩), hD⟩
              · cases he
                obtain ⟨i, j, h0, h0', h1, h2, hD⟩ := e
                subst h0 h0'
                exact ⟨_, fin (j : Int) _ (by simp) (by omega) (by omega) (fun k ac hop => Or.inr ⟨hbb k ac hop, by omega⟩), hD⟩
            · cases he
        · cases he
      · cases he
    · cases he
  · cases he
theorem sixK_ok {t : TypeId} {y ix : Operand} {D : Value → Prop} {R : Prop} (ho : o.op = .index t y ix) (he : sixK P t (evo fr y) (evo fr ix) D = some R) (e : R) : ∃ v, Oo P o fr h n ⟨v, h, n, 0, 0⟩ ∧ D v := by
  unfold sixK at he
  split at he
  · rename_i s hv
    split at he
    · rename_i ki j hi
      split at he
      · rename_i hu
        cases he
        obtain ⟨i, b, h0, hb, hD⟩ := e
        subst h0
        refine ⟨.int .u8 (b.toNat : Int), Oo.val rfl fun k W a hop => ⟨.int .u8 (b.toNat : Int), VX.of0 rfl, ?_⟩, hD⟩
        have h2 := hop y (by simp [ho, Op.operands])
        have h2' := hop ix (by simp [ho, Op.operands])
        rw [hv] at h2; rw [hi] at h2'
        have h3 := h2.str_inv
        have h4 := h2'.int_inv
        simp [execOp, ho, h3, h4, Instr.index, asIntOf, run_underlying hu, hb]
      · cases he
    · cases he
  · cases he
end
end S
end Go.Proofs.YtfmfeipeeedfpaaGreat
namespace Go.Proofs.YtfmfeipeeedfpaaGreat
namespace S
open Go.CheckFast (force force_eq)
open Go.RowKit (Below)
section
variable {A : K → World → Prop} {P : Program} {o : Oper} {fr : FT} {h : HT} {n : Nat}
/-- What is put behind: so many elements, these cells, read off blocks of these numbers. -/
structure Put (A : K → World → Prop) (P : Program) (h : HT) (t : TypeId) (sz : Nat) (vy : Value) (m : Nat) (zs : List Value) (rb : Nat) : Prop where
  src : ∀ k W u, A k W → HR k h W rb → VX k vy u → ∃ news, LR (VX k) zs news ∧ Src P sz t u m news W
/-- A slice of one's own as a source. -/
theorem put_own {t e : TypeId} {sz b q m es : Nat} {us zs : List Value} (hus : hget h b = some us) (hz : zs = (us.drop q).take (m * sz)) (hl : zs.length = m * sz) (h1 : allOne zs = true) (hu : P.underlying t = some (.slice e)) : Put A P h t sz (.slice (some ⟨b, q, none⟩) m es) m zs (bit b) := ⟨fun k W u _ H hv => by
  obtain ⟨_, b', zz, c, hkb, h7, _⟩ := hv.slc_inv
  obtain ⟨b2, vs, sp, ty, e1, e2, e3⟩ := (H.rep b (tb_bit.2 rfl) us hus).cel hkb
  have hkb' : k b = some (b', zz + 1) := hkb
  rw [hkb'] at e1; cases e1
  have h3 : LR (VX k) zs ((vs.drop q).take (m * sz)) := by rw [hz]; exact (e3.drop q).take _
  refine ⟨_, h3, ?_⟩
  rw [h7]
  refine Src.ofSlice W hu _ m c _ (by rw [h3.len, hl]) (fun j u hu' => ?_) (ones_rel h3 h1)
  rw [Addr.add_mid, cell_of e2]
  rw [List.getElem?_take] at hu'
  split at hu'
  · rw [List.getElem?_drop] at hu'
    rw [List.getElem?_append_left (List.getElem?_eq_some_iff.1 hu').1]; exact hu'
  · cases hu'⟩
/-- A slice as it came as a source. -/
theorem put_raw {w0 : B0} {X : World} {t e : TypeId} {sz b q m c : Nat} {us : List Value} (hu : P.underlying t = some (.slice e)) (hl : us.length = m * sz) (hc : Lies X b q us) (h1 : ∀ u ∈ us, u.oneCell' = true) : Put (Am w0 X) P h t sz (raw (.slice (some ⟨b, q, none⟩) m c)) m (us.map rel1) 0 := ⟨fun k W u hA _ hv => by
  rw [hv.raw_inv]
  exact ⟨us, rels_vx us, Src.ofSlice W hu _ m c _ hl (fun j u hu' => by rw [Addr.add_mid]; exact hA.cell (hc j u hu')) h1⟩⟩
/-- Nothing at all as a source. -/
theorem put_nil {t e : TypeId} {sz c : Nat} (hu : P.underlying t = some (.slice e)) : Put A P h t sz (.slice none 0 c) 0 [] 0 := ⟨fun k W u _ _ hv => by
  rw [hv.nilslc_inv]; exact ⟨[], rfl, Src.ofNil W hu c⟩⟩
theorem args2 {xs : Array Operand} {ts : Array TypeId} {b : Builtin} {vx vy : Value} (ho : o.op = .call { callee := .builtin b, args := xs, argTypes := ts }) (hvs : evl fr xs.toList = [vx, vy]) (k : K) (a : Act) (hop : ∀ y ∈ o.op.operands.toList, VX k (evo fr y) (a.eval y)) : ∃ u1 u2, xs.map a.eval = #[u1, u2] ∧ VX k vx u1 ∧ VX k vy u2 := by
  have h1 := evl_rel (fr := fr) (k := k) (a := a) xs.toList (fun y hy => hop y (by rw [ho]; simpa [Op.operands, Call.operands] using hy))
  rw [hvs] at h1
  obtain ⟨u, v, h2, h3, h4⟩ := pair_inv h1
  exact ⟨u, v, by apply Array.ext'; simpa using h2, h3, h4⟩
theorem app_exec {xs : Array Operand} {t t' : TypeId} (ho : o.op = .call { callee := .builtin .append, args := xs, argTypes := #[t, t'] }) (a : Act) (W : World) (u1 u2 u : Value) (W' : World) (h1 : xs.map a.eval = #[u1, u2]) (h2 : (Builtin.append_ #[t, t'] o.type #[u1, u2]).run P W = .ok u W') : (execOp a.eval o).run P W = .ok (.value u) W' := by
  simp only [execOp, ho, resolve, invoke, builtin, Sem.run_bind, Sem.run_pure, Result.andThen_ok, h1, h2]
/-- Behind nothing. -/
theorem r_app0 {xs : Array Operand} {t t' e : TypeId} {sz m rb : Nat} {vy : Value} {zs : List Value} (hn : n < 4096) (nn : ∀ i, n ≤ i → hget h i = none) (ho : o.op = .call { callee := .builtin .append, args := xs, argTypes := #[t, t'] }) (hvs : evl fr xs.toList = [.slice none 0 0, vy]) (hu : P.underlying t = some (.slice e)) (hsz : szOf P e = some sz) (hap : apOk P e sz = true)
    (hp : Put A P h t' sz vy m zs rb) (hm : 0 < m) (hb : m ≤ 1407374883) : Oa A P o fr h n ⟨.slice (some ⟨n, 0, none⟩) m sz, hs12 h n (some zs), n + 1, rb, bit n⟩ := by
  obtain ⟨ie, z, hie, hzi, hby, hzsz⟩ := apOk_some hap
  obtain ⟨ie2, hie2, hse⟩ := szOf_info hsz
  rw [hie] at hie2; cases hie2
  have hcs : hget (hs12 h n (some zs)) n = some zs := hget_same _ hn
  have hd : ∀ i, i ≠ n → hget (hs12 h n (some zs)) i = hget h i ∨ (tb (bit n) i ∧ hget (hs12 h n (some zs)) i = none) := fun i hi => Or.inl (hget_ne _ hn (Ne.symm hi))
  have hw : ∀ i, tb (bit n) i → i = n ∨ (tb rb i ∧ i < n) := fun i hi => Or.inl (tb_bit.1 hi).symm
  refine ⟨Ss.new (tb_bit.2 rfl) hd hw, fun k W a K' Q hA hop H hnew hk => ?_⟩
  have hkn : k n = none := hnew n (Nat.le_refl _) (Nat.lt_succ_self _)
  obtain ⟨u1, u2, h1, h2, h3⟩ := args2 ho hvs k a hop
  have h4 := h2.nilslc_inv
  obtain ⟨news, h5, h6⟩ := hp.src k W u2 hA H h3
  subst hse
  have hfit : Builtin.nextslicecap (0 + m) 0 * ie.bytes ≤ 281474976710656 := growslice_fits (by omega) (by
    have : (0 + m) * ie.bytes ≤ 1407374883 * 100000 := Nat.mul_le_mul (by omega) hby
    omega)
  have hrun := run_append_grow_src (P := P) W t t' o.type e ie z hu hie hzi none 0 0 [] (by simp [Builtin.firstCells]) u2 m news h6 (by omega) (by omega) hfit
  rw [← h4] at hrun
  have hge := grownCap_ge W (0 + m) 0 e
  have hsp : (Builtin.zeroCells z.cells (grownCap W (0 + m) 0 e - (0 + m))).toList.length = (grownCap W (0 + m) 0 e - (0 + m)) * ie.size := by
    rw [Array.length_toList, size_zeroCells, hzsz]
  have hnl : news.length = m * ie.size := h6.newsLen
  have d := alloc_ok (v := undef) (h := h) (n := n) (k := k) (W := W) (us := news) (sp := (Builtin.zeroCells z.cells (grownCap W (0 + m) 0 e - (0 + m))).toList) (ty := e) hn nn hcs (tb_bit.2 rfl) hd hw hkn H h5 (W' := W.drew.alloc (.cells (([] ++ news).toArray ++ Builtin.zeroCells z.cells (grownCap W (0 + m) 0 e - (0 + m))) e)) (by
    show W.heap.push _ = _
    congr 2
    apply Array.ext'
    simp) rfl ⟨rfl, Nat.le_succ _⟩ rfl
  unfold Oper.wp
  rw [app_exec ho a W u1 u2 _ _ h1 hrun, Oper.upon_value]
  refine hk _ _ _ d (VX.of0 ⟨trivial, W.heap.size, _, grownCap W (0 + m) 0 e, if_pos rfl, by rw [Nat.zero_add], by omega, ?_⟩)
  rw [hsp, hnl]
  show 0 + grownCap W (0 + m) 0 e * ie.size ≤ _
  have : m * ie.size + (grownCap W (0 + m) 0 e - (0 + m)) * ie.size = grownCap W (0 + m) 0 e * ie.size := by rw [← Nat.add_mul]; congr 1; omega
  omega
/-- Behind a slice of one's own, which is let go. -/
theorem r_app {xs : Array Operand} {t t' e : TypeId} {sz m rb a len : Nat} {vy : Value} {cs zs : List Value} (hn4 : n < 4096) (nn : ∀ i, n ≤ i → hget h i = none) (ho : o.op = .call { callee := .builtin .append, args := xs, argTypes := #[t, t'] }) (hvs : evl fr xs.toList = [.slice (some ⟨a, 0, none⟩) len sz, vy]) (hu : P.underlying t = some (.slice e)) (hsz : szOf P e = some sz) (hap : apOk P e sz = true)
    (hcs : hget h a = some cs) (d1 : cs.length = len * sz) (hp : Put A P h t' sz vy m zs rb) (hb : len + m ≤ 1407374883) :
    Oa A P o fr h n ⟨.slice (some ⟨n, 0, none⟩) (len + m) sz, hs12 (hs12 h a none) n (some (cs ++ zs)), n + 1, Nat.lor (bit a) rb, Nat.lor (bit a) (bit n)⟩ := by
  obtain ⟨ie, z, hie, hzi, hby, hzsz⟩ := apOk_some hap
  obtain ⟨ie2, hie2, hse⟩ := szOf_info hsz
  rw [hie] at hie2; cases hie2
  have ha4 := hget_lt hcs
  have han : a < n := by
    rcases Nat.lt_or_ge a n with h' | h'
    · exact h'
    · rw [nn a h'] at hcs; cases hcs
  have hcs' : hget (hs12 (hs12 h a none) n (some (cs ++ zs))) n = some (cs ++ zs) := hget_same _ hn4
  have hdead : hget (hs12 (hs12 h a none) n (some (cs ++ zs))) a = none := by rw [hget_ne _ hn4 (by omega), hget_same _ ha4]
  have hwa : tb (Nat.lor (bit a) (bit n)) a := tb_or.2 (Or.inl (tb_bit.2 rfl))
  have hd : ∀ i, i ≠ n → hget (hs12 (hs12 h a none) n (some (cs ++ zs))) i = hget h i ∨ (tb (Nat.lor (bit a) (bit n)) i ∧ hget (hs12 (hs12 h a none) n (some (cs ++ zs))) i = none) := fun i hi => by
    by_cases ea : i = a
    · subst ea; exact Or.inr ⟨hwa, hdead⟩
    · left; rw [hget_ne _ hn4 (Ne.symm hi), hget_ne _ ha4 (Ne.symm ea)]
  have hw : ∀ i, tb (Nat.lor (bit a) (bit n)) i → i = n ∨ (tb (Nat.lor (bit a) rb) i ∧ i < n) := fun i hi => by
    rcases tb_or.1 hi with h' | h'
    · have := tb_bit.1 h'; subst this; exact Or.inr ⟨tb_or.2 (Or.inl (tb_bit.2 rfl)), han⟩
    · exact Or.inl (tb_bit.1 h').symm
  refine ⟨Ss.new tb_n hd hw, fun k W act K' Q hA hop H hnew hk => ?_⟩
  have hkn : k n = none := hnew n (Nat.le_refl _) (Nat.lt_succ_self _)
  obtain ⟨u1, u2, h1, h2, h3⟩ := args2 ho hvs k act hop
  obtain ⟨_, a', zz, cap, hka, h4, hcap, hfitz⟩ := h2.slc_inv
  obtain ⟨news, h5, h6⟩ := hp.src k W u2 hA (H.sub fun i hi => tb_or.2 (Or.inr hi)) h3
  obtain ⟨a2, vs, sp, ty, e1, e2, e3⟩ := (H.rep a (tb_or.2 (Or.inl (tb_bit.2 rfl))) cs hcs).cel hka
  have hka' : k a = some (a', zz + 1) := hka
  have haa : a2 = a' ∧ vs.length + sp.length = zz := by rw [hka'] at e1; cases e1; exact ⟨rfl, rfl⟩
  obtain ⟨rfl, hzz⟩ := haa
  subst hse
  have hvl : vs.length = len * ie.size := by rw [e3.len, d1]
  have hnl : news.length = m * ie.size := h6.newsLen
  have hfit' : cap * ie.size ≤ zz := by have : 0 + cap * ie.size ≤ zz := hfitz; omega
  by_cases hroom : len + m ≤ cap
  · have hle : (len + m) * ie.size ≤ cap * ie.size := Nat.mul_le_mul_right _ hroom
    have hle2 : len * ie.size + m * ie.size = (len + m) * ie.size := (Nat.add_mul _ _ _).symm
    have hrun := run_append_room_src (P := P) W t t' o.type e ie hu hie a2 0 len cap u2 m news h6 hroom (fun j hj => by
        rw [cell_of e2, List.getElem?_eq_getElem (by simp; omega)]; rfl) (fun j _ => fz_of e2 _)
    rw [← h4] at hrun
    unfold Oper.wp
    rw [app_exec ho act W u1 u2 _ _ h1 hrun, Oper.upon_value]
    have hset := heap_setCells (b := a2) (ty := ty) news (0 + len * ie.size) W (vs ++ sp) e2 (by simp; omega)
    rw [Nat.zero_add] at hset
    have hshape : (vs ++ sp).take (len * ie.size) ++ news ++ (vs ++ sp).drop (len * ie.size + news.length) = (vs ++ news) ++ sp.drop (m * ie.size) := by
      rw [← hvl, List.take_left, hnl, List.drop_append]
      simp
    rw [hshape] at hset
    have dd := Sd.new (h := h) (n := n) (k := k) (W := W) (W' := W.setCells a2 (len * ie.size) news) (B := a2) (us := vs ++ news) (sp := sp.drop (m * ie.size)) (ty := ty) nn hcs' hd hw hkn H
      (Or.inr ⟨a, zz + 1, hwa, han, ⟨cs, hcs⟩, not_live hdead, hka'⟩) hset (e3.app h5) (fun c hc _ => heap_setCells_other hc _ _) (by rw [size_setCells]; exact Nat.le_refl _) (rest_setCells _ _ _ _).1 (rest_setCells _ _ _ _).2.1 (rest_setCells _ _ _ _).2.2
    rw [Nat.zero_add]
    refine hk _ _ _ dd (VX.of0 ⟨trivial, a2, _, cap, if_pos rfl, rfl, hroom, ?_⟩)
    simp only [List.length_append, List.length_drop]
    show 0 + cap * ie.size ≤ _
    omega
  · have hfit : Builtin.nextslicecap (len + m) cap * ie.bytes ≤ 281474976710656 := growslice_fits (by omega) (by
      have : (len + m) * ie.bytes ≤ 1407374883 * 100000 := Nat.mul_le_mul (by omega) hby
      omega)
    have hold : (Builtin.firstCells ie.size len (.slice (some ⟨a2, 0, none⟩) len cap)).run P W.drew = .ok vs.toArray W.drew :=
      run_firstCells_some W.drew ie.size len ⟨a2, 0, none⟩ len cap vs hvl (fun j v hv => by
        rw [Addr.add_mid]
        have := cell_of (W := W.drew) (b := a2) (cs := vs ++ sp) (ty := ty) e2 (0 + j)
        rw [this, Nat.zero_add, List.getElem?_append_left (List.getElem?_eq_some_iff.1 hv).1]; exact hv)
    have hrun := run_append_grow_src (P := P) W t t' o.type e ie z hu hie hzi (some ⟨a2, 0, none⟩) len cap vs hold u2 m news h6 (by omega) (by omega) hfit
    rw [← h4] at hrun
    unfold Oper.wp
    rw [app_exec ho act W u1 u2 _ _ h1 hrun, Oper.upon_value]
    have hge := grownCap_ge W (len + m) cap e
    have hsp : (Builtin.zeroCells z.cells (grownCap W (len + m) cap e - (len + m))).toList.length = (grownCap W (len + m) cap e - (len + m)) * ie.size := by
      rw [Array.length_toList, size_zeroCells, hzsz]
    have dd := alloc_ok (h := h) (n := n) (k := k) (W := W) (W' := W.drew.alloc (.cells ((vs ++ news).toArray ++ Builtin.zeroCells z.cells (grownCap W (len + m) cap e - (len + m))) e)) (v := undef) (us := vs ++ news) (sp := (Builtin.zeroCells z.cells (grownCap W (len + m) cap e - (len + m))).toList) (ty := e) hn4 nn hcs' tb_n hd hw hkn H (e3.app h5) (by
        show W.heap.push _ = _
        congr 2
        apply Array.ext'
        simp) rfl ⟨rfl, Nat.le_succ _⟩ rfl
    refine hk _ _ _ dd (VX.of0 ⟨trivial, W.heap.size, _, grownCap W (len + m) cap e, if_pos rfl, rfl, hge, ?_⟩)
    rw [hsp]
    simp only [List.length_append]
    show 0 + grownCap W (len + m) cap e * ie.size ≤ _
    have : (len + m) * ie.size + (grownCap W (len + m) cap e - (len + m)) * ie.size = grownCap W (len + m) cap e * ie.size := by rw [← Nat.add_mul]; congr 1; omega
    have hle2 : len * ie.size + m * ie.size = (len + m) * ie.size := (Nat.add_mul _ _ _).symm
    omega
end
end S
end Go.Proofs.YtfmfeipeeedfpaaGreat
