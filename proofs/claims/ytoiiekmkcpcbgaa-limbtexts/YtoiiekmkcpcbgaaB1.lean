/-
  A part of the proof.
-/
import Derived.RegionTactic
import Derived.Test.YtoiiekmkcpcbgaaProg
import Derived.WalkKit
import Derived.WalkSpells
import Derived.Handy
import Derived.BigQuiet
import Derived.Deep.RegionHeld3
import Derived.Deep.MidRow
import Derived.BigCall
import Derived.Shelf.Small.Bits
import Derived.Shelf.Strconv.Itoa0
import Derived.Shelf.Bits.Mul64
import Derived.Deep.CutBlock
/-
  A region whose operations come in any order: what each of them yields, and that none of them spoils what another has yielded, said once for each operation.
-/
namespace Go.Proofs.Ytoiiekmkcpcbgaa
section
variable {P : Program} {ops : Array Oper} {Q : Exit → Act → World → Prop} {md : Region.Mode}
theorem count_set : ∀ (l : List Bool) (i : Nat), l[i]? = some false → (l.set i true).count false + 1 = l.count false
  | [], _, h => by cases h
  | b :: l, 0, h => by simp at h; subst h; simp
  | b :: l, i + 1, h => by
    have := count_set l i (by simpa using h)
    simp only [List.set_cons_succ, List.count_cons]
    omega
/-- Edges go back. -/
def edgesBack (md : Region.Mode) (ops : Array Oper) : Bool :=
  (List.range ops.size).all fun i => match ops[i]? with | some o => o.after.all (fun e => !Region.binds md e || decide (e.on < i)) | none => true
theorem edgesBack_spec (h : edgesBack md ops = true) {i : Nat} {o : Oper} (ho : ops[i]? = some o) : ∀ e ∈ o.after, Region.binds md e = true → e.on < i := by
  intro e he hb
  have h1 := List.all_eq_true.1 h i (List.mem_range.2 (Array.getElem?_eq_some_iff.1 ho).1)
  simp only [ho] at h1
  have h2 := Array.all_eq_true_iff_forall_mem.1 h1 e he
  simpa [hb] using h2
theorem all_listed (hb : edgesBack md ops = true) {listed : Array Bool} (hr : Region.ready md ops listed = []) : ∀ i, i < ops.size → listed.getD i true = true := by
  intro i
  induction i using Nat.strongRecOn with
  | ind i ih =>
    intro hi
    cases hl : listed.getD i true with
    | true => rfl
    | false =>
      have hm : i ∈ Region.ready md ops listed := mem_ready.2 ⟨hl, ops[i], by simp [hi], fun e he hbd => by
        have hlt := edgesBack_spec hb (i := i) (o := ops[i]) (by simp [hi]) e he hbd
        have h1 := ih e.on hlt (Nat.lt_trans hlt hi)
        have hsz : i < listed.size := by
          rcases Nat.lt_or_ge i listed.size with h' | h'
          · exact h'
          · simp [Array.getElem?_eq_none h'] at hl
        have : e.on < listed.size := Nat.lt_trans hlt hsz
        simpa [this] using h1⟩
      rw [hr] at hm; cases hm
/-- An invariant over what has come up. -/
theorem wpAny_inv (I : Array Bool → Act → World → Prop) (hb : edgesBack md ops = true)
    (hstep : ∀ listed a w i o, I listed a w → ops[i]? = some o → listed.getD i true = false → (∀ e ∈ o.after, Region.binds md e = true → listed.getD e.on false = true) → wpOp P ops Q i (I (listed.setIfInBounds i true)) a w)
    (hend : ∀ listed a w, I listed a w → (∀ i, i < ops.size → listed.getD i true = true) → Q .normal a w) :
    ∀ (fuel : Nat) (listed : Array Bool) (a : Act) (w : World), listed.toList.count false ≤ fuel → I listed a w → wpAny P md ops Q fuel listed a w := by
  intro fuel
  induction fuel with
  | zero =>
    intro listed a w hc hI
    have hr : Region.ready md ops listed = [] := by
      rw [List.eq_nil_iff_forall_not_mem]
      intro i hi
      obtain ⟨h0, _⟩ := mem_ready.1 hi
      have : false ∈ listed.toList := by
        rcases Nat.lt_or_ge i listed.size with h' | h'
        · simp [h'] at h0; rw [← h0]; simp
        · simp [Array.getElem?_eq_none h'] at h0
      have := List.count_pos_iff.2 this
      omega
    exact ⟨hr, hend _ _ _ hI (all_listed hb hr)⟩
  | succ fuel ih =>
    intro listed a w hc hI
    refine ⟨fun hr => hend _ _ _ hI (all_listed hb hr), fun i hi => ?_⟩
    obtain ⟨h0, o, ho, hall⟩ := mem_ready.1 hi
    refine wpOp_mono (fun a' w' h' => ih _ a' w' ?_ h') (hstep _ _ _ _ _ hI ho h0 hall)
    have h1 : listed.toList[i]? = some false := by
      rcases Nat.lt_or_ge i listed.size with h' | h'
      · simp [h'] at h0; simp [h', h0]
      · simp [Array.getElem?_eq_none h'] at h0
    have := count_set _ _ h1
    simp only [Array.toList_setIfInBounds]
    omega
/-- What each operation yields. -/
def upd (f : Nat → Value) (i : Nat) (v : Value) : Nat → Value := fun j => if j = i then v else f j
/-- One operation, whatever of the others has come up: it yields v with R i v, keeps G and each R of another. -/
def OgStep (P : Program) (md : Region.Mode) (ops : Array Oper) (Q : Exit → Act → World → Prop) (A : (Nat → Value) → Act) (G : (Nat → Value) → World → Prop) (R : Nat → (Nat → Value) → World → Prop) (i : Nat) (o : Oper) : Prop :=
  ∀ f w, G f w → (∀ e ∈ o.after, Region.binds md e = true → R e.on f w) → ∀ K : Act → World → Prop,
    (∀ v w', G (upd f i v) w' → R i (upd f i v) w' → (∀ j, j ≠ i → R j f w → R j (upd f i v) w') → K ((A f).put o.dst v) w') →
    if Region.wanted o (yielded ops (A f).tmps) = true then Oper.wp P o (A f) w K Q else K ((A f).put o.dst undef) w
theorem wpAny_og (A : (Nat → Value) → Act) (G : (Nat → Value) → World → Prop) (R : Nat → (Nat → Value) → World → Prop) (hb : edgesBack md ops = true)
    (hA : ∀ i o, ops[i]? = some o → ∀ f v, (A f).put o.dst v = A (upd f i v))
    (hs : ∀ i o, ops[i]? = some o → OgStep P md ops Q A G R i o)
    (hend : ∀ f w, G f w → (∀ i, i < ops.size → R i f w) → Q .normal (A f) w)
    (f : Nat → Value) (w : World) (hG : G f w) : wpAny P md ops Q ops.size (Array.replicate ops.size false) (A f) w := by
  refine wpAny_inv (fun listed a w => listed.size = ops.size ∧ ∃ f, G f w ∧ a = A f ∧ ∀ i, listed.getD i false = true → R i f w) hb ?_ ?_ _ _ _ _ ?_ ⟨by simp, f, hG, rfl, fun i hi => ?_⟩
  · rintro listed a w i o ⟨hz, f, hG, rfl, hR⟩ ho h0 hall
    refine wpOp_step ho (fun K hK => hs i o ho f w hG (fun e he hbd => hR _ (hall e he hbd)) K (fun v w' hG' hi' hj' => hK _ _ ⟨by simpa using hz, upd f i v, hG', hA i o ho f v, fun j hj => ?_⟩))
    by_cases hji : j = i
    · subst hji; exact hi'
    · rw [getD_set_ne false (Ne.symm hji)] at hj
      exact hj' j hji (hR j hj)
  · rintro listed a w ⟨hz, f, hG, rfl, hR⟩ hall
    refine hend f w hG (fun i hi => hR i ?_)
    have h1 := hall i hi
    have : i < listed.size := by omega
    simpa [this] using h1
  · simp
  · exfalso
    rcases Nat.lt_or_ge i ops.size with h' | h'
    · simp [h'] at hi
    · simp [h'] at hi

/-- Something of each operation, with its number. -/
def Each (F : Nat → Oper → Prop) : Nat → List Oper → Prop
  | _, [] => True
  | i, o :: l => F i o ∧ Each F (i + 1) l
theorem Each.spec {F : Nat → Oper → Prop} : ∀ (l : List Oper) (n : Nat), Each F n l → ∀ i o, l[i]? = some o → F (n + i) o
  | [], _, _, i, o, h => by cases h
  | x :: l, n, hh, 0, o, h => by simp at h; subst h; exact hh.1
  | x :: l, n, hh, i + 1, o, h => by
    have := Each.spec l (n + 1) hh.2 i o (by simpa using h)
    rwa [show n + (i + 1) = n + 1 + i by omega]
/-- The frame in which each operation's slot holds what f says. -/
def putAll (f : Nat → Value) : Nat → List Oper → Act → Act
  | _, [], a => a
  | i, o :: l, a => putAll f (i + 1) l (a.put o.dst (f i))
theorem putAll_congr {f g : Nat → Value} : ∀ (l : List Oper) (n : Nat) (a : Act), (∀ j, n ≤ j → f j = g j) → putAll f n l a = putAll g n l a
  | [], _, _, _ => rfl
  | o :: l, n, a, h => by
    unfold putAll
    rw [h n (Nat.le_refl _)]
    exact putAll_congr l (n + 1) _ (fun j hj => h j (by omega))
/-- No two operations write one slot. -/
def dstsApart : List Oper → Bool
  | [] => true
  | o :: l => (match o.dst with | none => true | some d => l.all fun x => x.dst != some d) && dstsApart l
theorem putAll_out (f : Nat → Value) (v : Value) (dst : Option Tmp) : ∀ (l : List Oper) (n : Nat) (a : Act), (∀ d, dst = some d → ∀ x ∈ l, x.dst ≠ some d) → (putAll f n l a).put dst v = putAll f n l (a.put dst v)
  | [], _, _, _ => rfl
  | o :: l, n, a, h => by
    unfold putAll
    rw [putAll_out f v dst l (n + 1) _ (fun d hd x hx => h d hd x (List.mem_cons_of_mem _ hx))]
    rw [Act.put_comm a (x := o.dst) (y := dst) (f n) v (fun d hd he => h d he o List.mem_cons_self hd)]
theorem put_twice (a : Act) (d : Option Tmp) (u v : Value) : (a.put d u).put d v = a.put d v := by
  cases d with
  | none => rfl
  | some d => simp [Act.put]
theorem putAll_put (v : Value) : ∀ (l : List Oper) (n : Nat) (f : Nat → Value) (a : Act), dstsApart l = true → ∀ i o, l[i]? = some o → (putAll f n l a).put o.dst v = putAll (upd f (n + i) v) n l a
  | [], _, _, _, _, i, o, h => by cases h
  | x :: l, n, f, a, hd, 0, o, h => by
    simp at h; subst h
    simp only [dstsApart, Bool.and_eq_true] at hd
    unfold putAll
    rw [putAll_out f v x.dst l (n + 1) _ (fun d hx y hy => by
      have h1 := hd.1
      rw [hx] at h1
      have := List.all_eq_true.1 h1 y hy
      simpa using this)]
    rw [put_twice]
    have e : upd f (n + 0) v n = v := by simp [upd]
    rw [e]
    exact putAll_congr l (n + 1) _ (fun j hj => by simp only [upd]; rw [if_neg (by omega)])
  | x :: l, n, f, a, hd, i + 1, o, h => by
    simp only [dstsApart, Bool.and_eq_true] at hd
    unfold putAll
    rw [putAll_put v l (n + 1) f _ hd.2 i o (by simpa using h)]
    have e : upd f (n + (i + 1)) v n = f n := by simp only [upd]; rw [if_neg (by omega)]
    rw [e, show n + 1 + i = n + (i + 1) by omega]
/-- What lies in the slots. -/
def slots (a : Act) (ops : Array Oper) : Nat → Value := fun i => match (ops[i]?).bind (·.dst) with | some d => a.tmps.getD d undef | none => undef
theorem put_self (a : Act) (d : Option Tmp) (v : Value) (h : ∀ t, d = some t → v = a.tmps.getD t undef) : a.put d v = a := by
  cases d with
  | none => rfl
  | some t =>
    have := h t rfl
    subst this
    obtain ⟨ts, ds⟩ := a
    simp only [Act.put]
    congr 1
    apply Array.ext
    · simp
    · intro j h1 h2
      by_cases e : t = j
      · subst e; simp [h2]
      · simp [Array.getElem_setIfInBounds_ne, e, h2]
theorem putAll_self (a : Act) : ∀ (l : List Oper) (n : Nat) (f : Nat → Value), (∀ i o, l[i]? = some o → ∀ t, o.dst = some t → f (n + i) = a.tmps.getD t undef) → putAll f n l a = a
  | [], _, _, _ => rfl
  | o :: l, n, f, h => by
    unfold putAll
    rw [put_self a o.dst (f n) (fun t ht => h 0 o rfl t ht)]
    exact putAll_self a l (n + 1) f (fun i x hx t ht => by
      have := h (i + 1) x (by simpa using hx) t ht
      rwa [show n + (i + 1) = n + 1 + i by omega] at this)
/-- A region that asks for its order, operation by operation. -/
theorem wp_region_og {id : Nat} {l : List Oper} {a : Act} {w : World} (G : (Nat → Value) → World → Prop) (R : Nat → (Nat → Value) → World → Prop) (hm : P.follows .mixedOrders = true)
    (hb : edgesBack .any l.toArray = true) (hd : dstsApart l = true) (hG : G (slots a l.toArray) w.drew)
    (hs : Each (fun i o => OgStep P .any l.toArray Q (fun f => putAll f 0 l a) G R i o) 0 l)
    (hend : ∀ f w, G f w → (∀ i, i < l.length → R i f w) → Q .normal (putAll f 0 l a) w) : (Code.region id l.toArray true).wp P Q a w := by
  refine wp_region_any hm ?_
  have h0 : putAll (slots a l.toArray) 0 l a = a := putAll_self a l 0 _ (fun i o ho t ht => by simp [slots, ho, ht])
  have := wpAny_og (P := P) (Q := Q) (ops := l.toArray) (md := .any) (fun f => putAll f 0 l a) G R hb
    (fun i o ho f v => by have := putAll_put v l 0 f a hd i o (by simpa using ho); simpa using this)
    (fun i o ho => by have := Each.spec l 0 hs i o (by simpa using ho); simpa using this)
    (fun f w hG hR => hend f w hG (fun i hi => hR i (by simpa using hi))) (slots a l.toArray) w.drew hG
  simp only [h0] at this
  exact this
end
end Go.Proofs.Ytoiiekmkcpcbgaa
/-
  Plain arithmetic of numbers in four limbs of 64 bits: no program in sight.
-/
namespace Go.Proofs.Ytoiiekmkcpcbgaa
open Go.RowKit

/-- The number of four limbs, the lowest first. -/
def vl (a b c d : Int) : Int := a + 18446744073709551616 * b + 340282366920938463463374607431768211456 * c + 6277101735386680763835789423207666416102355444464034512896 * d
def l0 (n : Int) : Int := n % 18446744073709551616
def l1 (n : Int) : Int := n / 18446744073709551616 % 18446744073709551616
def l2 (n : Int) : Int := n / 340282366920938463463374607431768211456 % 18446744073709551616
def l3 (n : Int) : Int := n / 6277101735386680763835789423207666416102355444464034512896 % 18446744073709551616
/-- 2 to the 256. -/
def MM : Int := 115792089237316195423570985008687907853269984665640564039457584007913129639936
def U1 (a : Int) : Prop := 0 ≤ a ∧ a < 18446744073709551616
def U4 (a b c d : Int) : Prop := U1 a ∧ U1 b ∧ U1 c ∧ U1 d

/-- A number of 256 bits as the program holds it. -/
abbrev nv (n : Int) : Value := .agg #[.int .u64 (l0 n), .int .u64 (l1 n), .int .u64 (l2 n), .int .u64 (l3 n)]

theorem u4_lb (n : Int) : U4 (l0 n) (l1 n) (l2 n) (l3 n) := by unfold U4 U1 l0 l1 l2 l3; omega
theorem vl_lb (n : Int) (h0 : 0 ≤ n) (h : n < MM) : vl (l0 n) (l1 n) (l2 n) (l3 n) = n := by unfold vl l0 l1 l2 l3; unfold MM at h; omega
theorem vl_bd {a b c d : Int} (h : U4 a b c d) : 0 ≤ vl a b c d ∧ vl a b c d < MM := by unfold vl MM; unfold U4 U1 at h; omega
theorem l0_vl {a b c d : Int} (h : U4 a b c d) : l0 (vl a b c d) = a := by unfold vl l0; unfold U4 U1 at h; omega
theorem l1_vl {a b c d : Int} (h : U4 a b c d) : l1 (vl a b c d) = b := by unfold vl l1; unfold U4 U1 at h; omega
theorem l2_vl {a b c d : Int} (h : U4 a b c d) : l2 (vl a b c d) = c := by unfold vl l2; unfold U4 U1 at h; omega
theorem l3_vl {a b c d : Int} (h : U4 a b c d) : l3 (vl a b c d) = d := by unfold vl l3; unfold U4 U1 at h; omega
theorem nv_vl {a b c d : Int} (h : U4 a b c d) : nv (vl a b c d) = .agg #[.int .u64 a, .int .u64 b, .int .u64 c, .int .u64 d] := by
  rw [nv, l0_vl h, l1_vl h, l2_vl h, l3_vl h]
theorem nv_of {a b c d n : Int} (h0 : a = l0 n) (h1 : b = l1 n) (h2 : c = l2 n) (h3 : d = l3 n) : (Value.agg #[.int .u64 a, .int .u64 b, .int .u64 c, .int .u64 d]) = nv n := by
  rw [h0, h1, h2, h3]
theorem nv_inj {n m : Int} (hn0 : 0 ≤ n) (hn : n < MM) (hm0 : 0 ≤ m) (hm : m < MM) (h : l0 n = l0 m ∧ l1 n = l1 m ∧ l2 n = l2 m ∧ l3 n = l3 m) : n = m := by
  rw [← vl_lb n hn0 hn, ← vl_lb m hm0 hm, h.1, h.2.1, h.2.2.1, h.2.2.2]

/-- How two numbers stand. -/
def cm (a b : Int) : Int := if a < b then -1 else if b < a then 1 else 0
theorem ret_int {k : IntKind} {a b : Int} (h : a = b) : Ending.returned (.int k a) = .returned (.int k b) := by rw [h]

/-- The world behind a call that only makes new blocks. -/
def Mo (w w' : World) : Prop := Below w.heap.size w w' ∧ ∀ a, w'.frozen? a = w.frozen? a
theorem Mo.refl (w : World) : Mo w w := ⟨Below.refl _ _, fun _ => rfl⟩
theorem Mo.trans {a b c : World} (h : Mo a b) (k : Mo b c) : Mo a c :=
  ⟨h.1.trans (k.1.mono h.1.size), fun x => (k.2 x).trans (h.2 x)⟩
theorem Mo.drew {a b : World} (h : Mo a b) : Mo a b.drew := ⟨h.1.drew, h.2⟩
theorem Mo.drewN {a b : World} (h : Mo a b) (n : Nat) : Mo a (b.drewN n) := ⟨h.1.trans ⟨rfl, rfl, rfl, Nat.le_refl _, fun _ _ => rfl⟩, h.2⟩
theorem Mo.alloc {a b : World} (h : Mo a b) (c : Array Value) (t : TypeId) : Mo a (b.alloc (.cells c t)) :=
  ⟨h.1.alloc h.1.size _, fun x => (frozen?_alloc_cells _ _ _ x).trans (h.2 x)⟩
theorem Mo.setCell {a b : World} (h : Mo a b) {p : Addr} (hp : a.heap.size ≤ p.block) (v : Value) : Mo a (b.setCell p v) :=
  ⟨h.1.setCell hp v, fun x => (World.frozen?_setCell _ _ _ _).trans (h.2 x)⟩
theorem Mo.size {a b : World} (h : Mo a b) : a.heap.size ≤ b.heap.size := h.1.size
theorem Mo.cell {a b : World} (h : Mo a b) : ∀ k o, k < a.heap.size → b.cell? ⟨k, o, none⟩ = a.cell? ⟨k, o, none⟩ := fun k o hk => h.1.cell (p := ⟨k, o, none⟩) hk

/-- math/bits.Add64: the model stands in for it. -/
theorem add64 (x y c : Int) (hx : 0 ≤ x) (hy : 0 ≤ y) (hc0 : 0 ≤ c) (hc : c ≤ 1) (w : World) : (callFunc 54 #[.int .u64 x, .int .u64 y, .int .u64 c]).run Try.prog w =
    .ok (.value (.tuple #[.int .u64 ((x + y + c) % 18446744073709551616), .int .u64 ((x + y + c) / 18446744073709551616)])) w := by
  rw [run_callFunc_extern Try.func54 (by kernel_rfl) (by kernel_rfl) (by kernel_rfl) (e := add64Entry) (by kernel_rfl), run_add64 x y c hx hy hc0 hc]
  rfl
theorem add64_0 (x y : Int) (hx : 0 ≤ x) (hy : 0 ≤ y) (w : World) : (callFunc 54 #[.int .u64 x, .int .u64 y, .int .u64 0]).run Try.prog w =
    .ok (.value (.tuple #[.int .u64 ((x + y) % 18446744073709551616), .int .u64 ((x + y) / 18446744073709551616)])) w := by
  simpa using add64 x y 0 hx hy (Int.le_refl 0) (by decide) w
/-- The number of limbs taken off any number: what it is short of 2 to the 256. -/
theorem vl_nv (n : Int) : vl (l0 n) (l1 n) (l2 n) (l3 n) = n % MM := by unfold vl l0 l1 l2 l3 MM; omega
theorem nv_mod (n : Int) : nv (n % MM) = nv n := by
  have h0 : l0 (n % MM) = l0 n := by unfold l0 MM; omega
  have h1 : l1 (n % MM) = l1 n := by unfold l1 MM; omega
  have h2 : l2 (n % MM) = l2 n := by unfold l2 MM; omega
  have h3 : l3 (n % MM) = l3 n := by unfold l3 MM; omega
  rw [nv, h0, h1, h2, h3]
theorem nv_get (n : Int) (h0 : 0 ≤ n) (h : n < MM) : nv (vl (l0 n) (l1 n) (l2 n) (l3 n)) = nv n := by rw [vl_lb n h0 h]
theorem nat_not (a : Nat) (h : a < 18446744073709551616) : 18446744073709551615 ^^^ a = 18446744073709551615 - a := by
  apply Nat.eq_of_testBit_eq
  intro i
  have e := Nat.testBit_two_pow_sub_succ (n := 64) (x := a) h i
  have e2 : (18446744073709551615 - a : Nat) = 2 ^ 64 - (a + 1) := by omega
  rw [e2, e, Nat.testBit_xor, show (18446744073709551615 : Nat) = 2 ^ 64 - 1 from rfl, Nat.testBit_two_pow_sub_one]
  by_cases hi : i < 64
  · simp [hi]
  · have : a.testBit i = false := Nat.testBit_lt_two_pow (Nat.lt_of_lt_of_le h (Nat.pow_le_pow_right (n := 2) (by decide) (by omega : 64 ≤ i)))
    simp [hi, this]
theorem bnot (a : Int) (h0 : 0 ≤ a) (h1 : a < 18446744073709551616) : bits .xor .u64 IntKind.u64.max a = 18446744073709551615 - a := by
  obtain ⟨x, rfl⟩ := Int.eq_ofNat_of_zero_le h0
  have e := bits_xor_u64_nat 18446744073709551615 x (by omega) (by omega)
  rw [nat_not x (by omega)] at e
  have e2 : IntKind.u64.max = ((18446744073709551615 : Nat) : Int) := by decide
  rw [e2, e]; omega
/-- Too great; below 0. -/
def ov (n : Int) : Bool := decide (MM ≤ n)
def un (n : Int) : Bool := decide (n < 0)
theorem ov_ne {a b c d e f g h : Int} (h1 : U4 a b c d) (h2 : U4 e f g h) : ((vl a b c d + vl e f g h) / MM != 0) = ov (vl a b c d + vl e f g h) := by
  obtain ⟨p, q⟩ := vl_bd h1; obtain ⟨r, s⟩ := vl_bd h2
  unfold ov; unfold MM at *
  rw [Bool.eq_iff_iff]; simp; omega
theorem un_ne {a b c d e f g h : Int} (h1 : U4 a b c d) (h2 : U4 e f g h) : (-((vl a b c d - vl e f g h) / MM) != 0) = un (vl a b c d - vl e f g h) := by
  obtain ⟨p, q⟩ := vl_bd h1; obtain ⟨r, s⟩ := vl_bd h2
  unfold un; unfold MM at *
  rw [Bool.eq_iff_iff]; simp; omega
/-- The borrow of x less y and b. -/
def bw (x y b : Int) : Int := -((x - y - b) / 18446744073709551616)
theorem bw_bd {x y b : Int} (h1 : 0 ≤ x) (h2 : x < 18446744073709551616) (h3 : 0 ≤ y) (h4 : y < 18446744073709551616) (h5 : 0 ≤ b) (h6 : b ≤ 1) : 0 ≤ bw x y b ∧ bw x y b ≤ 1 := by unfold bw; omega
theorem sub64_nat (x y b : Nat) (hb : b ≤ 1) (w : World) : (callFunc 105 #[.int .u64 x, .int .u64 y, .int .u64 b]).run Try.prog w =
    .ok (.value (.tuple #[.int .u64 (((x + 18446744073709551616 - y - b) % 18446744073709551616 : Nat) : Int), .int .u64 ((if x < y + b then 1 else 0 : Nat) : Int)])) w := by
  have : b = 0 ∨ b = 1 := by omega
  rw [run_callFunc_extern Try.func105 (by kernel_rfl) (by kernel_rfl) (by kernel_rfl) (by rfl)]
  rcases this with rfl | rfl <;> rfl
/-- math/bits.Sub64: the model stands in for it. -/
theorem sub64 (x y b : Int) (h1 : 0 ≤ x) (h2 : x < 18446744073709551616) (h3 : 0 ≤ y) (h4 : y < 18446744073709551616) (h5 : 0 ≤ b) (h6 : b ≤ 1) (w : World) : (callFunc 105 #[.int .u64 x, .int .u64 y, .int .u64 b]).run Try.prog w =
    .ok (.value (.tuple #[.int .u64 ((x - y - b) % 18446744073709551616), .int .u64 (bw x y b)])) w := by
  obtain ⟨x, rfl⟩ := Int.eq_ofNat_of_zero_le h1
  obtain ⟨y, rfl⟩ := Int.eq_ofNat_of_zero_le h3
  obtain ⟨b, rfl⟩ := Int.eq_ofNat_of_zero_le h5
  have e1 : (((x + 18446744073709551616 - y - b) % 18446744073709551616 : Nat) : Int) = ((x : Int) - y - b) % 18446744073709551616 := by omega
  have e2 : ((if x < y + b then 1 else 0 : Nat) : Int) = bw x y b := by unfold bw; split <;> omega
  rw [← e1, ← e2]
  exact sub64_nat x y b (by omega) w
theorem sub64_0 (x y : Int) (h1 : 0 ≤ x) (h2 : x < 18446744073709551616) (h3 : 0 ≤ y) (h4 : y < 18446744073709551616) (w : World) : (callFunc 105 #[.int .u64 x, .int .u64 y, .int .u64 0]).run Try.prog w =
    .ok (.value (.tuple #[.int .u64 ((x - y) % 18446744073709551616), .int .u64 (bw x y 0)])) w := by
  simpa using sub64 x y 0 h1 h2 h3 h4 (Int.le_refl 0) (by decide) w
end Go.Proofs.Ytoiiekmkcpcbgaa
/-
  Small facts on worlds: where a number of four limbs lies, and that it stays where it lies.
-/
namespace Go.Proofs.Ytoiiekmkcpcbgaa
open Go.RowKit
/-- The block k holds these limbs. -/
def At4 (w : World) (k : Nat) (a b c d : Int) : Prop := w.cell? ⟨k, 0, none⟩ = some (.int .u64 a) ∧ w.cell? ⟨k, 1, none⟩ = some (.int .u64 b) ∧ w.cell? ⟨k, 2, none⟩ = some (.int .u64 c) ∧ w.cell? ⟨k, 3, none⟩ = some (.int .u64 d)
def At8 (w : World) (k : Nat) (a b c d e f g h : Int) : Prop := w.cell? ⟨k, 0, none⟩ = some (.int .u64 a) ∧ w.cell? ⟨k, 1, none⟩ = some (.int .u64 b) ∧ w.cell? ⟨k, 2, none⟩ = some (.int .u64 c) ∧ w.cell? ⟨k, 3, none⟩ = some (.int .u64 d) ∧ w.cell? ⟨k, 4, none⟩ = some (.int .u64 e) ∧ w.cell? ⟨k, 5, none⟩ = some (.int .u64 f) ∧ w.cell? ⟨k, 6, none⟩ = some (.int .u64 g) ∧ w.cell? ⟨k, 7, none⟩ = some (.int .u64 h)
/-- No cell of the block k is frozen. -/
def Fz (w : World) (k : Nat) : Prop := ∀ o, w.frozen? ⟨k, o, none⟩ = false
theorem At4.mo {w w' : World} {k : Nat} {a b c d : Int} (h : At4 w k a b c d) (m : Mo w w') (hk : k < w.heap.size) : At4 w' k a b c d := by
  unfold At4 at *; simp only [m.cell k _ hk]; exact h
theorem At8.mo {w w' : World} {k : Nat} {a b c d e f g i : Int} (h : At8 w k a b c d e f g i) (m : Mo w w') (hk : k < w.heap.size) : At8 w' k a b c d e f g i := by
  unfold At8 at *; simp only [m.cell k _ hk]; exact h
theorem Fz.mo {w w' : World} {k : Nat} (h : Fz w k) (m : Mo w w') : Fz w' k := fun o => (m.2 _).trans (h o)

theorem idx0 (x0 x1 x2 x3 : Value) (w : World) : (Instr.index 24 (.agg #[x0, x1, x2, x3]) (.int .i64 0)).run Try.prog w = .ok x0 w := by kernel_rfl
theorem idx1 (x0 x1 x2 x3 : Value) (w : World) : (Instr.index 24 (.agg #[x0, x1, x2, x3]) (.int .i64 1)).run Try.prog w = .ok x1 w := by kernel_rfl
theorem idx2 (x0 x1 x2 x3 : Value) (w : World) : (Instr.index 24 (.agg #[x0, x1, x2, x3]) (.int .i64 2)).run Try.prog w = .ok x2 w := by kernel_rfl
theorem idx3 (x0 x1 x2 x3 : Value) (w : World) : (Instr.index 24 (.agg #[x0, x1, x2, x3]) (.int .i64 3)).run Try.prog w = .ok x3 w := by kernel_rfl
end Go.Proofs.Ytoiiekmkcpcbgaa
/-
  A walk step by step: each operation by its own law, the world behind it a letter, a block's cells one row.
-/
namespace Go.Proofs.Ytoiiekmkcpcbgaa
open Go.RowKit
/-- The address of a block's cell. -/
abbrev pt (k o : Nat) : Value := .pointer (some ⟨k, o, none⟩)
/-- The block k holds these cells. -/
def At (w : World) (k : Nat) (vs : List Value) : Prop := w.rangeAt k 0 vs ∧ Fz w k ∧ k < w.heap.size
theorem At.lt {w : World} {k : Nat} {vs : List Value} (h : At w k vs) : k < w.heap.size := h.2.2
theorem At.mo {w w' : World} {k : Nat} {vs : List Value} (h : At w k vs) (m : Mo w w') : At w' k vs :=
  ⟨fun j v hv => (m.cell k _ h.2.2).trans (h.1 j v hv), h.2.1.mo m, Nat.lt_of_lt_of_le h.2.2 m.size⟩
theorem At.cell {w : World} {k : Nat} {vs : List Value} (h : At w k vs) {j : Nat} {v : Value} (hv : vs[j]? = some v) : w.cell? ⟨k, j, none⟩ = some v := by
  have := h.1 j v hv; simpa using this
theorem At.there {w : World} {k : Nat} {vs : List Value} (h : At w k vs) (o n : Nat) (hn : o + n ≤ vs.length) : w.there k o n := fun j hj => by
  refine ⟨?_, h.2.1 _⟩
  rw [h.cell (j := o + j) (v := vs[o + j]'(by omega)) (List.getElem?_eq_getElem (by omega))]; rfl
theorem At.new (w : World) (cs : Array Value) (t : TypeId) : At (w.alloc (.cells cs t)) w.heap.size cs.toList := by
  refine ⟨fun j v hv => ?_, fun o => ?_, by simp⟩
  · simp at hv; simp [go_sem, hv]
  · simp [go_sem]
theorem sz_setCells (k : Nat) : ∀ (l : List Value) (o : Nat) (w : World), (w.setCells k o l).heap.size = w.heap.size
  | [], _, _ => rfl
  | v :: r, o, w => by rw [World.setCells, sz_setCells k r]; simp [World.setCell]
theorem Mo.setCs {a : World} {k : Nat} (hk : a.heap.size ≤ k) : ∀ (l : List Value) (o : Nat) (b : World), Mo a b → Mo a (b.setCells k o l)
  | [], _, _, h => h
  | v :: r, o, b, h => by rw [World.setCells]; exact Mo.setCs hk r (o + 1) _ (h.setCell hk v)
/-- What a store into the block k leaves as it was. -/
structure St (k : Nat) (w w' : World) : Prop where
  size : w'.heap.size = w.heap.size
  other : ∀ j vs, j ≠ k → At w j vs → At w' j vs
  mo : ∀ a : World, a.heap.size ≤ k → Mo a w → Mo a w'
theorem St.mk' (w : World) (k o : Nat) (l : List Value) : St k w (w.setCells k o l) where
  size := sz_setCells k l o w
  other := fun j vs hj h => ⟨World.rangeAt_setCells_apart h.1 k o l (Or.inl hj), fun o' => by rw [World.frozen?_setCells]; exact h.2.1 o', by rw [sz_setCells]; exact h.2.2⟩
  mo := fun a ha h => Mo.setCs ha l o w h
theorem At.set {w : World} {k : Nat} {us : List Value} (h : At w k us) (o : Nat) (l : List Value) (hl : o + l.length ≤ us.length) (vs : List Value) (hvs : vs = us.take o ++ l ++ us.drop (o + l.length)) : At (w.setCells k o l) k vs := by
  subst hvs
  refine ⟨fun j v hv => ?_, fun o' => by rw [World.frozen?_setCells]; exact h.2.1 o', by rw [sz_setCells]; exact h.2.2⟩
  rw [Nat.zero_add]
  by_cases h1 : j < o
  · rw [World.cell?_setCells_out k l o w _ (fun _ _ => Or.inl h1)]
    refine h.cell ?_
    rw [List.append_assoc, List.getElem?_append_left (by simp; omega), List.getElem?_take_of_lt h1] at hv
    exact hv
  · by_cases h2 : j < o + l.length
    · rw [List.append_assoc, List.getElem?_append_right (by simp; omega), List.getElem?_append_left (by simp; omega)] at hv
      have := World.cell?_setCells_in k l o w (fun i hi => (h.there o l.length hl i hi).1) (j - o) (by omega)
      rw [show o + (j - o) = j by omega] at this
      rw [this, ← hv]
      rw [List.length_take, show min o us.length = o by omega, List.getElem?_eq_getElem (by omega)]
    · rw [World.cell?_setCells_out k l o w _ (fun _ _ => Or.inr (by show o + l.length ≤ j; omega))]
      refine h.cell ?_
      rw [List.getElem?_append_right (by simp; omega), List.getElem?_drop] at hv
      rw [← hv]
      congr 1
      simp
      omega
section runs
variable {P : Program} {w : World} {k : Nat} {vs : List Value}
theorem run_row (h : At w k vs) (ty : TypeId) (o n : Nat) (us : List Value) (hus : us = (vs.drop o).take n) {d : TypeDesc} (hu : P.underlying ty = some d) (hd : d.isRow = true) (hi : (P.info? ty).map (·.size) = some us.length) :
    (Instr.loadAt ty (pt k o)).run P w = .ok (.agg us.toArray) w :=
  run_loadAt_mid w k o ty us d (fun j v hv => by
    subst hus
    refine h.cell ?_
    rw [List.getElem?_take] at hv
    split at hv
    · rw [List.getElem?_drop] at hv; exact hv
    · cases hv) hu hd hi
theorem run_one (h : At w k vs) (ty : TypeId) (o : Nat) {v : Value} (hv : vs[o]? = some v) {d : TypeDesc} (hu : P.underlying ty = some d) (hd : d.isRow = false) :
    (Instr.loadAt ty (pt k o)).run P w = .ok v w := by
  have hagg : (isAgg ty).run P w = .ok false w := by
    unfold isAgg
    rw [Sem.run_bind, run_underlying hu w]
    cases d <;> simp_all
  have hc := h.cell hv
  simp [Instr.loadAt, Instr.sureAddr, loadVar, Sem.run_bind, hagg, hc]
theorem run_put (h : At w k vs) (ty : TypeId) (o : Nat) (us : Array Value) (hl : o + us.size ≤ vs.length) (hi : (P.info? ty).map (·.size) = some us.size) (h1 : us.all (·.oneCell') = true) :
    (Instr.storeAt ty (pt k o) (.agg us)).run P w = .ok () (w.setCells k o us.toList) :=
  run_storeAt_mid w k o ty us (h.there o us.size hl) hi h1
theorem run_put1 (h : At w k vs) (ty : TypeId) (o : Nat) (v : Value) (hl : o < vs.length) (hi : (P.info? ty).map (·.size) = some 1) (hv : v.cells = #[v]) (h1 : v.oneCell' = true) :
    (Instr.storeAt ty (pt k o) v).run P w = .ok () (w.setCells k o [v]) := by
  have ht := h.there o 1 (by omega)
  have := run_storeCells_cells (P := P) k o [v] 0 w (fun j hj => by simpa using (ht j (by simpa using hj)).1) (fun j hj => by simpa using (ht j (by simpa using hj)).2)
    (fun u hu => by simp at hu; subst hu; exact h1)
  cases hq : P.info? ty with
  | none => simp [hq] at hi
  | some i =>
    have hs : i.size = 1 := by simpa [hq] using hi
    simp only [Nat.add_zero] at this
    simp [Instr.storeAt, Instr.sureAddr, storeVar, sizeOf, typeInfo, hq, hv, hs, this]
end runs
/-! Frames as lists of what was put where, the last first. -/
theorem blt_f {t n : Nat} (h : ¬ t < n) : Nat.blt t n = false := by
  cases e : Nat.blt t n with
  | false => rfl
  | true => rw [Nat.blt_eq] at e; exact absurd e h
theorem beq_f {d j : Nat} (h : ¬ d = j) : Nat.beq d j = false := by
  cases e : Nat.beq d j with
  | false => rfl
  | true => exact absurd (Nat.eq_of_beq_eq_true e) h
def look : List (Nat × Value) → Nat → Value
  | [], _ => undef
  | (d, v) :: l, t => bif Nat.beq d t then v else look l t
def fr (n : Nat) (l : List (Nat × Value)) : Act := { tmps := Array.ofFn (n := n) fun i => look l i, defers := [] }
def ext (l : List (Nat × Value)) : Option Tmp → Value → List (Nat × Value)
  | some d, v => (d, v) :: l
  | none, _ => l
/-- What an operand is. -/
def evl (n : Nat) (l : List (Nat × Value)) : Operand → Value
  | .tmp t => bif Nat.blt t n then look l t else undef
  | .const v => v
  | .global g => .pointer (some ⟨g, 0, none⟩)
  | .func f => .func (.func f) #[] #[]
theorem fr_getD (n : Nat) (l : List (Nat × Value)) (t : Nat) : (fr n l).tmps.getD t undef = bif Nat.blt t n then look l t else undef := by
  unfold fr
  by_cases h : t < n
  · have e : Nat.blt t n = true := by simpa using h
    simp [h, e]
  · have e := blt_f h
    simp [h, e]
theorem fr_eval (n : Nat) (l : List (Nat × Value)) : (fr n l).eval = evl n l := by
  funext x
  cases x with
  | tmp t => exact fr_getD n l t
  | _ => rfl
theorem fr_put (n : Nat) (l : List (Nat × Value)) (d : Option Tmp) (v : Value) : (fr n l).put d v = fr n (ext l d v) := by
  cases d with
  | none => rfl
  | some d =>
    simp only [fr, Act.put, ext]
    congr 1
    apply Array.ext
    · simp
    · intro j h1 h2
      simp at h1
      by_cases e : d = j
      · subst e; simp [look]
      · have := beq_f e
        rw [Array.getElem_setIfInBounds_ne (by simpa using h1) e]
        simp [look, this]
/-- Is an operation wanted? -/
def wnt (n : Nat) (l : List (Nat × Value)) (ops : Array Oper) (o : Oper) : Bool :=
  match o.guard with
  | none => true
  | some (j, want) => (match (ops[j]?).bind (·.dst) with
    | some t => (bif Nat.blt t n then (match look l t with | .bool b => some b | _ => none) else none)
    | none => none) == some want
theorem fr_wanted (n : Nat) (l : List (Nat × Value)) (ops : Array Oper) (o : Oper) : Region.wanted o (yielded ops (fr n l).tmps) = wnt n l ops o := by
  unfold Region.wanted wnt
  cases o.guard with
  | none => rfl
  | some g =>
    obtain ⟨j, want⟩ := g
    simp only [yielded]
    cases (ops[j]?).bind (·.dst) with
    | none => rfl
    | some t =>
      by_cases h : t < n
      · have e : Nat.blt t n = true := by simpa using h
        simp [fr, h, e]
        cases look l t <;> rfl
      · have e := blt_f h
        simp [fr, h, e]
/-- The arguments in their slots. -/
def argl : Nat → List Value → List (Nat × Value)
  | _, [] => []
  | i, v :: r => (i, v) :: argl (i + 1) r
theorem look_argl : ∀ (vs : List Value) (i t : Nat), look (argl i vs) t = if i ≤ t then (vs[t - i]?).getD undef else undef
  | [], i, t => by simp [argl, look]
  | v :: r, i, t => by
    have ih := look_argl r (i + 1) t
    by_cases e : i = t
    · subst e; simp [argl, look]
    · have hb := beq_f e
      simp only [argl, look, hb, cond_false, ih]
      by_cases h : i + 1 ≤ t
      · rw [if_pos h, if_pos (by omega), show t - i = (t - (i + 1)) + 1 by omega, List.getElem?_cons_succ]
      · rw [if_neg h, if_neg (by omega)]
theorem fr_args (n : Nat) (args : Array Value) (h : args.size ≤ n) : ({ tmps := args ++ Array.replicate (n - args.size) undef, defers := [] } : Act) = fr n (argl 0 args.toList) := by
  unfold fr
  congr 1
  apply Array.ext
  · simp; omega
  · intro j h1 h2
    simp at h2
    simp only [Array.getElem_ofFn, look_argl, Nat.zero_le, if_true, Nat.sub_zero]
    by_cases hj : j < args.size
    · rw [Array.getElem_append_left hj]; simp [hj]
    · rw [Array.getElem_append_right (by omega)]; simp [Nat.le_of_not_lt hj]
theorem f_enter {P : Program} {f : FuncId} {fn : Func} {c : Code} {args : Array Value} {w : World} {R : Ending → World → Prop} (n : Nat) (hf : P.funcs[f]? = some fn) (hn : fn.ntmps = n) (hb : fn.body = some c)
    (ha : Nat.ble args.size n = true) (h : c.wp P (bodyPost P fn R) (fr n (argl 0 args.toList)) w) : Calls P f args w R := by
  refine calls_of_wp hf hb ?_
  rw [hn, fr_args n args (by simpa using ha)]
  exact h
/-- One of the results. -/
def resv (n : Nat) (l : List (Nat × Value)) (P : Program) (w : World) (v : Value) : ResultVar → Prop
  | .tmp t => (bif Nat.blt t n then look l t else undef) = v
  | .cell a t => ∃ k : Nat, (bif Nat.blt a n then look l a else undef) = pt k 0 ∧ (Instr.loadAt t (pt k 0)).run P w = .ok v w
theorem resv_tmp {n : Nat} {l : List (Nat × Value)} {P : Program} {w : World} {v : Value} {t : Tmp} (h : resv n l P w v (.tmp t)) : (fr n l).tmps[t]?.getD undef = v := by
  have := fr_getD n l t
  simp only [Array.getD_eq_getD_getElem?] at this
  rw [this]; exact h
theorem resv_cell {n : Nat} {l : List (Nat × Value)} {P : Program} {w : World} {v : Value} {a : Tmp} {t : TypeId} (h : resv n l P w v (.cell a t)) : ∃ k : Nat, (fr n l).tmps[a]?.getD undef = pt k 0 ∧ (loadVar t ⟨k, 0, none⟩).run P w = .ok v w := by
  obtain ⟨k, h1, h2⟩ := h
  refine ⟨k, ?_, by simpa only [Instr.loadAt, Instr.sureAddr, Sem.run_bind, Sem.run_pure, Result.andThen_ok] using h2⟩
  have := fr_getD n l a
  simp only [Array.getD_eq_getD_getElem?] at this
  rw [this]; exact h1
theorem Each.mono {F G : Nat → Oper → Prop} (h : ∀ i o, F i o → G i o) : ∀ (l : List Oper) (n : Nat), Each F n l → Each G n l
  | [], _, _ => trivial
  | _ :: l, n, hh => ⟨h _ _ hh.1, Each.mono h l (n + 1) hh.2⟩
/-! The laws of the steps. -/
section steps
variable {P : Program} {o : Oper} {n : Nat} {l : List (Nat × Value)} {w : World} {ops : Array Oper} {rest : List Oper} {Q : Exit → Act → World → Prop} {K : Act → World → Prop}
theorem o_val {w' : World} (v : Value) (h : (execOp (evl n l) o).run P w = .ok (.value v) w') (hk : K (fr n (ext l o.dst v)) w') : o.wp P (fr n l) w K Q := by
  unfold Oper.wp; rw [fr_eval, h, Oper.upon_value, fr_put]; exact hk
theorem o_load (ty : TypeId) (x : Operand) (p v : Value) (ho : o.op = .load ty x) (hx : evl n l x = p) (h : (Instr.loadAt ty p).run P w = .ok v w) (hk : K (fr n (ext l o.dst v)) w) : o.wp P (fr n l) w K Q := by
  refine o_val v ?_ hk
  subst hx
  simp [execOp, ho, h]
theorem o_store (ty : TypeId) (x y : Operand) (p v : Value) {w' : World} (ho : o.op = .store ty x y) (hd : o.dst = none) (hx : evl n l x = p) (hy : evl n l y = v) (h : (Instr.storeAt ty p v).run P w = .ok () w') (hk : K (fr n l) w') : o.wp P (fr n l) w K Q := by
  subst hx hy
  have e : (execOp (evl n l) o).run P w = .ok .skip w' := by simp [execOp, ho, h]
  unfold Oper.wp; rw [fr_eval, e, Oper.upon_skip, hd]; exact hk
theorem o_alloc (ty : TypeId) (zs : Array Value) (ho : o.op = .alloc ty) (h : ∀ w, (Instr.alloc ty true (.tuple #[])).run P w = .ok (pt w.heap.size 0) (w.alloc (.cells zs ty)))
    (hk : ∀ k w', w.heap.size = k → w'.heap.size = k + 1 → Mo w w' → At w' k zs.toList → K (fr n (ext l o.dst (pt k 0))) w') : o.wp P (fr n l) w K Q := by
  refine o_val (pt w.heap.size 0) (w' := w.alloc (.cells zs ty)) ?_ (hk _ _ rfl (by simp) ((Mo.refl _).alloc _ _) (At.new w zs ty))
  simp [execOp, ho, h]
theorem o_box (ty : TypeId) (x : Operand) (v : Value) (cs : Array Value) (ho : o.op = .box ty x) (hx : evl n l x = v) (h : ∀ w, (Instr.box ty v).run P w = .ok (pt w.heap.size 0) (w.alloc (.cells cs ty)))
    (hk : ∀ k w', w.heap.size = k → w'.heap.size = k + 1 → Mo w w' → At w' k cs.toList → K (fr n (ext l o.dst (pt k 0))) w') : o.wp P (fr n l) w K Q := by
  subst hx
  refine o_val (pt w.heap.size 0) (w' := w.alloc (.cells cs ty)) ?_ (hk _ _ rfl (by simp) ((Mo.refl _).alloc _ _) (At.new w cs ty))
  simp [execOp, ho, h]
theorem o_call (g : FuncId) (xs : List Operand) (ats : Array TypeId) (args : List Value) (v : Value) (ho : o.op = .call { callee := .value (.func g), args := xs.toArray, argTypes := ats }) (hx : xs.map (evl n l) = args)
    (h : ∀ args w, (callFunc g args).run P w = .ok (.enter g args) w)
    (hc : Calls P g args.toArray w fun e w' => e = .returned v ∧ Mo w w') (hk : ∀ w', Mo w w' → K (fr n (ext l o.dst v)) w') : o.wp P (fr n l) w K Q := by
  have e : (execOp (evl n l) o).run P w = .ok (.enter g args.toArray) w := by
    obtain ⟨dst, op, ty, pos, after, guard⟩ := o
    simp only at ho
    subst ho hx
    have e2 := execOp_call_go (fr n l) dst g xs.toArray ats ty pos after guard
    rw [fr_eval] at e2
    rw [e2, h]
    simp
  unfold Oper.wp; rw [fr_eval, e, Oper.upon_enter]
  refine hc.mono ?_
  rintro e w' ⟨rfl, h⟩
  show K _ _
  rw [fr_put]
  exact hk w' h
theorem o_st (ty : TypeId) (x y : Operand) (k off : Nat) (us : Array Value) (vs vs' : List Value) (hA : At w k vs) (ho : o.op = .store ty x y) (hd : o.dst = none) (hx : evl n l x = pt k off) (hy : evl n l y = .agg us)
    (hl : Nat.ble (off + us.size) vs.length = true) (hi : (P.info? ty).map (·.size) = some us.size) (h1 : us.toList.all (·.oneCell') = true) (hvs : vs' = vs.take off ++ us.toList ++ vs.drop (off + us.toList.length))
    (hk : ∀ w', St k w w' → At w' k vs' → K (fr n l) w') : o.wp P (fr n l) w K Q :=
  o_store ty x y _ _ ho hd hx hy (run_put hA ty off us (Nat.le_of_ble_eq_true hl) hi (by rw [← Array.all_toList]; exact h1)) (hk _ (St.mk' w k off us.toList) (hA.set off us.toList (by have := Nat.le_of_ble_eq_true hl; simpa using this) vs' hvs))
theorem o_st1 (ty : TypeId) (x y : Operand) (k off : Nat) (v : Value) (vs vs' : List Value) (hA : At w k vs) (ho : o.op = .store ty x y) (hd : o.dst = none) (hx : evl n l x = pt k off) (hy : evl n l y = v)
    (hl : Nat.blt off vs.length = true) (hi : (P.info? ty).map (·.size) = some 1) (hv : v.cells = #[v]) (h1 : v.oneCell' = true) (hvs : vs' = vs.take off ++ [v] ++ vs.drop (off + 1))
    (hk : ∀ w', St k w w' → At w' k vs' → K (fr n l) w') : o.wp P (fr n l) w K Q :=
  have hl' : off < vs.length := by rw [Nat.blt_eq] at hl; exact hl
  o_store ty x y _ _ ho hd hx hy (run_put1 hA ty off v hl' hi hv h1) (hk _ (St.mk' w k off [v]) (hA.set off [v] (by simp; omega) vs' hvs))
/-- In a region that draws nothing. -/
theorem l_step (hg : wnt n l ops o = true) (h : o.wp P (fr n l) w (wpList P ops Q rest) Q) : wpList P ops Q (o :: rest) (fr n l) w :=
  wpList_step fun K hK => by rw [fr_wanted, hg, if_pos rfl]; exact Oper.wp_mono (fun a w h => hK a w h) h
theorem l_skip (hg : wnt n l ops o = false) (h : wpList P ops Q rest (fr n (ext l o.dst undef)) w) : wpList P ops Q (o :: rest) (fr n l) w :=
  wpList_step fun K hK => by rw [fr_wanted, hg, fr_put]; exact hK _ _ h
theorem l_end {next : Act → World → Prop} {a : Act} (h : next a w) : wpList P ops (Exit.then next Q) [] a w := h
theorem l_endb {id : Nat} {a : Act} (h : wpList P ops Q [] a w) : wpList P ops (Exit.inBlock id Q) [] a w := h
theorem s_end {next : Act → World → Prop} {a : Act} (h : next a w) : Code.skip.wp P (Exit.then next Q) a w := wp_skip h
theorem c_cond {c : Operand} {x y : Code} (t : Bool) (hc : evl n l c = .bool t) (h : (bif t then x else y).wp P Q (fr n l) w) : (Code.cond c x y).wp P Q (fr n l) w := by
  cases t
  · exact wp_cond_false (by rw [fr_eval]; exact hc) h
  · exact wp_cond_true (by rw [fr_eval]; exact hc) h
theorem c_ret1 {fn : Func} {R : Ending → World → Prop} (x : ResultVar) (v : Value) (hf : fn.results = #[x]) (h : resv n l P w v x) (hR : R (.returned v) w) : bodyPost P fn R .ret (fr n l) w := by
  refine bodyPost_ret (v := v) ?_ rfl hR
  cases x with
  | tmp t => have := resv_tmp h; simp [results, hf, this]
  | cell a t => obtain ⟨k, h1, h2⟩ := resv_cell h; simp [results, hf, h1, h2, asAddr]
theorem c_ret2 {fn : Func} {R : Ending → World → Prop} (x y : ResultVar) (v u : Value) (hf : fn.results = #[x, y]) (h : resv n l P w v x) (g : resv n l P w u y) (hR : R (.returned (.tuple #[v, u])) w) : bodyPost P fn R .ret (fr n l) w := by
  refine bodyPost_ret (v := .tuple #[v, u]) ?_ rfl hR
  cases x with
  | tmp t =>
    have h1 := resv_tmp h
    cases y with
    | tmp t => have g1 := resv_tmp g; simp [results, hf, h1, g1]
    | cell a t => obtain ⟨k, g1, g2⟩ := resv_cell g; simp [results, hf, h1, g1, g2, asAddr]
  | cell a t =>
    obtain ⟨k, h1, h2⟩ := resv_cell h
    cases y with
    | tmp t => have g1 := resv_tmp g; simp [results, hf, h1, h2, g1, asAddr]
    | cell a t => obtain ⟨k, g1, g2⟩ := resv_cell g; simp [results, hf, h1, h2, g1, g2, asAddr]
/-- The slots of the operations, as f says. -/
def asg (f : Nat → Value) : Nat → List Oper → List (Nat × Value) → List (Nat × Value)
  | _, [], l => l
  | i, o :: r, l => asg f (i + 1) r (ext l o.dst (f i))
theorem putAll_fr (f : Nat → Value) : ∀ (r : List Oper) (i : Nat) (l : List (Nat × Value)), putAll f i r (fr n l) = fr n (asg f i r l)
  | [], _, _ => rfl
  | o :: r, i, l => by simp only [putAll, asg, fr_put]; exact putAll_fr f r (i + 1) _
/-- Does o wait for number j? -/
def depb (o : Oper) (j : Nat) : Bool := o.after.toList.any fun e => Region.binds .any e && Nat.beq e.on j
/-- One operation, whatever of the others has come up. -/
def OgS (P : Program) (ops : List Oper) (Q : Exit → Act → World → Prop) (n : Nat) (l : List (Nat × Value)) (G : (Nat → Value) → World → Prop) (R : Nat → (Nat → Value) → World → Prop) (i : Nat) (o : Oper) : Prop :=
  ∀ f w, G f w → (∀ j, depb o j = true → R j f w) → ∀ K : Act → World → Prop,
    (∀ v w', G (upd f i v) w' → R i (upd f i v) w' → (∀ j, j ≠ i → R j f w → R j (upd f i v) w') → K (fr n (ext (asg f 0 ops l) o.dst v)) w') →
    bif wnt n (asg f 0 ops l) ops.toArray o then o.wp P (fr n (asg f 0 ops l)) w K Q else K (fr n (ext (asg f 0 ops l) o.dst undef)) w
theorem r_og {id : Nat} {ol : List Oper} (G : (Nat → Value) → World → Prop) (R : Nat → (Nat → Value) → World → Prop) (hm : P.follows .mixedOrders = true)
    (hb : edgesBack .any ol.toArray = true) (hd : dstsApart ol = true) (hG : G (slots (fr n l) ol.toArray) w.drew)
    (hs : Each (OgS P ol Q n l G R) 0 ol)
    (hend : ∀ f w, G f w → (∀ i, Nat.blt i ol.length = true → R i f w) → Q .normal (fr n (asg f 0 ol l)) w) : (Code.region id ol.toArray true).wp P Q (fr n l) w := by
  refine wp_region_og G R hm hb hd hG ?_ ?_
  · refine Each.mono ?_ ol 0 hs
    intro i o h f w hG hdep K hK
    have h1 := h f w hG (fun j hj => by
      obtain ⟨e, he, hb⟩ := List.any_eq_true.1 hj
      simp only [Bool.and_eq_true] at hb
      have := hdep e (by simpa using he) hb.1
      rwa [Nat.eq_of_beq_eq_true hb.2] at this) K (fun v w' a b c => by
        have := hK v w' a b c
        simp only [putAll_fr, fr_put] at this
        exact this)
    simp only [putAll_fr, fr_wanted, fr_put]
    cases hw : wnt n (asg f 0 ol l) ol.toArray o <;> simp only [hw, cond_true, cond_false] at h1 ⊢ <;> exact h1
  · intro f w hG hR
    rw [putAll_fr]
    exact hend f w hG (fun i hi => hR i (by rw [Nat.blt_eq] at hi; exact hi))
theorem li1 {a b : Value} (h : a = b) : [a] = [b] := by rw [h]
theorem li2 {a b c d : Value} (h : a = b) (k : c = d) : [a, c] = [b, d] := by rw [h, k]
theorem li3 {a b c d e f : Value} (h : a = b) (k : c = d) (m : e = f) : [a, c, e] = [b, d, f] := by rw [h, k, m]
theorem li4 {a b c d e f g i : Value} (h : a = b) (k : c = d) (m : e = f) (p : g = i) : [a, c, e, g] = [b, d, f, i] := by rw [h, k, m, p]
end steps
end Go.Proofs.Ytoiiekmkcpcbgaa
/-
  A region that draws its order: what each operation of its first part yields, said once for each; the last part a chain.
-/
namespace Go.Proofs.Ytoiiekmkcpcbgaa
open Go.RowKit
/-- What an operation yields: a value, or the address of a new block with such cells. -/
abbrev Sp := Sum Value (List Value)
def spNew : Sp → Bool
  | .inl _ => false
  | .inr _ => true
def spDen (N : Nat) : Sp → Value → World → Prop
  | .inl v, u, _ => u = v
  | .inr zs, u, w => ∃ k, u = pt k 0 ∧ N ≤ k ∧ At w k zs
theorem spMo {N : Nat} {s : Sp} {u : Value} {w w' : World} (m : Mo w w') (h : spDen N s u w) : spDen N s u w' := by
  cases s with
  | inl v => exact h
  | inr zs => obtain ⟨k, h1, h2, h3⟩ := h; exact ⟨k, h1, h2, h3.mo m⟩
def spAt (sp : List Sp) (i : Nat) : Sp := (sp[i]?).getD (.inl undef)
/-- New blocks are apart. -/
def Ds (sp : List Sp) (f : Nat → Value) (w : World) : Prop :=
  (∀ j, spNew (spAt sp j) = true → ∀ k, f j = pt k 0 → k < w.heap.size) ∧ ∀ i j, spNew (spAt sp i) = true → spNew (spAt sp j) = true → i ≠ j → ∀ k, f i = pt k 0 → f j ≠ pt k 0
theorem Ds.other {sp : List Sp} {f : Nat → Value} {w w' : World} {i : Nat} {v : Value} (h : Ds sp f w) (hi : spNew (spAt sp i) = false) (hz : w.heap.size ≤ w'.heap.size) : Ds sp (upd f i v) w' := by
  have e : ∀ j, spNew (spAt sp j) = true → upd f i v j = f j := fun j hj => by
    unfold upd; rw [if_neg]; intro e; subst e; rw [hi] at hj; cases hj
  exact ⟨fun j hj k hk => Nat.lt_of_lt_of_le (h.1 j hj k (by rw [← e j hj]; exact hk)) hz, fun a b ha hb hab k hk => by rw [e b hb]; exact h.2 a b ha hb hab k (by rw [← e a ha]; exact hk)⟩
theorem pt_inj {a b : Nat} (h : pt a 0 = pt b 0) : a = b := by simpa using h
theorem Ds.fresh {sp : List Sp} {f : Nat → Value} {w w' : World} {i k : Nat} (h : Ds sp f w) (hk : w.heap.size = k) (hz : w'.heap.size = k + 1) : Ds sp (upd f i (pt k 0)) w' := by
  refine ⟨fun j hj m hm => ?_, fun a b ha hb hab m hm hn => ?_⟩
  · unfold upd at hm
    split at hm
    · have := pt_inj hm; omega
    · have := h.1 j hj m hm; omega
  · unfold upd at hm hn
    split at hm
    · have e := pt_inj hm
      split at hn
      · omega
      · have := h.1 b hb m hn; omega
    · split at hn
      · have e := pt_inj hn; have := h.1 a ha m hm; omega
      · exact h.2 a b ha hb hab m hm hn
/-- Does number i wait for number j, by one step or more? -/
def tw (ops : List Oper) : Nat → Nat → Nat → Bool
  | 0, _, _ => false
  | f + 1, i, j => match ops[i]? with
    | some o => depb o j || (List.range i).any fun k => depb o k && tw ops f k j
    | none => false
theorem exists_least0 {p : Nat → Prop} (h : ∃ m, p m) : ∃ m, p m ∧ ∀ k, p k → m ≤ k := by
  obtain ⟨m, hm⟩ := h
  induction m using Nat.strongRecOn with
  | ind m ih =>
    by_cases hh : ∃ k, k < m ∧ p k
    · obtain ⟨k, hk, hp⟩ := hh; exact ih k hk hp
    · exact ⟨m, hm, fun k hp => Nat.le_of_not_lt (fun hk => hh ⟨k, hk, hp⟩)⟩
/-- From number m on each waits for all ahead of it. -/
def chainB (ops : List Oper) (m : Nat) (fs : List Nat) : Bool := (List.range ops.length).all fun i => Nat.blt i m || (List.range i).all fun j => fs.contains j || tw ops ops.length i j
/-- What has come up had all that it waits for. -/
def Shut (ops : List Oper) (listed : Array Bool) : Prop := ∀ i o, ops[i]? = some o → listed.getD i false = true → ∀ e ∈ o.after, Region.binds .any e = true → listed.getD e.on false = true
theorem tw_spec {ops : List Oper} {listed : Array Bool} (hc : Shut ops listed) : ∀ (f i j : Nat) (o : Oper), ops[i]? = some o → (∀ e ∈ o.after, Region.binds .any e = true → listed.getD e.on false = true) → tw ops f i j = true → listed.getD j false = true := by
  intro f
  induction f with
  | zero => intro i j o _ _ h; cases h
  | succ f ih =>
    intro i j o ho hd h
    have dep : ∀ k, depb o k = true → listed.getD k false = true := fun k hk => by
      obtain ⟨e, he, hb⟩ := List.any_eq_true.1 hk
      simp only [Bool.and_eq_true] at hb
      have := hd e (by simpa using he) hb.1
      rwa [Nat.eq_of_beq_eq_true hb.2] at this
    simp only [tw, ho, Bool.or_eq_true] at h
    rcases h with h | h
    · exact dep j h
    · obtain ⟨k, hk, hkk⟩ := List.any_eq_true.1 h
      simp only [Bool.and_eq_true] at hkk
      cases hok : ops[k]? with
      | none => cases f with
        | zero => cases hkk.2
        | succ f => simp [tw, hok] at hkk
      | some ok => exact ih k j ok hok (fun e he hb => hc k ok hok (dep k hkk.1) e he hb) hkk.2
theorem chainB_spec {ops : List Oper} {m : Nat} {fs : List Nat} (h : chainB ops m fs = true) {listed : Array Bool} (hc : Shut ops listed) {i : Nat} {o : Oper} (ho : ops[i]? = some o) (hi : m ≤ i) (hd : ∀ e ∈ o.after, Region.binds .any e = true → listed.getD e.on false = true) : ∀ j, j < i → fs.contains j = false → listed.getD j false = true := by
  intro j hj hfl
  have h1 := List.all_eq_true.1 h i (List.mem_range.2 (List.getElem?_eq_some_iff.1 ho).1)
  simp only [Bool.or_eq_true] at h1
  rcases h1 with h1 | h1
  · rw [Nat.blt_eq] at h1; omega
  · have h2 := List.all_eq_true.1 h1 j (List.mem_range.2 hj)
    rw [hfl, Bool.false_or] at h2
    exact tw_spec hc _ i j o ho hd h2
theorem Shut.step {ops : List Oper} {listed : Array Bool} (h : Shut ops listed) {i : Nat} {o : Oper} (ho : ops[i]? = some o) (hd : ∀ e ∈ o.after, Region.binds .any e = true → listed.getD e.on false = true) : Shut ops (listed.setIfInBounds i true) := by
  intro j oj hoj hl e he hb
  by_cases hij : i = j
  · subst hij
    rw [ho] at hoj; cases hoj
    exact getD_set_true (hd e he hb)
  · rw [getD_set_ne false hij] at hl
    exact getD_set_true (h j oj hoj hl e he hb)
theorem Shut.start (ops : List Oper) (n : Nat) : Shut ops (Array.replicate n false) := fun i _ _ hl => by
  exfalso
  rcases Nat.lt_or_ge i n with h' | h' <;> simp [h'] at hl
section
variable {P : Program} {ops : List Oper} {Q : Exit → Act → World → Prop} {n : Nat} {l : List (Nat × Value)}
/-- The last part. -/
theorem wpAny_chain {m : Nat} {fs : List Nat} (hfs : ∀ j, m ≤ j → fs.contains j = false) (hc : chainB ops m fs = true) (hb : edgesBack .any ops.toArray = true) : ∀ (d q fuel : Nat) (listed : Array Bool) (a : Act) (w : World), q + d = ops.length → m ≤ q → d ≤ fuel → listed.size = ops.length → Shut ops listed →
    (∀ j, j < ops.length → listed.getD j true = decide (j < q)) → wpList P ops.toArray Q (ops.drop q) a w → wpAny P .any ops.toArray Q fuel listed a w := by
  intro d
  induction d with
  | zero =>
    intro q fuel listed a w hq hm hf hz hsh hl h
    have hr : Region.ready .any ops.toArray listed = [] := by
      rw [List.eq_nil_iff_forall_not_mem]
      intro i hi
      obtain ⟨h0, o, ho, _⟩ := mem_ready.1 hi
      have hlt : i < ops.length := by have := (Array.getElem?_eq_some_iff.1 ho).1; simpa using this
      rw [hl i hlt] at h0
      have := of_decide_eq_false h0
      omega
    rw [List.drop_eq_nil_of_le (by omega)] at h
    exact wpAny_done hr h fuel
  | succ d ih =>
    intro q fuel listed a w hq hm hf hz hsh hl h
    have hqlt : q < ops.length := by omega
    cases fuel with
    | zero => omega
    | succ fuel =>
      have hone : ∀ i, i ∈ Region.ready .any ops.toArray listed ↔ i = q := by
        intro i
        constructor
        · intro hi
          obtain ⟨h0, o, ho, hall⟩ := mem_ready.1 hi
          have hlt : i < ops.length := by have := (Array.getElem?_eq_some_iff.1 ho).1; simpa using this
          rw [hl i hlt] at h0
          have hge := of_decide_eq_false h0
          rcases Nat.lt_or_ge q i with hgt | hle
          · have h1 := chainB_spec hc hsh (i := i) (o := o) (by simpa using ho) (by omega) hall q hgt (hfs q hm)
            have h2 := hl q hqlt
            have : q < listed.size := by omega
            simp [this] at h1 h2
            rw [h1] at h2; cases h2
          · omega
        · rintro rfl
          refine mem_ready.2 ⟨by rw [hl i hqlt]; simp, ops[i], by simp [hqlt], fun e he hbd => ?_⟩
          have hlt := edgesBack_spec hb (i := i) (o := ops[i]) (by simp [hqlt]) e he hbd
          have h2 := hl e.on (by omega)
          have : e.on < listed.size := by omega
          simp [this] at h2 ⊢
          rw [h2]; exact decide_eq_true hlt
      refine ⟨fun h0 => ?_, fun i hi => ?_⟩
      · have := (hone q).2 rfl; rw [h0] at this; cases this
      · have := (hone i).1 hi
        subst this
        have hdi : ∀ e ∈ (ops[i]).after, Region.binds .any e = true → listed.getD e.on false = true := by
          obtain ⟨_, o, ho, hall⟩ := mem_ready.1 hi
          have : ops[i] = o := by have := Array.getElem?_eq_some_iff.1 ho; obtain ⟨_, h⟩ := this; simpa using h
          rw [this]; exact hall
        rw [List.drop_eq_getElem_cons hqlt] at h
        have h1 : wpOp P ops.toArray Q i (wpList P ops.toArray Q (ops.drop (i + 1))) a w := by
          unfold wpOp
          have e : ops.toArray[i]? = some ops[i] := by simp [hqlt]
          rw [e]
          unfold wpList at h
          exact h
        refine wpOp_mono (fun a' w' h' => ih (i + 1) fuel _ a' w' (by omega) (by omega) (by omega) (by simpa using hz) (hsh.step (i := i) (o := ops[i]) (by simp [hqlt]) hdi) (fun j hj => ?_) h') h1
        by_cases e : i = j
        · subst e
          have : i < listed.size := by omega
          simp [this]
        · rw [getD_set_ne true e, hl j hj]
          congr 1
          rw [eq_iff_iff]; omega
/-- One operation that yields a value. -/
def OgE (P : Program) (ops : List Oper) (Q : Exit → Act → World → Prop) (n : Nat) (l : List (Nat × Value)) (m : Nat) (W : World) (sp : List Sp) (i : Nat) (o : Oper) : Prop :=
  ∀ f w, Mo W w → (∀ j, depb o j = true → spDen W.heap.size (spAt sp j) (f j) w) → ∀ K : Act → World → Prop,
    (match spAt sp i with
      | .inl v => ∀ w', Mo w w' → K (fr n (ext (asg f 0 (ops.take m) l) o.dst v)) w'
      | .inr zs => ∀ k w', w.heap.size = k → w'.heap.size = k + 1 → Mo w w' → At w' k zs → K (fr n (ext (asg f 0 (ops.take m) l) o.dst (pt k 0))) w') →
    bif wnt n (asg f 0 (ops.take m) l) ops.toArray o then o.wp P (fr n (asg f 0 (ops.take m) l)) w K Q else K (fr n (ext (asg f 0 (ops.take m) l) o.dst undef)) w
/-- Those that may come up late: each is apart from all that may come behind. -/
def floatB (ops : List Oper) (m : Nat) (fs : List Nat) : Bool := fs.all fun i => Nat.blt i m && match ops[i]? with
  | some o => (List.range ops.length).all fun j => Nat.beq j i || (Nat.blt j m && !fs.contains j) || match ops[j]? with
    | some oj => depb oj i || o.apart ops.toArray oj
    | none => true
  | none => false
/-- What a late one yields, in whatever world. -/
def LateO (P : Program) (ops : List Oper) (Q : Exit → Act → World → Prop) (n : Nat) (l : List (Nat × Value)) (m : Nat) (sp : List Sp) (i : Nat) : Prop :=
  ∃ o v, ops[i]? = some o ∧ spAt sp i = .inl v ∧ (∀ u c a w, Q (.panic c) (a.put o.dst u) w → Q (.panic c) a w) ∧
    ∀ f, (∀ j, depb o j = true → ∀ u, spAt sp j = .inl u → f j = u) → wnt n (asg f 0 (ops.take m) l) ops.toArray o = true ∧ ∀ w, (execOp (evl n (asg f 0 (ops.take m) l)) o).run P w = .ok (.value v) w
theorem r_draw {id : Nat} {W : World} (m : Nat) (sp : List Sp) (fs : List Nat) (hm : P.follows .mixedOrders = true)
    (hb : edgesBack .any ops.toArray = true) (hd : dstsApart (ops.take m) = true) (hc : chainB ops m fs = true) (hl : Nat.ble m ops.length = true) (hf : floatB ops m fs = true) (hns : Region.noSelect ops.toArray = true)
    (hlate : ∀ i, i ∈ fs → LateO P ops Q n l m sp i)
    (hD : Ds sp (slots (fr n l) (ops.take m).toArray) W)
    (hs : Each (OgE P ops Q n l m W sp) 0 (ops.take m))
    (hend : ∀ f w, Mo W w → (∀ i, Nat.blt i m = true → spDen W.heap.size (spAt sp i) (f i) w) → Ds sp f w → wpList P ops.toArray Q (ops.drop m) (fr n (asg f 0 (ops.take m) l)) w) :
    (Code.region id ops.toArray true).wp P Q (fr n l) W := by
  have hml : m ≤ ops.length := Nat.le_of_ble_eq_true hl
  have hfm : ∀ i, i ∈ fs → i < m := fun i hi => by
    have := List.all_eq_true.1 hf i hi
    simp only [Bool.and_eq_true] at this
    rw [Nat.blt_eq] at this; exact this.1
  have hfs : ∀ j, m ≤ j → fs.contains j = false := fun j hj => by
    cases e : fs.contains j with
    | false => rfl
    | true => have := hfm j (by simpa using e); omega
  refine wp_region_any hm ?_
  -- all that are not late have come up: the late ones first, then the last part
  have second : ∀ (d fuel : Nat) (listed : Array Bool) (f : Nat → Value) (w : World), listed.toList.count false = (ops.length - m) + d → (ops.length - m) + d ≤ fuel → listed.size = ops.length → Shut ops listed → (∀ j, m ≤ j → j < ops.length → listed.getD j true = false) →
      (∀ j, j < m → fs.contains j = false → listed.getD j true = true) → Mo W w → Ds sp f w → (∀ i, i < m → listed.getD i false = true → spDen W.heap.size (spAt sp i) (f i) w) → wpAny P .any ops.toArray Q fuel listed (putAll f 0 (ops.take m) (fr n l)) w := by
    intro d
    induction d with
    | zero =>
      intro fuel listed f w hcnt hfu hz hsh hun hall hW hDs hR
      have hall2 : ∀ j, j < m → listed.getD j true = true := fun j hj => by
        cases e : listed.getD j true with
        | true => rfl
        | false =>
          exfalso
          have h1 : (listed.toList.drop m).count false = ops.length - m := by
            have h2 : listed.toList.drop m = List.replicate (ops.length - m) false := by
              apply List.ext_getElem
              · simp [hz]
              · intro j h3 h4
                simp at h3
                have := hun (m + j) (by omega) (by omega)
                have h5 : m + j < listed.size := by omega
                simpa [h5] using this
            rw [h2]; simp
          have h3 := List.take_append_drop m listed.toList
          have h4 : 0 < (listed.toList.take m).count false := by
            apply List.count_pos_iff.2
            have hjs : j < listed.size := by omega
            simp [hjs] at e
            rw [List.mem_iff_getElem]
            exact ⟨j, by simp; omega, by simp [e]⟩
          rw [← h3, List.count_append] at hcnt
          omega
      refine wpAny_chain hfs hc hb (ops.length - m) m _ listed _ w (by omega) (Nat.le_refl _) (by omega) hz hsh (fun j hj => ?_) ?_
      · rcases Nat.lt_or_ge j m with h | h
        · rw [hall2 j h]; simp [h]
        · rw [hun j h hj]; simp [Nat.not_lt.2 h]
      · rw [putAll_fr]
        exact hend f w hW (fun i hi => by
          have hi' : i < m := by rw [Nat.blt_eq] at hi; exact hi
          refine hR i hi' ?_
          have h1 := hall2 i hi'
          have h2 : i < listed.size := by omega
          simpa [h2] using h1) hDs
    | succ d ih =>
      intro fuel listed f w hcnt hfu hz hsh hun hall hW hDs hR
      -- a late one that has not come up: the first
      have hex : ∃ i, i < m ∧ listed.getD i true = false := by
        apply Classical.byContradiction
        intro hno
        have hall2 : ∀ j, j < m → listed.getD j true = true := fun j hj => by
          cases e : listed.getD j true with
          | true => rfl
          | false => exact absurd ⟨j, hj, e⟩ hno
        have h3 := List.take_append_drop m listed.toList
        have h4 : (listed.toList.take m).count false = 0 := by
          rw [List.count_eq_zero]
          intro hmem
          rw [List.mem_iff_getElem] at hmem
          obtain ⟨j, hj, e⟩ := hmem
          simp at hj e
          have hj1 : j < m := by omega
          have hj2 : j < listed.size := by omega
          have := hall2 j hj1
          simp [hj2] at this
          rw [this] at e; cases e
        have h5 : (listed.toList.drop m).count false ≤ ops.length - m := by
          have := List.count_le_length (a := false) (l := listed.toList.drop m)
          simp [hz] at this; exact this
        rw [← h3, List.count_append] at hcnt
        omega
      obtain ⟨i, ⟨him, hiu⟩, hmin⟩ := exists_least0 hex
      have hif : i ∈ fs := by
        cases e : fs.contains i with
        | true => simpa using e
        | false => have := hall i him e; rw [hiu] at this; cases this
      obtain ⟨o, v, ho, hv, hQ, hy⟩ := hlate i hif
      have hdep : ∀ e ∈ o.after, Region.binds .any e = true → listed.getD e.on false = true := fun e he hbd => by
        have hlt := edgesBack_spec hb (i := i) (o := o) (by simpa using ho) e he hbd
        have h1 : listed.getD e.on true = true := by
          cases ee : listed.getD e.on true with
          | true => rfl
          | false => have := hmin e.on ⟨by omega, ee⟩; omega
        have h2 : e.on < listed.size := by omega
        simpa [h2] using h1
      have hval : ∀ j, depb o j = true → ∀ u, spAt sp j = .inl u → f j = u := fun j hj u hu => by
        obtain ⟨e, he, hb'⟩ := List.any_eq_true.1 hj
        simp only [Bool.and_eq_true] at hb'
        have heon := Nat.eq_of_beq_eq_true hb'.2
        have hj' := hdep e (by simpa using he) hb'.1
        have hlt := edgesBack_spec hb (i := i) (o := o) (by simpa using ho) e (by simpa using he) hb'.1
        rw [heon] at hj' hlt
        have := hR j (by omega) hj'
        rw [hu] at this
        exact this
      obtain ⟨hw1, hw2⟩ := hy f hval
      cases fuel with
      | zero => omega
      | succ fuel =>
        refine wpAny_first (i := i) (oi := o) (v := v) (by simpa using ho) (Region.noSelect_spec hns) (hQ v) fuel listed _ w ?_ ?_ ?_ ?_
        · intro j oj hoj hji hju hno
          have hjl : j < ops.length := by have := (Array.getElem?_eq_some_iff.1 hoj).1; simpa using this
          have h1 := List.all_eq_true.1 hf i hif
          simp only [Bool.and_eq_true, ho] at h1
          have h2 := List.all_eq_true.1 h1.2 j (List.mem_range.2 hjl)
          have hoj' : ops[j]? = some oj := by simpa using hoj
          simp only [hoj', Bool.or_eq_true, Bool.and_eq_true, Bool.not_eq_true'] at h2
          rcases h2 with (h2 | h2) | h2 | h2
          · exact absurd (Nat.eq_of_beq_eq_true h2) hji
          · have := hall j (by have := h2.1; rw [Nat.blt_eq] at this; exact this) h2.2
            rw [this] at hju; cases hju
          · obtain ⟨e, he, hb'⟩ := List.any_eq_true.1 h2
            simp only [Bool.and_eq_true] at hb'
            exact absurd (Nat.eq_of_beq_eq_true hb'.2) (hno e (by simpa using he) hb'.1)
          · exact h2
        · exact mem_ready.2 ⟨hiu, o, by simpa using ho, hdep⟩
        · rw [putAll_fr]
          exact Or.inl ⟨by rw [fr_wanted]; exact hw1, fun w => by rw [fr_eval]; exact hw2 w⟩
        · have hot : (ops.take m)[i]? = some o := by rw [List.getElem?_take_of_lt him]; exact ho
          have hp := putAll_put v (ops.take m) 0 f (fr n l) hd i o hot
          rw [Nat.zero_add] at hp
          rw [hp]
          have h1 : listed.toList[i]? = some false := by
            have h' : i < listed.size := by omega
            simp [h'] at hiu; simp [h', hiu]
          have hcs := count_set _ _ h1
          refine ih fuel _ (upd f i v) w ?_ (by omega) (by simpa using hz) (hsh.step ho hdep) (fun j h1 h2 => ?_) (fun j h1 h2 => ?_) hW (hDs.other (by rw [hv]; rfl) (Nat.le_refl _)) (fun j hj hlj => ?_)
          · simp only [Array.toList_setIfInBounds]; omega
          · rw [getD_set_ne true (by omega)]; exact hun j h1 h2
          · have hij : i ≠ j := by intro e; subst e; have : fs.contains i = true := by simpa using hif
                                   rw [this] at h2; cases h2
            rw [getD_set_ne true hij]; exact hall j h1 h2
          · by_cases e : j = i
            · subst e; rw [hv]; simp [upd, spDen]
            · rw [getD_set_ne false (Ne.symm e)] at hlj
              have := hR j hj hlj
              simpa [upd, e] using this
  have main : ∀ (fuel : Nat) (listed : Array Bool) (f : Nat → Value) (w : World), listed.toList.count false ≤ fuel → listed.size = ops.length → Shut ops listed → (∀ j, m ≤ j → j < ops.length → listed.getD j true = false) →
      Mo W w → Ds sp f w → (∀ i, i < m → listed.getD i false = true → spDen W.heap.size (spAt sp i) (f i) w) → wpAny P .any ops.toArray Q fuel listed (putAll f 0 (ops.take m) (fr n l)) w := by
    intro fuel
    induction fuel with
    | zero =>
      intro listed f w hcnt hz hsh hun hW hDs hR
      refine wpAny_chain hfs hc hb (ops.length - m) m 0 listed _ w (by omega) (Nat.le_refl _) ?_ hz hsh ?_ ?_
      · rcases Nat.lt_or_ge m ops.length with h | h
        · exfalso
          have h1 := hun m (Nat.le_refl _) h
          have h2 : m < listed.size := by omega
          have : false ∈ listed.toList := by simp [h2] at h1; rw [← h1]; simp
          have := List.count_pos_iff.2 this
          omega
        · omega
      · intro j hj
        have h2 : j < listed.size := by omega
        have h3 : listed.getD j true = true := by
          cases e : listed.getD j true with
          | true => rfl
          | false =>
            have : false ∈ listed.toList := by simp [h2] at e; rw [← e]; simp
            have := List.count_pos_iff.2 this
            omega
        rcases Nat.lt_or_ge j m with h | h
        · rw [h3]; simp [h]
        · rw [hun j h hj] at h3; cases h3
      · rw [putAll_fr]
        refine hend f w hW (fun i hi => hR i (by rw [Nat.blt_eq] at hi; exact hi) ?_) hDs
        have hi' : i < m := by rw [Nat.blt_eq] at hi; exact hi
        have h2 : i < listed.size := by omega
        cases e : listed.getD i false with
        | true => rfl
        | false =>
          have : false ∈ listed.toList := by simp [h2] at e; rw [← e]; simp
          have := List.count_pos_iff.2 this
          omega
    | succ fuel ih =>
      intro listed f w hcnt hz hsh hun hW hDs hR
      by_cases hall : ∀ j, j < m → fs.contains j = false → listed.getD j true = true
      · have hge : ops.length - m ≤ listed.toList.count false := by
          have h1 : (listed.toList.drop m).count false = ops.length - m := by
            have h2 : listed.toList.drop m = List.replicate (ops.length - m) false := by
              apply List.ext_getElem
              · simp [hz]
              · intro j h3 h4
                simp at h3
                have := hun (m + j) (by omega) (by omega)
                have h5 : m + j < listed.size := by omega
                simpa [h5] using this
            rw [h2]; simp
          have h3 := List.take_append_drop m listed.toList
          rw [← h3, List.count_append]
          omega
        exact second (listed.toList.count false - (ops.length - m)) _ listed f w (by omega) (by omega) hz hsh hun hall hW hDs hR
      · obtain ⟨u, hum, huf, hu⟩ : ∃ u, u < m ∧ fs.contains u = false ∧ listed.getD u true = false := by
          rcases Classical.not_forall.1 hall with ⟨u, h⟩
          rcases Classical.not_imp.1 h with ⟨h1, h2⟩
          rcases Classical.not_imp.1 h2 with ⟨h3, h4⟩
          exact ⟨u, h1, h3, by cases e : listed.getD u true with | true => exact absurd e h4 | false => rfl⟩
        have hne : Region.ready .any ops.toArray listed ≠ [] := fun hr => by
          have := all_listed hb hr u (by simp; omega)
          rw [hu] at this; cases this
        refine ⟨fun h0 => absurd h0 hne, fun i hi => ?_⟩
        obtain ⟨h0, o, ho, hdep⟩ := mem_ready.1 hi
        have hoi : ops[i]? = some o := by simpa using ho
        have hilt : i < ops.length := (List.getElem?_eq_some_iff.1 hoi).1
        have him : i < m := by
          rcases Nat.lt_or_ge i m with h | h
          · exact h
          · exfalso
            have h1 := chainB_spec hc hsh hoi h hdep u (by omega) huf
            have h2 : u < listed.size := by omega
            simp [h2] at h1 hu
            rw [h1] at hu; cases hu
        have hot : (ops.take m)[i]? = some o := by rw [List.getElem?_take_of_lt him]; exact hoi
        have hstep := Each.spec (ops.take m) 0 hs i o hot
        rw [Nat.zero_add] at hstep
        have hcount : ((listed.setIfInBounds i true).toList.count false) ≤ fuel := by
          have h1 : listed.toList[i]? = some false := by
            have h' : i < listed.size := by omega
            simp [h'] at h0; simp [h', h0]
          have := count_set _ _ h1
          simp only [Array.toList_setIfInBounds]
          omega
        have hun' : ∀ j, m ≤ j → j < ops.length → (listed.setIfInBounds i true).getD j true = false := fun j h1 h2 => by
          rw [getD_set_ne true (by omega)]; exact hun j h1 h2
        have next : ∀ v w', Mo w w' → Ds sp (upd f i v) w' → spDen W.heap.size (spAt sp i) v w' → wpAny P .any ops.toArray Q fuel (listed.setIfInBounds i true) (putAll (upd f i v) 0 (ops.take m) (fr n l)) w' := fun v w' hmo hds hden => by
          refine ih _ _ w' hcount (by simpa using hz) (hsh.step hoi hdep) hun' (hW.trans hmo) hds (fun j hj hlj => ?_)
          by_cases e : j = i
          · subst e; simpa [upd] using hden
          · rw [getD_set_ne false (Ne.symm e)] at hlj
            have := spMo hmo (hR j hj hlj)
            simpa [upd, e] using this
        have put : ∀ v, fr n (ext (asg f 0 (ops.take m) l) o.dst v) = putAll (upd f i v) 0 (ops.take m) (fr n l) := fun v => by
          have := putAll_put v (ops.take m) 0 f (fr n l) hd i o hot
          rw [Nat.zero_add] at this
          rw [← this, putAll_fr, fr_put]
        refine wpOp_step ho (fun K hK => ?_)
        rw [putAll_fr, fr_wanted]
        have hh := hstep f w hW (fun j hj => by
          obtain ⟨e, he, hb'⟩ := List.any_eq_true.1 hj
          simp only [Bool.and_eq_true] at hb'
          have heon := Nat.eq_of_beq_eq_true hb'.2
          have hj' := hdep e (by simpa using he) hb'.1
          have hlt := edgesBack_spec hb ho e (by simpa using he) hb'.1
          rw [heon] at hj' hlt
          exact hR j (by omega) hj') K
        have hh2 : (bif wnt n (asg f 0 (ops.take m) l) ops.toArray o then o.wp P (fr n (asg f 0 (ops.take m) l)) w K Q else K (fr n (ext (asg f 0 (ops.take m) l) o.dst undef)) w) := by
          refine hh ?_
          cases hsp : spAt sp i with
          | inl v =>
            intro w' hmo
            rw [put]
            exact hK _ _ (next v w' hmo (hDs.other (by rw [hsp]; rfl) hmo.size) (by rw [hsp]; rfl))
          | inr zs =>
            intro k w' hk hz' hmo hat
            rw [put]
            exact hK _ _ (next (pt k 0) w' hmo (hDs.fresh hk hz') (by rw [hsp]; exact ⟨k, rfl, by have := hW.size; omega, hat⟩))
        rw [fr_put]
        cases hw : wnt n (asg f 0 (ops.take m) l) ops.toArray o <;> simp only [hw, cond_true, cond_false] at hh2 ⊢ <;> exact hh2
  have h0 : putAll (slots (fr n l) (ops.take m).toArray) 0 (ops.take m) (fr n l) = fr n l := putAll_self _ _ 0 _ (fun i o ho t ht => by simp only [Nat.zero_add, slots]; rw [show (ops.take m).toArray[i]? = some o by simpa using ho]; simp [ht])
  have := main ops.length (Array.replicate ops.length false) (slots (fr n l) (ops.take m).toArray) W.drew (by simp) (by simp) (Shut.start _ _) (fun j _ hj => by simp [hj]) (Mo.refl _).drew ⟨fun j hj k hk => hD.1 j hj k hk, hD.2⟩ (fun i _ hi => by
    exfalso
    rcases Nat.lt_or_ge i ops.length with h' | h' <;> simp [h'] at hi)
  rw [h0] at this
  simpa using this
/-- What each slot holds behind the first part. -/
def spv (sp : List Sp) (kf : Nat → Nat) (i : Nat) : Value :=
  match spAt sp i with
  | .inl v => v
  | .inr _ => pt (kf i) 0
theorem asg_congr {f g : Nat → Value} : ∀ (r : List Oper) (i : Nat) (l : List (Nat × Value)), (∀ j, i ≤ j → j < i + r.length → f j = g j) → asg f i r l = asg g i r l
  | [], _, _, _ => rfl
  | o :: r, i, l, h => by
    unfold asg
    rw [h i (Nat.le_refl _) (by simp)]
    exact asg_congr r (i + 1) _ (fun j h1 h2 => h j (by omega) (by simp; omega))
theorem r_any {id : Nat} {W : World} (m : Nat) (sp : List Sp) (fs : List Nat) (hm : P.follows .mixedOrders = true)
    (hb : edgesBack .any ops.toArray = true) (hd : dstsApart (ops.take m) = true) (hc : chainB ops m fs = true) (hl : Nat.ble m ops.length = true) (hf : floatB ops m fs = true) (hns : Region.noSelect ops.toArray = true)
    (hlate : ∀ i, i ∈ fs → LateO P ops Q n l m sp i)
    (hD : Ds sp (slots (fr n l) (ops.take m).toArray) W)
    (hs : Each (OgE P ops Q n l m W sp) 0 (ops.take m))
    (hend : ∀ kf w, Mo W w → (∀ i zs, Nat.blt i m = true → spAt sp i = .inr zs → W.heap.size ≤ kf i ∧ At w (kf i) zs) → (∀ i j, Nat.blt i m = true → Nat.blt j m = true → spNew (spAt sp i) = true → spNew (spAt sp j) = true → i ≠ j → kf i ≠ kf j) →
      wpList P ops.toArray Q (ops.drop m) (fr n (asg (spv sp kf) 0 (ops.take m) l)) w) :
    (Code.region id ops.toArray true).wp P Q (fr n l) W := by
  refine r_draw m sp fs hm hb hd hc hl hf hns hlate hD hs (fun f w hmo hR hDs => ?_)
  have hk : ∃ kf : Nat → Nat, ∀ i zs, i < m → spAt sp i = .inr zs → f i = pt (kf i) 0 ∧ W.heap.size ≤ kf i ∧ At w (kf i) zs := by
    refine ⟨fun i => Classical.epsilon (fun k => f i = pt k 0), fun i zs hi hsp => ?_⟩
    have h1 := hR i (by rw [Nat.blt_eq]; exact hi)
    rw [hsp] at h1
    obtain ⟨k, e, h2, h3⟩ := h1
    have hex : ∃ k, f i = pt k 0 := ⟨k, e⟩
    have hc := Classical.epsilon_spec hex
    have : Classical.epsilon (fun k => f i = pt k 0) = k := pt_inj (hc.symm.trans e)
    simp only [this]
    exact ⟨e, h2, h3⟩
  obtain ⟨kf, hkf⟩ := hk
  have e : asg f 0 (ops.take m) l = asg (spv sp kf) 0 (ops.take m) l := asg_congr _ 0 l (fun j _ hj => by
    have hjm : j < m := by have := List.length_take_le m ops; omega
    unfold spv
    cases hsp : spAt sp j with
    | inl v =>
      have := hR j (by rw [Nat.blt_eq]; exact hjm)
      rw [hsp] at this
      exact this
    | inr zs => exact (hkf j zs hjm hsp).1)
  rw [e]
  refine hend kf w hmo (fun i zs hi hsp => (hkf i zs (by rw [Nat.blt_eq] at hi; exact hi) hsp).2) (fun i j hi hj hin hjn hne heq => ?_)
  have gi : ∃ zs, spAt sp i = .inr zs := by cases h : spAt sp i with | inl v => rw [h] at hin; cases hin | inr zs => exact ⟨zs, rfl⟩
  have gj : ∃ zs, spAt sp j = .inr zs := by cases h : spAt sp j with | inl v => rw [h] at hjn; cases hjn | inr zs => exact ⟨zs, rfl⟩
  obtain ⟨zi, gi⟩ := gi
  obtain ⟨zj, gj⟩ := gj
  have hi' : i < m := by rw [Nat.blt_eq] at hi; exact hi
  have hj' : j < m := by rw [Nat.blt_eq] at hj; exact hj
  have h1 := (hkf i zi hi' gi).1
  have h2 := (hkf j zj hj' gj).1
  rw [← heq] at h2
  exact hDs.2 i j hin hjn hne _ h1 h2
theorem Ds.none {sp : List Sp} {f : Nat → Value} {w : World} (h : sp.all (fun s => !spNew s) = true) : Ds sp f w := by
  have hh : ∀ j, spNew (spAt sp j) = true → False := fun j hj => by
    unfold spAt at hj
    cases e : sp[j]? with
    | none => rw [e] at hj; cases hj
    | some s =>
      rw [e] at hj
      have := List.all_eq_true.1 h s (List.mem_of_getElem? e)
      simp at this
      simp [this] at hj
  exact ⟨fun j hj => (hh j hj).elim, fun i j hi => (hh i hi).elim⟩
theorem Ds.undef {sp : List Sp} {f : Nat → Value} {w : World} (h : ∀ j, j < sp.length → spNew (spAt sp j) = true → f j = undef) : Ds sp f w := by
  have hh : ∀ j, spNew (spAt sp j) = true → ∀ k, f j ≠ pt k 0 := fun j hj k e => by
    rcases Nat.lt_or_ge j sp.length with hl | hl
    · rw [h j hl hj] at e; cases e
    · unfold spAt at hj; rw [List.getElem?_eq_none hl] at hj; cases hj
  exact ⟨fun j hj k hk => (hh j hj k hk).elim, fun i j hi _ _ k hk => (hh i hi k hk).elim⟩
theorem ct {b : Bool} {A B : Prop} (h : b = true) (a : A) : (bif b then A else B) := by subst h; exact a
theorem cf {b : Bool} {A B : Prop} (h : b = false) (a : B) : (bif b then A else B) := by subst h; exact a
theorem wnt_g {ops : Array Oper} {o : Oper} {j d : Nat} {want b r : Bool} (hg : o.guard = some (j, want)) (hd : (ops[j]?).bind (·.dst) = some d) (hn : Nat.blt d n = true) (hv : look l d = .bool b) (hr : (b == want) = r) : wnt n l ops o = r := by
  unfold wnt
  simp only [hg, hd, hn, cond_true, hv]
  subst hr
  cases b <;> cases want <;> rfl
theorem n_then {Q : Exit → Act → World → Prop} {next : Act → World → Prop} {a : Act} {w : World} (h : next a w) : Exit.then next Q .normal a w := h
theorem n_blk {Q : Exit → Act → World → Prop} {id : Nat} {a : Act} {w : World} (h : Q .normal a w) : Exit.inBlock id Q .normal a w := h
theorem x_then {Q : Exit → Act → World → Prop} {next : Act → World → Prop} {id : Nat} {a : Act} {w : World} (h : Q (.exit id) a w) : Exit.then next Q (.exit id) a w := h
theorem x_blk {Q : Exit → Act → World → Prop} {id : Nat} {a : Act} {w : World} (h : Q .normal a w) : Exit.inBlock id Q (.exit id) a w := by simp only [Exit.inBlock, if_true]; exact h
theorem x_out {Q : Exit → Act → World → Prop} {id i : Nat} {a : Act} {w : World} (hne : Nat.beq i id = false) (h : Q (.exit i) a w) : Exit.inBlock id Q (.exit i) a w := by
  simp only [Exit.inBlock]
  rw [if_neg (fun e => by subst e; simp at hne)]
  exact h
theorem r_then {Q : Exit → Act → World → Prop} {next : Act → World → Prop} {a : Act} {w : World} (h : Q .ret a w) : Exit.then next Q .ret a w := h
theorem r_blk {Q : Exit → Act → World → Prop} {id : Nat} {a : Act} {w : World} (h : Q .ret a w) : Exit.inBlock id Q .ret a w := h
variable {o : Oper} {w : World} {K : Act → World → Prop}
theorem o_mv (x : Operand) (p : Value) (ho : ∀ ρ, execOp ρ o = pure (.value (ρ x))) (hx : evl n l x = p) (hk : K (fr n (ext l o.dst p)) w) : o.wp P (fr n l) w K Q := by
  refine o_val p ?_ hk
  rw [ho, hx]; rfl
theorem o_un (F : Value → Sem Value) (x : Operand) (p v : Value) (ho : ∀ ρ, execOp ρ o = (do pure (.value (← F (ρ x))))) (hx : evl n l x = p) (h : (F p).run P w = .ok v w) (hk : K (fr n (ext l o.dst v)) w) : o.wp P (fr n l) w K Q := by
  refine o_val v ?_ hk
  rw [ho, hx]; simp [h]
theorem o_bin (F : Value → Value → Sem Value) (x y : Operand) (p q v : Value) (ho : ∀ ρ, execOp ρ o = (do pure (.value (← F (ρ x) (ρ y))))) (hx : evl n l x = p) (hy : evl n l y = q) (h : (F p q).run P w = .ok v w) (hk : K (fr n (ext l o.dst v)) w) : o.wp P (fr n l) w K Q := by
  refine o_val v ?_ hk
  rw [ho, hx, hy]; simp [h]
theorem o_build (t : TypeId) (xs : List (Nat × Operand)) (ps : List (Nat × Value)) (v : Value) (ho : o.op = .build t xs.toArray) (hx : xs.map (fun p => (p.1, evl n l p.2)) = ps) (h : (Instr.build t ps.toArray).run P w = .ok v w) (hk : K (fr n (ext l o.dst v)) w) : o.wp P (fr n l) w K Q := by
  refine o_val v ?_ hk
  subst hx
  simp only [execOp, ho, List.map_toArray]
  simp [h]
theorem o_pick (c x y : Operand) (t : Bool) (v : Value) (ho : ∀ ρ, execOp ρ o = (do pure (.value (if ← asBool (ρ c) then ρ x else ρ y)))) (hc : evl n l c = .bool t) (hv : evl n l (bif t then x else y) = v) (hk : K (fr n (ext l o.dst v)) w) : o.wp P (fr n l) w K Q := by
  refine o_val v ?_ hk
  rw [ho, hc]
  cases t <;> simp at hv <;> simp [asBool, hv]
theorem o_var (x : Operand) (v : Value) {w' : World} (F : Value → Sem Value) (p : Value) (ho : ∀ ρ, execOp ρ o = (do pure (.value (← F (ρ x))))) (hx : evl n l x = p) (h : (F p).run P w = .ok v w') (hk : K (fr n (ext l o.dst v)) w') : o.wp P (fr n l) w K Q := by
  refine o_val v ?_ hk
  rw [ho, hx]; simp [h]
theorem lp1 {i : Nat} {a b : Value} (h : a = b) : [(i, a)] = [(i, b)] := by rw [h]
theorem lp2 {i j : Nat} {a b c d : Value} (h : a = b) (k : c = d) : [(i, a), (j, c)] = [(i, b), (j, d)] := by rw [h, k]
theorem lp3 {i j q : Nat} {a b c d e f : Value} (h : a = b) (k : c = d) (m : e = f) : [(i, a), (j, c), (q, e)] = [(i, b), (j, d), (q, f)] := by rw [h, k, m]
end
end Go.Proofs.Ytoiiekmkcpcbgaa
/-
  The laws of the steps over propositions that nothing unfolds by itself.
-/
namespace Go.Proofs.Ytoiiekmkcpcbgaa
open Go.RowKit
/-- The least number with a property. -/
theorem exists_least {p : Nat → Prop} (h : ∃ m, p m) : ∃ m, p m ∧ ∀ k, p k → m ≤ k := by
  obtain ⟨m, hm⟩ := h
  induction m using Nat.strongRecOn with
  | ind m ih =>
    by_cases hh : ∃ k, k < m ∧ p k
    · obtain ⟨k, hk, hp⟩ := hh; exact ih k hk hp
    · exact ⟨m, hm, fun k hp => Nat.le_of_not_lt (fun hk => hh ⟨k, hk, hp⟩)⟩
def least (p : Nat → Prop) (m : Nat) : Prop := p m ∧ ∀ k, p k → m ≤ k
theorem least_ok {p : Nat → Prop} (h : ∃ m, p m) : least p (Classical.epsilon (least p)) := Classical.epsilon_spec (exists_least h)
structure WC (P : Program) (c : Code) (Q : Exit → Act → World → Prop) (n : Nat) (l : List (Nat × Value)) (w : World) : Prop where
  out : c.wp P Q (fr n l) w
structure WL (P : Program) (ops : Array Oper) (Q : Exit → Act → World → Prop) (r : List Oper) (n : Nat) (l : List (Nat × Value)) (w : World) : Prop where
  out : wpList P ops Q r (fr n l) w
structure WX (Q : Exit → Act → World → Prop) (e : Exit) (n : Nat) (l : List (Nat × Value)) (w : World) : Prop where
  out : Q e (fr n l) w
structure WO (P : Program) (o : Oper) (n : Nat) (l : List (Nat × Value)) (w : World) (K : Act → World → Prop) (Q : Exit → Act → World → Prop) : Prop where
  out : o.wp P (fr n l) w K Q
section
variable {P : Program} {o : Oper} {n : Nat} {l : List (Nat × Value)} {w : World} {ops : Array Oper} {rest : List Oper} {Q : Exit → Act → World → Prop} {K : Act → World → Prop}
theorem w_enter {f : FuncId} {fn : Func} {c : Code} {args : Array Value} {R : Ending → World → Prop} (n : Nat) (hf : P.funcs[f]? = some fn) (hn : fn.ntmps = n) (hb : fn.body = some c)
    (ha : Nat.ble args.size n = true) (h : WC P c (bodyPost P fn R) n (argl 0 args.toList) w) : Calls P f args w R := f_enter n hf hn hb ha h.out
theorem w_seq {x y : Code} (h : WC P x (Exit.then (y.wp P Q) Q) n l w) : WC P (Code.seq x y) Q n l w := ⟨wp_seq h.out⟩
theorem w_block {id : Nat} {c : Code} (h : WC P c (Exit.inBlock id Q) n l w) : WC P (Code.block id c) Q n l w := ⟨wp_block h.out⟩
theorem w_skip (h : WX Q .normal n l w) : WC P .skip Q n l w := ⟨wp_skip h.out⟩
theorem w_label {i : Nat} (h : WX Q .normal n l w) : WC P (.label i) Q n l w := ⟨wp_label h.out⟩
theorem w_ret (h : WX Q .ret n l w) : WC P .ret Q n l w := ⟨wp_ret h.out⟩
theorem w_exit {id : Nat} (h : WX Q (.exit id) n l w) : WC P (.exit id) Q n l w := ⟨wp_exit h.out⟩
theorem w_condT {c : Operand} {x y : Code} (hc : evl n l c = .bool true) (h : WC P x Q n l w) : WC P (Code.cond c x y) Q n l w := ⟨c_cond true hc h.out⟩
theorem w_condF {c : Operand} {x y : Code} (hc : evl n l c = .bool false) (h : WC P y Q n l w) : WC P (Code.cond c x y) Q n l w := ⟨c_cond false hc h.out⟩
theorem w_reg {id : Nat} {ol : List Oper} (h : WL P ol.toArray Q ol n l w) : WC P (Code.region id ol.toArray false) Q n l w := ⟨wp_region_lit h.out⟩
theorem w_nil (h : WX Q .normal n l w) : WL P ops Q [] n l w := ⟨wpList_nil h.out⟩
theorem xn_then {y : Code} {Q' : Exit → Act → World → Prop} (h : WC P y Q n l w) : WX (Exit.then (y.wp P Q) Q') .normal n l w := ⟨n_then h.out⟩
theorem xn_blk {id : Nat} (h : WX Q .normal n l w) : WX (Exit.inBlock id Q) .normal n l w := ⟨n_blk h.out⟩
theorem xx_then {next : Act → World → Prop} {id : Nat} (h : WX Q (.exit id) n l w) : WX (Exit.then next Q) (.exit id) n l w := ⟨x_then h.out⟩
theorem xx_blk {id : Nat} (h : WX Q .normal n l w) : WX (Exit.inBlock id Q) (.exit id) n l w := ⟨x_blk h.out⟩
theorem xx_out {id i : Nat} (hne : Nat.beq i id = false) (h : WX Q (.exit i) n l w) : WX (Exit.inBlock id Q) (.exit i) n l w := ⟨x_out hne h.out⟩
theorem xr_then {next : Act → World → Prop} (h : WX Q .ret n l w) : WX (Exit.then next Q) .ret n l w := ⟨r_then h.out⟩
theorem xr_blk {id : Nat} (h : WX Q .ret n l w) : WX (Exit.inBlock id Q) .ret n l w := ⟨r_blk h.out⟩
theorem w_ret1 {fn : Func} {R : Ending → World → Prop} (x : ResultVar) (v : Value) (hf : fn.results = #[x]) (h : resv n l P w v x) (hR : R (.returned v) w) : WX (bodyPost P fn R) .ret n l w := ⟨c_ret1 x v hf h hR⟩
theorem w_ret2 {fn : Func} {R : Ending → World → Prop} (x y : ResultVar) (v u : Value) (hf : fn.results = #[x, y]) (h : resv n l P w v x) (g : resv n l P w u y) (hR : R (.returned (.tuple #[v, u])) w) : WX (bodyPost P fn R) .ret n l w := ⟨c_ret2 x y v u hf h g hR⟩
/-- A loop: what holds ahead of each round, of the frame's list and the world, with a number that falls. -/
theorem w_loop {c : Code} (I : Nat → List (Nat × Value) → World → Prop) (m : Nat) (h0 : I m l w)
    (round : ∀ m l w, I m l w → WC P c (Exit.then (fun a w' => ∃ m' l', m' < m ∧ a = fr n l' ∧ I m' l' w') Q) n l w) : WC P (Code.loop c) Q n l w := by
  refine ⟨?_⟩
  have key : ∀ m : Nat, ∀ l w, I m l w → (Code.loop c).wp P Q (fr n l) w := by
    intro m0 l0 w0 hI0
    refine wp_loop (fun a w => ∃ m l, a = fr n l ∧ I m l w) (fun a w => Classical.epsilon (least (fun m => ∃ l, a = fr n l ∧ I m l w))) ⟨m0, l0, rfl, hI0⟩ ?_
    rintro a w ⟨m, l, rfl, hI⟩
    obtain ⟨l2, e2, hI2⟩ := (least_ok (p := fun m => ∃ l', fr n l = fr n l' ∧ I m l' w) ⟨m, l, rfl, hI⟩).1
    rw [e2]
    refine Code.wp_mono ?_ (round _ l2 w hI2).out
    intro e a' w' hq
    cases e with
    | normal =>
      obtain ⟨m', l', hlt, rfl, hI'⟩ := hq
      refine ⟨⟨m', l', rfl, hI'⟩, Nat.lt_of_le_of_lt ((least_ok (p := fun m => ∃ l'', fr n l' = fr n l'' ∧ I m l'' w') ⟨m', l', rfl, hI'⟩).2 m' ⟨l', rfl, hI'⟩) ?_⟩
      rw [← e2]; exact hlt
    | _ => exact hq
  exact key m l w h0
theorem xn_loop {I : Nat → List (Nat × Value) → World → Prop} {m : Nat} (m' : Nat) (hlt : m' < m) (h : I m' l w) : WX (Exit.then (fun a w' => ∃ m' l', m' < m ∧ a = fr n l' ∧ I m' l' w') Q) .normal n l w := ⟨⟨m', l, hlt, rfl, h⟩⟩
theorem wl_val (v : Value) (h : (execOp (evl n l) o).run P w = .ok (.value v) w) (hg : wnt n l ops o = true) (hk : WL P ops Q rest n (ext l o.dst v) w) : WL P ops Q (o :: rest) n l w :=
  ⟨l_step hg (o_val v h hk.out)⟩
theorem wo_val (v : Value) (h : (execOp (evl n l) o).run P w = .ok (.value v) w) (hk : K (fr n (ext l o.dst v)) w) : WO P o n l w K Q := ⟨o_val v h hk⟩
theorem wl_mv (x : Operand) (p : Value) (ho : ∀ ρ, execOp ρ o = pure (.value (ρ x))) (hx : evl n l x = p) (hg : wnt n l ops o = true) (hk : WL P ops Q rest n (ext l o.dst p) w) : WL P ops Q (o :: rest) n l w :=
  ⟨l_step hg (o_mv x p ho hx hk.out)⟩
theorem wo_mv (x : Operand) (p : Value) (ho : ∀ ρ, execOp ρ o = pure (.value (ρ x))) (hx : evl n l x = p) (hk : K (fr n (ext l o.dst p)) w) : WO P o n l w K Q := ⟨o_mv x p ho hx hk⟩
theorem wl_un (F : Value → Sem Value) (x : Operand) (p v : Value) (ho : ∀ ρ, execOp ρ o = (do pure (.value (← F (ρ x))))) (hx : evl n l x = p) (h : (F p).run P w = .ok v w) (hg : wnt n l ops o = true) (hk : WL P ops Q rest n (ext l o.dst v) w) : WL P ops Q (o :: rest) n l w :=
  ⟨l_step hg (o_un F x p v ho hx h hk.out)⟩
theorem wo_un (F : Value → Sem Value) (x : Operand) (p v : Value) (ho : ∀ ρ, execOp ρ o = (do pure (.value (← F (ρ x))))) (hx : evl n l x = p) (h : (F p).run P w = .ok v w) (hk : K (fr n (ext l o.dst v)) w) : WO P o n l w K Q := ⟨o_un F x p v ho hx h hk⟩
theorem wl_bin (F : Value → Value → Sem Value) (x y : Operand) (p q v : Value) (ho : ∀ ρ, execOp ρ o = (do pure (.value (← F (ρ x) (ρ y))))) (hx : evl n l x = p) (hy : evl n l y = q) (h : (F p q).run P w = .ok v w) (hg : wnt n l ops o = true) (hk : WL P ops Q rest n (ext l o.dst v) w) : WL P ops Q (o :: rest) n l w :=
  ⟨l_step hg (o_bin F x y p q v ho hx hy h hk.out)⟩
theorem wo_bin (F : Value → Value → Sem Value) (x y : Operand) (p q v : Value) (ho : ∀ ρ, execOp ρ o = (do pure (.value (← F (ρ x) (ρ y))))) (hx : evl n l x = p) (hy : evl n l y = q) (h : (F p q).run P w = .ok v w) (hk : K (fr n (ext l o.dst v)) w) : WO P o n l w K Q := ⟨o_bin F x y p q v ho hx hy h hk⟩
theorem wl_pick (c x y : Operand) (t : Bool) (v : Value) (ho : ∀ ρ, execOp ρ o = (do pure (.value (if ← asBool (ρ c) then ρ x else ρ y)))) (hc : evl n l c = .bool t) (hv : evl n l (bif t then x else y) = v) (hg : wnt n l ops o = true) (hk : WL P ops Q rest n (ext l o.dst v) w) : WL P ops Q (o :: rest) n l w :=
  ⟨l_step hg (o_pick c x y t v ho hc hv hk.out)⟩
theorem wo_pick (c x y : Operand) (t : Bool) (v : Value) (ho : ∀ ρ, execOp ρ o = (do pure (.value (if ← asBool (ρ c) then ρ x else ρ y)))) (hc : evl n l c = .bool t) (hv : evl n l (bif t then x else y) = v) (hk : K (fr n (ext l o.dst v)) w) : WO P o n l w K Q := ⟨o_pick c x y t v ho hc hv hk⟩
theorem wl_build (t : TypeId) (xs : List (Nat × Operand)) (ps : List (Nat × Value)) (v : Value) (ho : o.op = .build t xs.toArray) (hx : xs.map (fun p => (p.1, evl n l p.2)) = ps) (h : (Instr.build t ps.toArray).run P w = .ok v w) (hg : wnt n l ops o = true) (hk : WL P ops Q rest n (ext l o.dst v) w) : WL P ops Q (o :: rest) n l w :=
  ⟨l_step hg (o_build t xs ps v ho hx h hk.out)⟩
theorem wo_build (t : TypeId) (xs : List (Nat × Operand)) (ps : List (Nat × Value)) (v : Value) (ho : o.op = .build t xs.toArray) (hx : xs.map (fun p => (p.1, evl n l p.2)) = ps) (h : (Instr.build t ps.toArray).run P w = .ok v w) (hk : K (fr n (ext l o.dst v)) w) : WO P o n l w K Q := ⟨o_build t xs ps v ho hx h hk⟩
theorem wl_load (ty : TypeId) (x : Operand) (p v : Value) (ho : o.op = .load ty x) (hx : evl n l x = p) (h : (Instr.loadAt ty p).run P w = .ok v w) (hg : wnt n l ops o = true) (hk : WL P ops Q rest n (ext l o.dst v) w) : WL P ops Q (o :: rest) n l w :=
  ⟨l_step hg (o_load ty x p v ho hx h hk.out)⟩
theorem wo_load (ty : TypeId) (x : Operand) (p v : Value) (ho : o.op = .load ty x) (hx : evl n l x = p) (h : (Instr.loadAt ty p).run P w = .ok v w) (hk : K (fr n (ext l o.dst v)) w) : WO P o n l w K Q := ⟨o_load ty x p v ho hx h hk⟩
theorem wl_alloc (ty : TypeId) (zs : Array Value) (ho : o.op = .alloc ty) (h : ∀ w, (Instr.alloc ty true (.tuple #[])).run P w = .ok (pt w.heap.size 0) (w.alloc (.cells zs ty))) (hg : wnt n l ops o = true) (hk : ∀ k w', w.heap.size = k → w'.heap.size = k + 1 → Mo w w' → At w' k zs.toList → WL P ops Q rest n (ext l o.dst (pt k 0)) w') : WL P ops Q (o :: rest) n l w :=
  ⟨l_step hg (o_alloc ty zs ho h (fun k w' a b c d => (hk k w' a b c d).out))⟩
theorem wo_alloc (ty : TypeId) (zs : Array Value) (ho : o.op = .alloc ty) (h : ∀ w, (Instr.alloc ty true (.tuple #[])).run P w = .ok (pt w.heap.size 0) (w.alloc (.cells zs ty))) (hk : ∀ k w', w.heap.size = k → w'.heap.size = k + 1 → Mo w w' → At w' k zs.toList → K (fr n (ext l o.dst (pt k 0))) w') : WO P o n l w K Q := ⟨o_alloc ty zs ho h (fun k w' a b c d => (hk k w' a b c d))⟩
theorem wl_box (ty : TypeId) (x : Operand) (v : Value) (cs : Array Value) (ho : o.op = .box ty x) (hx : evl n l x = v) (h : ∀ w, (Instr.box ty v).run P w = .ok (pt w.heap.size 0) (w.alloc (.cells cs ty))) (hg : wnt n l ops o = true) (hk : ∀ k w', w.heap.size = k → w'.heap.size = k + 1 → Mo w w' → At w' k cs.toList → WL P ops Q rest n (ext l o.dst (pt k 0)) w') : WL P ops Q (o :: rest) n l w :=
  ⟨l_step hg (o_box ty x v cs ho hx h (fun k w' a b c d => (hk k w' a b c d).out))⟩
theorem wo_box (ty : TypeId) (x : Operand) (v : Value) (cs : Array Value) (ho : o.op = .box ty x) (hx : evl n l x = v) (h : ∀ w, (Instr.box ty v).run P w = .ok (pt w.heap.size 0) (w.alloc (.cells cs ty))) (hk : ∀ k w', w.heap.size = k → w'.heap.size = k + 1 → Mo w w' → At w' k cs.toList → K (fr n (ext l o.dst (pt k 0))) w') : WO P o n l w K Q := ⟨o_box ty x v cs ho hx h (fun k w' a b c d => (hk k w' a b c d))⟩
theorem wl_call (g : FuncId) (xs : List Operand) (ats : Array TypeId) (args : List Value) (v : Value) (ho : o.op = .call { callee := .value (.func g), args := xs.toArray, argTypes := ats }) (hx : xs.map (evl n l) = args) (h : ∀ args w, (callFunc g args).run P w = .ok (.enter g args) w) (hc : Calls P g args.toArray w fun e w' => e = .returned v ∧ Mo w w') (hg : wnt n l ops o = true) (hk : ∀ w', Mo w w' → WL P ops Q rest n (ext l o.dst v) w') : WL P ops Q (o :: rest) n l w :=
  ⟨l_step hg (o_call g xs ats args v ho hx h hc (fun w' m => (hk w' m).out))⟩
theorem wo_call (g : FuncId) (xs : List Operand) (ats : Array TypeId) (args : List Value) (v : Value) (ho : o.op = .call { callee := .value (.func g), args := xs.toArray, argTypes := ats }) (hx : xs.map (evl n l) = args) (h : ∀ args w, (callFunc g args).run P w = .ok (.enter g args) w) (hc : Calls P g args.toArray w fun e w' => e = .returned v ∧ Mo w w') (hk : ∀ w', Mo w w' → K (fr n (ext l o.dst v)) w') : WO P o n l w K Q := ⟨o_call g xs ats args v ho hx h hc (fun w' m => (hk w' m))⟩
theorem wl_skip (hg : wnt n l ops o = false) (h : WL P ops Q rest n (ext l o.dst undef) w) : WL P ops Q (o :: rest) n l w := ⟨l_skip hg h.out⟩
theorem wl_st (ty : TypeId) (x y : Operand) (k off : Nat) (us : Array Value) (vs vs' : List Value) (hA : At w k vs) (ho : o.op = .store ty x y) (hd : o.dst = none) (hx : evl n l x = pt k off) (hy : evl n l y = .agg us)
    (hl : Nat.ble (off + us.size) vs.length = true) (hi : (P.info? ty).map (·.size) = some us.size) (h1 : us.toList.all (·.oneCell') = true) (hvs : vs' = vs.take off ++ us.toList ++ vs.drop (off + us.toList.length)) (hg : wnt n l ops o = true)
    (hk : ∀ w', St k w w' → At w' k vs' → WL P ops Q rest n l w') : WL P ops Q (o :: rest) n l w :=
  ⟨l_step hg (o_st ty x y k off us vs vs' hA ho hd hx hy hl hi h1 hvs (fun w' a b => (hk w' a b).out))⟩
theorem wl_st1 (ty : TypeId) (x y : Operand) (k off : Nat) (v : Value) (vs vs' : List Value) (hA : At w k vs) (ho : o.op = .store ty x y) (hd : o.dst = none) (hx : evl n l x = pt k off) (hy : evl n l y = v)
    (hl : Nat.blt off vs.length = true) (hi : (P.info? ty).map (·.size) = some 1) (hv : v.cells = #[v]) (h1 : v.oneCell' = true) (hvs : vs' = vs.take off ++ [v] ++ vs.drop (off + 1)) (hg : wnt n l ops o = true)
    (hk : ∀ w', St k w w' → At w' k vs' → WL P ops Q rest n l w') : WL P ops Q (o :: rest) n l w :=
  ⟨l_step hg (o_st1 ty x y k off v vs vs' hA ho hd hx hy hl hi hv h1 hvs (fun w' a b => (hk w' a b).out))⟩
/-- Is it run, or passed by? -/
structure Go1 (P : Program) (ops : List Oper) (Q : Exit → Act → World → Prop) (n : Nat) (l : List (Nat × Value)) (w : World) (K : Act → World → Prop) (o : Oper) : Prop where
  out : (wnt n l ops.toArray o = true ∧ WO P o n l w K Q) ∨ (wnt n l ops.toArray o = false ∧ K (fr n (ext l o.dst undef)) w)
theorem go_run {ol : List Oper} (hg : wnt n l ol.toArray o = true) (h : WO P o n l w K Q) : Go1 P ol Q n l w K o := ⟨Or.inl ⟨hg, h⟩⟩
theorem go_pass {ol : List Oper} (hg : wnt n l ol.toArray o = false) (h : K (fr n (ext l o.dst undef)) w) : Go1 P ol Q n l w K o := ⟨Or.inr ⟨hg, h⟩⟩
structure OgW (P : Program) (ops : List Oper) (Q : Exit → Act → World → Prop) (n : Nat) (l : List (Nat × Value)) (m : Nat) (W : World) (sp : List Sp) (i : Nat) (o : Oper) : Prop where
  out : ∀ f w, Mo W w → (∀ j, depb o j = true → spDen W.heap.size (spAt sp j) (f j) w) → ∀ K : Act → World → Prop,
    (match spAt sp i with
      | .inl v => ∀ w', Mo w w' → K (fr n (ext (asg f 0 (ops.take m) l) o.dst v)) w'
      | .inr zs => ∀ k w', w.heap.size = k → w'.heap.size = k + 1 → Mo w w' → At w' k zs → K (fr n (ext (asg f 0 (ops.take m) l) o.dst (pt k 0))) w') →
    Go1 P ops Q n (asg f 0 (ops.take m) l) w K o
theorem og_eq {ol : List Oper} {m : Nat} {W : World} {sp : List Sp} {i : Nat} (v : Value) (hs : spAt sp i = .inl v)
    (h : ∀ f w, Mo W w → (∀ j, depb o j = true → spDen W.heap.size (spAt sp j) (f j) w) → ∀ K : Act → World → Prop, (∀ w', Mo w w' → K (fr n (ext (asg f 0 (ol.take m) l) o.dst v)) w') → Go1 P ol Q n (asg f 0 (ol.take m) l) w K o) : OgW P ol Q n l m W sp i o :=
  ⟨fun f w hm hd K hK => h f w hm hd K (by rw [hs] at hK; exact hK)⟩
theorem og_new {ol : List Oper} {m : Nat} {W : World} {sp : List Sp} {i : Nat} (zs : List Value) (hs : spAt sp i = .inr zs)
    (h : ∀ f w, Mo W w → (∀ j, depb o j = true → spDen W.heap.size (spAt sp j) (f j) w) → ∀ K : Act → World → Prop, (∀ k w', w.heap.size = k → w'.heap.size = k + 1 → Mo w w' → At w' k zs → K (fr n (ext (asg f 0 (ol.take m) l) o.dst (pt k 0))) w') → Go1 P ol Q n (asg f 0 (ol.take m) l) w K o) : OgW P ol Q n l m W sp i o :=
  ⟨fun f w hm hd K hK => h f w hm hd K (by rw [hs] at hK; exact hK)⟩
/-- Something of each operation, with its number. -/
theorem ea_nil {F : Nat → Oper → Prop} {i : Nat} : Each F i [] := trivial
theorem ea_cons {F : Nat → Oper → Prop} {i : Nat} {o : Oper} {r : List Oper} (h : F i o) (k : Each F (i + 1) r) : Each F i (o :: r) := ⟨h, k⟩
/-- What lies in the slots, by the list. -/
def slo (n : Nat) (l : List (Nat × Value)) (ops : List Oper) (i : Nat) : Value :=
  match (ops[i]?).bind (·.dst) with
  | some d => bif Nat.blt d n then look l d else undef
  | none => undef
theorem slo_eq (ops : List Oper) : slots (fr n l) ops.toArray = slo n l ops := by
  funext i
  unfold slots slo
  simp only [List.getElem?_toArray]
  cases (ops[i]?).bind (·.dst) with
  | none => rfl
  | some d => exact fr_getD n l d
def isPt : Value → Bool
  | .pointer (some _) => true
  | _ => false
theorem Ds.start {sp : List Sp} {f : Nat → Value} (h : (List.range sp.length).all (fun j => !spNew (spAt sp j) || !isPt (f j)) = true) : Ds sp f w := by
  have hh : ∀ j, spNew (spAt sp j) = true → ∀ k, f j ≠ pt k 0 := fun j hj k e => by
    rcases Nat.lt_or_ge j sp.length with hl | hl
    · have := List.all_eq_true.1 h j (List.mem_range.2 hl)
      simp [hj, e, isPt] at this
    · unfold spAt at hj; rw [List.getElem?_eq_none hl] at hj; cases hj
  exact ⟨fun j hj k hk => (hh j hj k hk).elim, fun i j hi _ _ k hk => (hh i hi k hk).elim⟩
theorem la_mv (x : Operand) (p : Value) (ho : ∀ ρ, execOp ρ o = pure (.value (ρ x))) (hx : evl n l x = p) : ∀ w, (execOp (evl n l) o).run P w = .ok (.value p) w := fun w => by rw [ho, hx]; rfl
theorem la_un (F : Value → Sem Value) (x : Operand) (p v : Value) (ho : ∀ ρ, execOp ρ o = (do pure (.value (← F (ρ x))))) (hx : evl n l x = p) (h : ∀ w, (F p).run P w = .ok v w) : ∀ w, (execOp (evl n l) o).run P w = .ok (.value v) w := fun w => by
  rw [ho, hx]; simp [h]
theorem late_nil {ol : List Oper} {m : Nat} {sp : List Sp} : ∀ i, i ∈ ([] : List Nat) → LateO P ol Q n l m sp i := fun i h => absurd h (by simp)
theorem late_cons {ol : List Oper} {m : Nat} {sp : List Sp} {j : Nat} {r : List Nat} (h : LateO P ol Q n l m sp j) (k : ∀ i, i ∈ r → LateO P ol Q n l m sp i) : ∀ i, i ∈ j :: r → LateO P ol Q n l m sp i := fun i hi => by
  rcases List.mem_cons.1 hi with rfl | hi
  · exact h
  · exact k i hi
theorem w_any {id : Nat} {ol : List Oper} (m : Nat) (sp : List Sp) (fs : List Nat) (hm : P.follows .mixedOrders = true)
    (hb : edgesBack .any ol.toArray = true) (hd : dstsApart (ol.take m) = true) (hc : chainB ol m fs = true) (hl : Nat.ble m ol.length = true) (hf : floatB ol m fs = true) (hns : Region.noSelect ol.toArray = true)
    (hlate : ∀ i, i ∈ fs → LateO P ol Q n l m sp i)
    (hD : Ds sp (slo n l (ol.take m)) w)
    (hs : Each (OgW P ol Q n l m w sp) 0 (ol.take m))
    (hend : ∀ kf w', Mo w w' → (∀ i zs, Nat.blt i m = true → spAt sp i = .inr zs → w.heap.size ≤ kf i ∧ At w' (kf i) zs) → (∀ i j, Nat.blt i m = true → Nat.blt j m = true → spNew (spAt sp i) = true → spNew (spAt sp j) = true → i ≠ j → kf i ≠ kf j) →
      WL P ol.toArray Q (ol.drop m) n (asg (spv sp kf) 0 (ol.take m) l) w') : WC P (Code.region id ol.toArray true) Q n l w := by
  refine ⟨r_any m sp fs hm hb hd hc hl hf hns hlate (by rw [slo_eq]; exact hD) (Each.mono ?_ _ 0 hs) (fun kf w' a b c => (hend kf w' a b c).out)⟩
  intro i o h f w' hmo hdep K hK
  rcases (h.out f w' hmo hdep K hK).out with ⟨hg, h⟩ | ⟨hg, h⟩
  · exact ct hg h.out
  · exact cf hg h
end
end Go.Proofs.Ytoiiekmkcpcbgaa
/-
  Numbers by their digits to the base 2^32: plain arithmetic, no program in sight.
-/
namespace Go.Proofs.Ytoiiekmkcpcbgaa

/-- The digit j of a number to the base 2^32. -/
def dg (V : Int) (j : Nat) : Int := V / 2 ^ (32 * j) % 4294967296
theorem dg_bd (V : Int) (j : Nat) : 0 ≤ dg V j ∧ dg V j < 4294967296 := by unfold dg; omega
theorem pp (n : Nat) : (0 : Int) < 2 ^ n := Int.pow_pos (by decide)
theorem p32 (j : Nat) : (2 : Int) ^ (32 * (j + 1)) = 2 ^ (32 * j) * 4294967296 := by
  rw [Nat.mul_add, Int.pow_add]; rfl
theorem dg_set {W n : Int} {j : Nat} (hn0 : 0 ≤ n) (hn : n < 4294967296) (m : Nat) :
    dg (W + (n - dg W j) * 2 ^ (32 * j)) m = if m = j then n else dg W m := by
  have hP := pp (32 * j)
  have e1 : (W + (n - dg W j) * 2 ^ (32 * j)) / 2 ^ (32 * j) = W / 2 ^ (32 * j) + (n - dg W j) := Int.add_mul_ediv_right _ _ (by omega)
  rcases Nat.lt_trichotomy m j with h | h | h
  · rw [if_neg (by omega)]
    obtain ⟨t, rfl⟩ : ∃ t, j = m + 1 + t := ⟨j - (m + 1), by omega⟩
    have e2 : (2 : Int) ^ (32 * (m + 1 + t)) = 4294967296 * 2 ^ (32 * t) * 2 ^ (32 * m) := by
      rw [Nat.mul_add, Int.pow_add, p32, Int.mul_comm (2 ^ (32 * m)), Int.mul_assoc, Int.mul_assoc, Int.mul_comm (2 ^ (32 * m))]
    generalize hc : n - dg W (m + 1 + t) = c
    have hQ := pp (32 * m)
    unfold dg
    rw [e2, ← Int.mul_assoc, Int.add_mul_ediv_right _ _ (by omega), Int.mul_comm 4294967296, ← Int.mul_assoc, Int.add_mul_emod_self_right]
  · subst h
    rw [if_pos rfl]
    unfold dg at e1 ⊢
    rw [e1]
    omega
  · rw [if_neg (by omega)]
    obtain ⟨t, rfl⟩ : ∃ t, m = j + 1 + t := ⟨m - (j + 1), by omega⟩
    have e2 : (2 : Int) ^ (32 * (j + 1 + t)) = 2 ^ (32 * j) * 4294967296 * 2 ^ (32 * t) := by
      rw [Nat.mul_add, Int.pow_add, p32]
    have e3 : (W / 2 ^ (32 * j) + (n - dg W j)) / 4294967296 = W / 2 ^ (32 * j) / 4294967296 := by unfold dg; omega
    have hd : ∀ x : Int, x / 2 ^ (32 * (j + 1 + t)) = x / 2 ^ (32 * j) / 4294967296 / 2 ^ (32 * t) := by
      intro x
      rw [e2, ← Int.ediv_ediv_of_nonneg (by omega), ← Int.ediv_ediv_of_nonneg (by omega)]
    rw [dg, hd, e1, e3, ← hd, ← dg]
theorem dg_high {W : Int} {j M : Nat} (h0 : 0 ≤ W) (h : W < 2 ^ (32 * M)) (hj : M ≤ j) : dg W j = 0 := by
  obtain ⟨t, rfl⟩ : ∃ t, j = M + t := ⟨j - M, by omega⟩
  have e : W / 2 ^ (32 * (M + t)) = 0 := by
    apply Int.ediv_eq_zero_of_lt h0
    rw [Nat.mul_add, Int.pow_add]
    have h1 := pp (32 * t)
    have h2 : 2 ^ (32 * M) * 1 ≤ (2 : Int) ^ (32 * M) * 2 ^ (32 * t) := Int.mul_le_mul_of_nonneg_left (by omega) (by omega)
    omega
  unfold dg
  rw [e]
  rfl

/-- One round of the inner loop. -/
theorem inner {W c V x B : Int} {i k : Nat} (h : W + c * 2 ^ (32 * (i + k)) = V + x * 2 ^ (32 * i) * (B % 2 ^ (32 * k))) :
    (W + ((dg W (i + k) + x * dg B k + c) % 4294967296 - dg W (i + k)) * 2 ^ (32 * (i + k))) + (dg W (i + k) + x * dg B k + c) / 4294967296 * 2 ^ (32 * (i + (k + 1))) = V + x * 2 ^ (32 * i) * (B % 2 ^ (32 * (k + 1))) := by
  have e1 : (2 : Int) ^ (32 * (i + (k + 1))) = 2 ^ (32 * (i + k)) * 4294967296 := p32 (i + k)
  have e2 : B % 2 ^ (32 * (k + 1)) = B % 2 ^ (32 * k) + 2 ^ (32 * k) * dg B k := by
    have hP := pp (32 * k)
    rw [p32, dg, Int.emod_def B (2 ^ (32 * k) * 4294967296), Int.emod_def B (2 ^ (32 * k)), Int.emod_def _ 4294967296, ← Int.ediv_ediv_of_nonneg (by omega)]
    generalize (2 : Int) ^ (32 * k) = P
    generalize B / P = u
    rw [Int.mul_sub, Int.mul_assoc]
    omega
  have e3 : (2 : Int) ^ (32 * (i + k)) = 2 ^ (32 * i) * 2 ^ (32 * k) := by rw [Nat.mul_add, Int.pow_add]
  generalize hs : dg W (i + k) + x * dg B k + c = s at *
  have hs2 : s = s % 4294967296 + 4294967296 * (s / 4294967296) := by omega
  generalize hq : s / 4294967296 = q at *
  generalize hr : s % 4294967296 = r at *
  rw [e1, e2]
  rw [e3] at h ⊢
  generalize (2 : Int) ^ (32 * i) = P at *
  generalize (2 : Int) ^ (32 * k) = Q at *
  have hr2 : r = dg W (i + k) + x * dg B k + c - 4294967296 * q := by omega
  rw [hr2]
  generalize dg W (i + k) = d at *
  generalize dg B k = b at *
  generalize B % Q = m at *
  grind

theorem dg_set_bd {W n : Int} {j M : Nat} (h0 : 0 ≤ W) (h : W < 2 ^ (32 * M)) (hj : j < M) (hn0 : 0 ≤ n) (hn : n < 4294967296) :
    0 ≤ W + (n - dg W j) * 2 ^ (32 * j) ∧ W + (n - dg W j) * 2 ^ (32 * j) < 2 ^ (32 * M) := by
  obtain ⟨t, rfl⟩ : ∃ t, M = j + 1 + t := ⟨M - (j + 1), by omega⟩
  have hP := pp (32 * j)
  have hR := pp (32 * t)
  rw [Nat.mul_add, Int.pow_add, p32] at h ⊢
  have e1 : W = 2 ^ (32 * j) * (4294967296 * (W / 2 ^ (32 * j) / 4294967296) + dg W j) + W % 2 ^ (32 * j) := by
    rw [show 4294967296 * (W / 2 ^ (32 * j) / 4294967296) + dg W j = W / 2 ^ (32 * j) from by unfold dg; omega]
    exact (Int.mul_ediv_add_emod W (2 ^ (32 * j))).symm
  have e2 := Int.emod_nonneg W (show (2 : Int) ^ (32 * j) ≠ 0 by omega)
  have e3 := Int.emod_lt_of_pos W hP
  have e4 : 0 ≤ W / 2 ^ (32 * j) / 4294967296 := by
    have := Int.ediv_nonneg h0 (show (0 : Int) ≤ 2 ^ (32 * j) by omega)
    omega
  have e5 : W / 2 ^ (32 * j) / 4294967296 < 2 ^ (32 * t) := by
    rw [Int.ediv_ediv_of_nonneg (by omega)]
    apply Int.ediv_lt_of_lt_mul (by omega)
    rw [Int.mul_comm]
    exact h
  have e6 := dg_bd W j
  generalize dg W j = d at *
  generalize W / 2 ^ (32 * j) / 4294967296 = H at *
  generalize W % 2 ^ (32 * j) = L at *
  generalize (2 : Int) ^ (32 * j) = P at *
  generalize (2 : Int) ^ (32 * t) = R at *
  have e7 : W + (n - d) * P = P * (4294967296 * H + n) + L := by grind
  rw [e7]
  constructor
  · have := Int.mul_nonneg (show 0 ≤ P by omega) (show 0 ≤ 4294967296 * H + n by omega)
    omega
  · have a1 : P * (4294967296 * H + n) ≤ P * (4294967296 * R - 1) := Int.mul_le_mul_of_nonneg_left (by omega) (by omega)
    have a2 : P * (4294967296 * R - 1) = P * 4294967296 * R - P := by grind
    omega
theorem carry_bd {d x b c : Int} (hd : 0 ≤ d ∧ d < 4294967296) (hx : 0 ≤ x ∧ x < 4294967296) (hb : 0 ≤ b ∧ b < 4294967296) (hc : 0 ≤ c ∧ c < 4294967296) :
    0 ≤ x * b ∧ x * b ≤ 18446744065119617025 ∧ 0 ≤ d + x * b + c ∧ d + x * b + c < 18446744073709551616 := by
  have h1 := Int.mul_nonneg hx.1 hb.1
  have h2 : x * b ≤ 4294967295 * 4294967295 := Int.mul_le_mul (by omega) (by omega) hb.1 (by decide)
  omega

/-- What stands behind the first rounds. -/
def vi (A B : Int) (i : Nat) : Int := A % 2 ^ (32 * i) * B
theorem vi_zero (A B : Int) : vi A B 0 = 0 := by
  have : A % 1 = 0 := by omega
  simp [vi, this]
theorem mod_succ (A : Int) (i : Nat) : A % 2 ^ (32 * (i + 1)) = A % 2 ^ (32 * i) + 2 ^ (32 * i) * dg A i := by
  have hP := pp (32 * i)
  rw [p32, dg, Int.emod_def A (2 ^ (32 * i) * 4294967296), Int.emod_def A (2 ^ (32 * i)), Int.emod_def _ 4294967296, ← Int.ediv_ediv_of_nonneg (by omega)]
  generalize (2 : Int) ^ (32 * i) = P
  generalize A / P = u
  rw [Int.mul_sub, Int.mul_assoc]
  omega
theorem vi_succ (A B : Int) (i : Nat) : vi A B (i + 1) = vi A B i + dg A i * 2 ^ (32 * i) * B := by
  unfold vi
  rw [mod_succ, Int.add_mul, Int.mul_comm (2 ^ (32 * i)) (dg A i)]
theorem vi_bd {A B : Int} (i : Nat) (hB0 : 0 ≤ B) (hB : B < 2 ^ (32 * 8)) : 0 ≤ vi A B i ∧ vi A B i < 2 ^ (32 * (i + 8)) := by
  have hP := pp (32 * i)
  have e2 := Int.emod_nonneg A (show (2 : Int) ^ (32 * i) ≠ 0 by omega)
  have e3 := Int.emod_lt_of_pos A hP
  unfold vi
  refine ⟨Int.mul_nonneg e2 hB0, ?_⟩
  rw [Nat.mul_add, Int.pow_add]
  refine Int.lt_of_le_of_lt (Int.mul_le_mul_of_nonneg_right (Int.le_of_lt e3) hB0) ?_
  exact Int.mul_lt_mul_of_pos_left hB hP
theorem vi_last {A B : Int} (h0 : 0 ≤ A) (h : A < 2 ^ (32 * 8)) : vi A B 8 = A * B := by
  unfold vi; rw [Int.emod_eq_of_lt h0 h]
theorem mod_last {B : Int} (h0 : 0 ≤ B) (h : B < 2 ^ (32 * 8)) : B % 2 ^ (32 * 8) = B := Int.emod_eq_of_lt h0 h
/-- The outer loop's last deed: the carry is the next digit. -/
theorem outer {W c : Int} {i : Nat} (h0 : 0 ≤ W) (h : W < 2 ^ (32 * (i + 8))) :
    W + (c - dg W (i + 8)) * 2 ^ (32 * (i + 8)) = W + c * 2 ^ (32 * (i + 8)) := by
  rw [dg_high h0 h (Nat.le_refl _), Int.sub_zero]
theorem inner0 (W V x B : Int) (i : Nat) (h : W = V) : W + 0 * 2 ^ (32 * (i + 0)) = V + x * 2 ^ (32 * i) * (B % 2 ^ (32 * 0)) := by
  have : B % 1 = 0 := by omega
  simp [this, h]
end Go.Proofs.Ytoiiekmkcpcbgaa
/-
  The document's half, a digit to the base 2^32, whatever the number: the walk.
-/
namespace Go.Proofs.Ytoiiekmkcpcbgaa
open Go.RowKit
set_option maxHeartbeats 1000000 in
theorem half_any (n : Int) (i : Nat) (w : World) (hi : i < 8) :
    Calls Try.prog 55 #[nv n, .int .i64 (i : Int)] w fun e w' => e = .returned (.int .u64 (dg n i)) ∧ Mo w w' := by
  have fin : ∀ (r : Int) (w' : World), r = dg n i → Mo w w' → (Ending.returned (.int .u64 r) = .returned (.int .u64 (dg n i)) ∧ Mo w w') := fun r w' h m => ⟨by rw [h], m⟩
  have hq : i = 0 ∨ i = 1 ∨ i = 2 ∨ i = 3 ∨ i = 4 ∨ i = 5 ∨ i = 6 ∨ i = 7 := by omega
  rcases hq with rfl | rfl | rfl | rfl | rfl | rfl | rfl | rfl
  all_goals
    go_enter Try.func55, Try.ntmps55
    go_wp2
    go_ret
    refine fin _ _ ?_ ((Mo.refl _).alloc _ _)
    simp [dg, l0, l1, l2, l3]
    rw [Int.tmod_eq_emod_of_nonneg (by omega)]
    omega
end Go.Proofs.Ytoiiekmkcpcbgaa
/-
  Plain arithmetic of math/bits.Div64: a digit of 32 bits, guessed and mended.
-/
namespace Go.Proofs.Ytoiiekmkcpcbgaa
/-- What holds at each test of the guess q and its rest r: y = h, l in halves; u below y; d the next digit. -/
structure Gs (u d h l q r : Int) : Prop where
  hh : 2147483648 ≤ h
  hh2 : h < 4294967296
  hl : 0 ≤ l
  hl2 : l < 4294967296
  hd : 0 ≤ d
  hd2 : d < 4294967296
  hu : 0 ≤ u
  hu2 : u < h * 4294967296 + l
  hq : 0 ≤ q
  hr : 0 ≤ r
  hr2 : r < 4294967296
  hqr : q * h + r = u
  ht : (u * 4294967296 + d) / (h * 4294967296 + l) ≤ q
theorem Gs.qy {h l : Int} (q : Int) : q * (h * 4294967296 + l) = q * h * 4294967296 + q * l := by
  rw [Int.mul_add, Int.mul_assoc]
theorem Gs.tlt {u d h l q r : Int} (g : Gs u d h l q r) : (u * 4294967296 + d) / (h * 4294967296 + l) < 4294967296 := by
  have := g.hh; have := g.hl; have := g.hu2; have := g.hd2
  apply Int.ediv_lt_of_lt_mul (by omega)
  have : 4294967296 * (h * 4294967296 + l) ≥ 4294967296 * (u + 1) := Int.mul_le_mul_of_nonneg_left (by omega) (by decide)
  omega
theorem Gs.start {u d h l : Int} (hh : 2147483648 ≤ h) (hh2 : h < 4294967296) (hl : 0 ≤ l) (hl2 : l < 4294967296) (hd : 0 ≤ d) (hd2 : d < 4294967296) (hu : 0 ≤ u) (hu2 : u < h * 4294967296 + l) :
    Gs u d h l (u / h) (u % h) := by
  have e := Int.emod_lt_of_pos u (show 0 < h by omega)
  have e0 := Int.emod_nonneg u (show h ≠ 0 by omega)
  have e1 : u / h * h + u % h = u := by rw [Int.mul_comm]; exact Int.mul_ediv_add_emod u h
  refine ⟨hh, hh2, hl, hl2, hd, hd2, hu, hu2, Int.ediv_nonneg hu (by omega), e0, by omega, e1, ?_⟩
  have hy : 0 < h * 4294967296 + l := by omega
  have t := Int.ediv_mul_le (u * 4294967296 + d) (show h * 4294967296 + l ≠ 0 by omega)
  have tn : 0 ≤ (u * 4294967296 + d) / (h * 4294967296 + l) := Int.ediv_nonneg (by omega) (by omega)
  generalize (u * 4294967296 + d) / (h * 4294967296 + l) = T at *
  rw [Gs.qy] at t
  have : 0 ≤ T * l := Int.mul_nonneg tn hl
  exact (Int.le_ediv_iff_mul_le (by omega)).2 (by omega)
/-- No number goes round at the test. -/
theorem Gs.fit {u d h l q r : Int} (g : Gs u d h l q r) (hq : q < 4294967296) : 0 ≤ q * l ∧ q * l < 18446744073709551616 := by
  have := g.hl; have := g.hl2; have := g.hq
  refine ⟨Int.mul_nonneg g.hq g.hl, ?_⟩
  have : q * l ≤ 4294967295 * 4294967295 := Int.mul_le_mul (by omega) (by omega) g.hl (by decide)
  omega
theorem Gs.done {u d h l q r : Int} (g : Gs u d h l q r) (ht : q * l ≤ 4294967296 * r + d) : q = (u * 4294967296 + d) / (h * 4294967296 + l) := by
  have := g.ht
  have hy : 0 < h * 4294967296 + l := by have := g.hh; have := g.hl; omega
  have : q ≤ (u * 4294967296 + d) / (h * 4294967296 + l) := by
    apply (Int.le_ediv_iff_mul_le hy).2
    rw [Gs.qy]
    have := g.hqr
    omega
  omega
theorem Gs.down {u d h l q r : Int} (g : Gs u d h l q r) (ht : 4294967296 ≤ q ∨ 4294967296 * r + d < q * l) : 1 ≤ q ∧ (u * 4294967296 + d) / (h * 4294967296 + l) ≤ q - 1 := by
  have hy : 0 < h * 4294967296 + l := by have := g.hh; have := g.hl; omega
  have tn : 0 ≤ (u * 4294967296 + d) / (h * 4294967296 + l) := by have := g.hu; have := g.hd; exact Int.ediv_nonneg (by omega) (by omega)
  have tl := g.tlt
  rcases ht with ht | ht
  · omega
  · have : (u * 4294967296 + d) / (h * 4294967296 + l) < q := by
      apply Int.ediv_lt_of_lt_mul hy
      rw [Gs.qy]
      have := g.hqr
      omega
    omega
theorem Gs.next {u d h l q r : Int} (g : Gs u d h l q r) (ht : 4294967296 ≤ q ∨ 4294967296 * r + d < q * l) (hr : r + h < 4294967296) : Gs u d h l (q - 1) (r + h) := by
  obtain ⟨d1, d2⟩ := g.down ht
  refine ⟨g.hh, g.hh2, g.hl, g.hl2, g.hd, g.hd2, g.hu, g.hu2, by omega, ?_, hr, ?_, d2⟩
  · have := g.hr; have := g.hh; omega
  · have := g.hqr; rw [Int.sub_mul]; omega
theorem Gs.stop {u d h l q r : Int} (g : Gs u d h l q r) (ht : 4294967296 ≤ q ∨ 4294967296 * r + d < q * l) (hr : 4294967296 ≤ r + h) : q - 1 = (u * 4294967296 + d) / (h * 4294967296 + l) := by
  obtain ⟨d1, d2⟩ := g.down ht
  have hy : 0 < h * 4294967296 + l := by have := g.hh; have := g.hl; omega
  have e : (q - 1) * h + (r + h) = u := by have := g.hqr; rw [Int.sub_mul]; omega
  have lt : q - 1 < 4294967296 := by
    apply Int.lt_of_not_ge
    intro hge
    have := Int.mul_le_mul_of_nonneg_right (c := h) hge (by have := g.hh; omega)
    have := g.hu2; have := g.hl2
    omega
  have m : (q - 1) * l ≤ 4294967295 * 4294967295 := Int.mul_le_mul (by omega) (by have := g.hl2; omega) g.hl (by decide)
  have : q - 1 ≤ (u * 4294967296 + d) / (h * 4294967296 + l) := by
    apply (Int.le_ediv_iff_mul_le hy).2
    rw [Gs.qy]
    have := g.hd
    omega
  omega
end Go.Proofs.Ytoiiekmkcpcbgaa
/-
  math/bits.Div64 where the high word is 0, limb.divLimb of a number of one limb: the walks.
-/
namespace Go.Proofs.Ytoiiekmkcpcbgaa
open Go.RowKit
set_option maxHeartbeats 1000000 in
theorem div64_0 (lo y : Int) (w : World) (h0 : 0 ≤ lo) (h1 : lo < 18446744073709551616) (h2 : 0 < y) (h3 : y < 18446744073709551616) :
    Calls Try.prog 99 #[.int .u64 0, .int .u64 lo, .int .u64 y] w fun e w' =>
      e = .returned (.tuple #[.int .u64 (lo / y), .int .u64 (lo % y)]) ∧ ∃ n, w' = w.drewN n := by
  have hy : (y == 0) = false := by rw [beq_eq_false_iff_ne]; omega
  have hy2 : ¬ y ≤ 0 := by omega
  have hy3 : y ≠ 0 := by omega
  go_enter Try.func99, Try.ntmps99
  go_wp2
  go_quiet (fail)
  go_wp2
  go_ret2
  exact ⟨rfl, _, rfl⟩
end Go.Proofs.Ytoiiekmkcpcbgaa
/-
  math/bits.Len64, LeadingZeros64 and Mul64 at this program: the contracts of the library, laid.
-/
namespace Go.Proofs
open Go.Shelf
def Try.lays134_ren : Go.Shelf.Ren := ⟨fun | 134 => 106 | 129 => 94 | n => n, fun | 53 => 22 | 3 => 3 | 4 => 4 | 46 => 64 | 5 => 5 | 9 => 9 | n => n, fun | n => n⟩
theorem Try.lays134 : Go.Proofs.Lays.n134 Try.prog Try.lays134_ren := {
  mixed := by kernel_rfl
  f129 := Try.func94.trans (congrArg some (by kernel_rfl))
  f134 := Try.func106.trans (congrArg some (by kernel_rfl))
  t3 := Try.underlying3
  a3 := Try.isAgg3
  z3 := Try.sizeOf3
  v3 := Try.zeroValue3
  t4 := Try.underlying4
  a4 := Try.isAgg4
  z4 := Try.sizeOf4
  v4 := Try.zeroValue4
  t5 := Try.underlying5
  a5 := Try.isAgg5
  z5 := Try.sizeOf5
  v5 := Try.zeroValue5
  t9 := Try.underlying9
  a9 := Try.isAgg9
  z9 := Try.sizeOf9
  v9 := Try.zeroValue9
  t46 := Try.underlying64
  a46 := Try.isAgg64
  z46 := Try.sizeOf64
  v46 := Try.zeroValue64
  t53 := Try.underlying22
  a53 := Try.isAgg22
  z53 := Try.sizeOf22
  v53 := Try.zeroValue22 }
theorem Try.bits_LeadingZeros64 (x : Int) (w : World) (h0 : 0 ≤ x) (h1 : x ≤ 18446744073709551615) :
    Calls Try.prog 106 #[.int .u64 x] w fun e w' => e = .returned (.int .i64 (64 - (Lib.bitLen x.toNat : Int))) ∧ w' = w := Any.bits_LeadingZeros64 Try.lays134 x w h0 h1
def Try.lays129_ren : Go.Shelf.Ren := ⟨fun | 129 => 94 | n => n, fun | 53 => 22 | 3 => 3 | 4 => 4 | 46 => 64 | 5 => 5 | 9 => 9 | n => n, fun | n => n⟩
theorem Try.lays129 : Go.Proofs.Lays.n129 Try.prog Try.lays129_ren := {
  mixed := by kernel_rfl
  f129 := Try.func94.trans (congrArg some (by kernel_rfl))
  t3 := Try.underlying3
  a3 := Try.isAgg3
  z3 := Try.sizeOf3
  v3 := Try.zeroValue3
  t4 := Try.underlying4
  a4 := Try.isAgg4
  z4 := Try.sizeOf4
  v4 := Try.zeroValue4
  t5 := Try.underlying5
  a5 := Try.isAgg5
  z5 := Try.sizeOf5
  v5 := Try.zeroValue5
  t9 := Try.underlying9
  a9 := Try.isAgg9
  z9 := Try.sizeOf9
  v9 := Try.zeroValue9
  t46 := Try.underlying64
  a46 := Try.isAgg64
  z46 := Try.sizeOf64
  v46 := Try.zeroValue64
  t53 := Try.underlying22
  a53 := Try.isAgg22
  z53 := Try.sizeOf22
  v53 := Try.zeroValue22 }
theorem Try.bits_Len64 (x : Int) (w : World) (h0 : 0 ≤ x) (h1 : x ≤ 18446744073709551615) :
    Calls Try.prog 94 #[.int .u64 x] w fun e w' => e = .returned (.int .i64 (Lib.bitLen x.toNat)) ∧ w' = w := Any.bits_Len64 Try.lays129 x w h0 h1
def Try.lays264_ren : Go.Shelf.Ren := ⟨fun | 264 => 93 | n => n, fun | 53 => 22 | 46 => 64 | n => n, fun | n => n⟩
theorem Try.lays264 : Go.Proofs.Lays.n264 Try.prog Try.lays264_ren := {
  mixed := by kernel_rfl
  f264 := Try.func93.trans (congrArg some (by kernel_rfl))
  t46 := Try.underlying64
  a46 := Try.isAgg64
  z46 := Try.sizeOf64
  v46 := Try.zeroValue64
  t53 := Try.underlying22
  a53 := Try.isAgg22
  z53 := Try.sizeOf22
  v53 := Try.zeroValue22 }
open Go.RowKit Go.Lib in
theorem Try.bits_Mul64 (x y : Nat) (hx : x < 18446744073709551616) (hy : y < 18446744073709551616) (w : World) :
    Calls Try.prog 93 #[.int .u64 x, .int .u64 y] w fun e w' => e = .returned (.tuple #[.int .u64 ((x * y / 18446744073709551616 : Nat) : Int), .int .u64 ((x * y % 18446744073709551616 : Nat) : Int)]) ∧ w' = w := Any.bits_Mul64 Try.lays264 x y hx hy w
end Go.Proofs
/-
  math/bits.Div64, whatever the words: the walk.
-/
namespace Go.Proofs.Ytoiiekmkcpcbgaa
open Go.RowKit
theorem bitLen_zero : Lib.bitLen 0 = 0 := by decide
theorem bitLen_bd : ∀ (k x : Nat), x < 2 ^ k → k ≤ 64 → x ≠ 0 → 1 ≤ Lib.bitLen x ∧ Lib.bitLen x ≤ k ∧ 2 ^ (Lib.bitLen x - 1) ≤ x ∧ x < 2 ^ Lib.bitLen x
  | 0, x, h, _, h0 => by simp at h; omega
  | k + 1, x, h, hk, h0 => by
    have h64 : x < 2 ^ 64 := Nat.lt_of_lt_of_le h (Nat.pow_le_pow_right (n := 2) (by decide) hk)
    have e := Lib.bitLen_half x h0 h64
    by_cases hx : x / 2 = 0
    · rw [hx, bitLen_zero] at e
      have : x = 1 := by omega
      subst this
      rw [e]; simp
    · have h2 : x / 2 < 2 ^ k := by rw [Nat.pow_succ] at h; omega
      obtain ⟨a, b, c, d⟩ := bitLen_bd k (x / 2) h2 (by omega) hx
      rw [e]
      generalize Lib.bitLen (x / 2) = m at *
      obtain ⟨m, rfl⟩ : ∃ j, m = j + 1 := ⟨m - 1, by omega⟩
      have c' : 2 ^ m ≤ x / 2 := by simpa using c
      refine ⟨by omega, by omega, ?_, ?_⟩
      · rw [show 1 + (m + 1) - 1 = m + 1 from by omega, Nat.pow_succ]; omega
      · rw [show 1 + (m + 1) = m + 1 + 1 from by omega, Nat.pow_succ]; omega
/-- How far a word is from having its top bit set. -/
theorem lead (y : Int) (h0 : 0 < y) (h1 : y < 18446744073709551616) : ∃ k : Nat, (64 - (Lib.bitLen y.toNat : Int)) = k ∧ k ≤ 63 ∧ 9223372036854775808 ≤ y * 2 ^ k ∧ y * 2 ^ k < 18446744073709551616 := by
  obtain ⟨x, rfl⟩ := Int.eq_ofNat_of_zero_le (show 0 ≤ y by omega)
  obtain ⟨a, b, c, d⟩ := bitLen_bd 64 x (by omega) (by omega) (by omega)
  refine ⟨64 - Lib.bitLen x, ?_, by omega, ?_, ?_⟩
  · simp; omega
  · have h : 2 ^ (Lib.bitLen x - 1) * 2 ^ (64 - Lib.bitLen x) ≤ x * 2 ^ (64 - Lib.bitLen x) := Nat.mul_le_mul_right _ c
    rw [← Nat.pow_add, show Lib.bitLen x - 1 + (64 - Lib.bitLen x) = 63 from by omega] at h
    have e : ((x * 2 ^ (64 - Lib.bitLen x) : Nat) : Int) = (x : Int) * 2 ^ (64 - Lib.bitLen x) := by rw [Int.natCast_mul, Int.natCast_pow]; rfl
    rw [← e]
    generalize x * 2 ^ (64 - Lib.bitLen x) = z at *
    omega
  · have h : x * 2 ^ (64 - Lib.bitLen x) < 2 ^ Lib.bitLen x * 2 ^ (64 - Lib.bitLen x) := Nat.mul_lt_mul_of_pos_right d (Nat.pow_pos (by decide))
    rw [← Nat.pow_add, show Lib.bitLen x + (64 - Lib.bitLen x) = 64 from by omega] at h
    have e : ((x * 2 ^ (64 - Lib.bitLen x) : Nat) : Int) = (x : Int) * 2 ^ (64 - Lib.bitLen x) := by rw [Int.natCast_mul, Int.natCast_pow]; rfl
    rw [← e]
    generalize x * 2 ^ (64 - Lib.bitLen x) = z at *
    omega

theorem div_fit {u h : Int} (hu : 0 ≤ u) (hh : 0 < h) : 0 ≤ u / h ∧ u / h ≤ u ∧ 0 ≤ u / h * h ∧ u / h * h ≤ u := by
  have a := Int.ediv_nonneg hu (show 0 ≤ h by omega)
  have b := Int.ediv_mul_le u (show h ≠ 0 by omega)
  refine ⟨a, ?_, Int.mul_nonneg a (by omega), b⟩
  exact Int.ediv_le_self h hu
theorem mod_sub (u h : Int) : u % h = u - u / h * h := by rw [Int.emod_def, Int.mul_comm]

set_option maxHeartbeats 2000000 in
theorem div64_core (hi lo y Y h l u v d1 d0 T1 R1 T0 R0 : Int) (k : Nat) (w : World) (h0 : 0 < hi) (h1 : hi < y) (_h2 : 0 ≤ lo) (_h3 : lo < 18446744073709551616) (h4 : y < 18446744073709551616)
    (hk : Hid ((64 - (Lib.bitLen y.toNat : Int)) = k)) (hk2 : k ≤ 63)
    (eY : IntKind.u64.wrap (y * 2 ^ k) = Y) (eh : Y / 4294967296 = h) (el : bits .and .u64 Y 4294967295 = l)
    (eu : bits .or .u64 (IntKind.u64.wrap (hi * 2 ^ k)) (lo / 2 ^ (64 - k)) = u) (ev : IntKind.u64.wrap (lo * 2 ^ k) = v) (e1 : v / 4294967296 = d1) (e0 : bits .and .u64 v 4294967295 = d0)
    (hY : Hid (Y = h * 4294967296 + l)) (bh : 2147483648 ≤ h) (bh2 : h < 4294967296) (bl : 0 ≤ l) (bl2 : l < 4294967296) (bd1 : 0 ≤ d1) (bd1' : d1 < 4294967296) (bd0 : 0 ≤ d0) (bd0' : d0 < 4294967296) (bu : 0 ≤ u) (bu2 : u < Y) (bY2 : Y < 18446744073709551616)
    (q1 : Hid (T1 = (u * 4294967296 + d1) / Y)) (q2 : Hid (R1 = (u * 4294967296 + d1) % Y)) (q3 : Hid (T0 = (R1 * 4294967296 + d0) / Y)) (q4 : Hid (R0 = (R1 * 4294967296 + d0) % Y))
    (bT1 : 0 ≤ T1) (bT1' : T1 < 4294967296) (bR1 : 0 ≤ R1) (bR1' : R1 < Y) (bT0 : 0 ≤ T0) (bT0' : T0 < 4294967296) (bR0 : 0 ≤ R0) (bR0' : R0 < Y) :
    Calls Try.prog 99 #[.int .u64 hi, .int .u64 lo, .int .u64 y] w fun e w' =>
      e = .returned (.tuple #[.int .u64 (T1 * 4294967296 + T0), .int .u64 (R0 / 2 ^ k)]) ∧ w' = w := by
  have hy : (y == 0) = false := by rw [beq_eq_false_iff_ne]; omega
  have hy2 : ¬ y ≤ hi := by omega
  have hh : (hi == 0) = false := by rw [beq_eq_false_iff_ne]; omega
  have hh0 : h ≠ 0 := by omega
  obtain ⟨a1, a2, a3, a4⟩ := div_fit bu (show 0 < h by omega)
  obtain ⟨a5, a6, a7, a8⟩ := div_fit bR1 (show 0 < h by omega)
  have r1 : IntKind.u64.wrap (IntKind.u64.wrap (IntKind.u64.wrap (u * 4294967296) + d1) - IntKind.u64.wrap (T1 * Y)) = R1 := by
    have := q2.out; have e := q1.out
    have m := mod_sub (u * 4294967296 + d1) Y
    rw [← e] at m
    simp only [IntKind.wrap_u64]
    omega
  have r0 : IntKind.u64.wrap (IntKind.u64.wrap (IntKind.u64.wrap (R1 * 4294967296) + d0) - IntKind.u64.wrap (T0 * Y)) = R0 := by
    have := q4.out; have e := q3.out
    have m := mod_sub (R1 * 4294967296 + d0) Y
    rw [← e] at m
    simp only [IntKind.wrap_u64]
    omega
  have G1 : Gs u d1 h l (u / h) (u - u / h * h) := by
    rw [← mod_sub]; exact Gs.start bh bh2 bl bl2 bd1 bd1' bu (by rw [← hY.out]; exact bu2)
  have G0 : Gs R1 d0 h l (R1 / h) (R1 - R1 / h * h) := by
    rw [← mod_sub]; exact Gs.start bh bh2 bl bl2 bd0 bd0' bR1 (by rw [← hY.out]; exact bR1')
  have Hr1 : Hid _ := r1
  have Hr0 : Hid _ := r0
  clear r1 r0
  go_enter Try.func99, Try.ntmps99
  go_upto_block 0 with (go_at_call 106; refine (Try.bits_LeadingZeros64 y _ (by omega) (by omega)).mono ?_; rintro e w' ⟨rfl, rfl⟩; rw [hk.out])
  go_cut [15, 16] from 67 to 85 (fun a _ wx => a = .int .u64 T1 ∧ wx = w')
  case first =>
    go_wp2
    go_loop [15, 16] (fun a b => ∃ q r : Int, a = .int .u64 q ∧ b = .int .u64 r ∧ Gs u d1 h l q r) (fun a _ => (intOf a).toNat)
    case atStart => exact ⟨_, _, rfl, rfl, G1⟩
    case round =>
      obtain ⟨q, r, rfl, rfl, g⟩ := hrel
      have i1 := g.hq
      have i2 := g.hr
      have i3 := g.hr2
      have i4 : q ≤ u := by
        have m1 : q * 1 ≤ q * h := Int.mul_le_mul_of_nonneg_left (show (1 : Int) ≤ h by omega) i1
        have m2 := g.hqr
        omega
      by_cases hq : 4294967296 ≤ q
      · obtain ⟨j1, _⟩ := g.down (Or.inl hq)
        by_cases hs : 4294967296 ≤ r + h
        · have hT : q - 1 = T1 := by rw [q1.out, hY.out]; exact g.stop (Or.inl hq) hs
          have HT : Hid _ := hT
          clear hT
          go_wp2
          go_meet
          case rel => exact ⟨by rw [HT.out], rfl⟩
        · go_wp2
          go_round
          case rel => exact ⟨_, _, rfl, rfl, g.next (Or.inl hq) (by omega)⟩
          case measure => simp [intOf]; omega
      · obtain ⟨f1, f2⟩ := g.fit (by omega)
        by_cases ht : 4294967296 * r + d1 < q * l
        · obtain ⟨j1, _⟩ := g.down (Or.inr ht)
          by_cases hs : 4294967296 ≤ r + h
          · have hT : q - 1 = T1 := by rw [q1.out, hY.out]; exact g.stop (Or.inr ht) hs
            have HT : Hid _ := hT
            clear hT
            go_wp2
            go_meet
            case rel => exact ⟨by rw [HT.out], rfl⟩
          · go_wp2
            go_round
            case rel => exact ⟨_, _, rfl, rfl, g.next (Or.inr ht) (by omega)⟩
            case measure => simp [intOf]; omega
        · have hT : q = T1 := by rw [q1.out, hY.out]; exact g.done (by omega)
          have HT : Hid _ := hT
          clear hT
          go_wp2
          go_meet
          case rel => exact ⟨by rw [HT.out], rfl⟩
  case rest =>
    obtain ⟨rfl, rfl⟩ := hcut
    have r1 := Hr1.out
    go_upto_block 2 with fail
    go_cut [18, 16] from 102 to 120 (fun a _ wx => a = .int .u64 T0 ∧ wx = wc)
    case first =>
      go_wp2
      go_loop [18, 16] (fun a b => ∃ q r : Int, a = .int .u64 q ∧ b = .int .u64 r ∧ Gs R1 d0 h l q r) (fun a _ => (intOf a).toNat)
      case atStart => exact ⟨_, _, rfl, rfl, G0⟩
      case round =>
        obtain ⟨q, r, rfl, rfl, g⟩ := hrel
        have i1 := g.hq
        have i2 := g.hr
        have i3 := g.hr2
        have i4 : q ≤ R1 := by
          have m1 : q * 1 ≤ q * h := Int.mul_le_mul_of_nonneg_left (show (1 : Int) ≤ h by omega) i1
          have m2 := g.hqr
          omega
        by_cases hq : 4294967296 ≤ q
        · obtain ⟨j1, _⟩ := g.down (Or.inl hq)
          by_cases hs : 4294967296 ≤ r + h
          · have hT : q - 1 = T0 := by rw [q3.out, hY.out]; exact g.stop (Or.inl hq) hs
            have HT : Hid _ := hT
            clear hT
            go_wp2
            go_meet
            case rel => exact ⟨by rw [HT.out], rfl⟩
          · go_wp2
            go_round
            case rel => exact ⟨_, _, rfl, rfl, g.next (Or.inl hq) (by omega)⟩
            case measure => simp [intOf]; omega
        · obtain ⟨f1, f2⟩ := g.fit (by omega)
          by_cases ht : 4294967296 * r + d0 < q * l
          · obtain ⟨j1, _⟩ := g.down (Or.inr ht)
            by_cases hs : 4294967296 ≤ r + h
            · have hT : q - 1 = T0 := by rw [q3.out, hY.out]; exact g.stop (Or.inr ht) hs
              have HT : Hid _ := hT
              clear hT
              go_wp2
              go_meet
              case rel => exact ⟨by rw [HT.out], rfl⟩
            · go_wp2
              go_round
              case rel => exact ⟨_, _, rfl, rfl, g.next (Or.inr ht) (by omega)⟩
              case measure => simp [intOf]; omega
          · have hT : q = T0 := by rw [q3.out, hY.out]; exact g.done (by omega)
            have HT : Hid _ := hT
            clear hT
            go_wp2
            go_meet
            case rel => exact ⟨by rw [HT.out], rfl⟩
    case rest =>
      obtain ⟨rfl, rfl⟩ := hcut
      have r0 := Hr0.out
      go_wp2
      go_ret2
      exact ⟨rfl, rfl⟩

theorem mask32 (a : Int) (h0 : 0 ≤ a) (h1 : a < 18446744073709551616) : bits .and .u64 a 4294967295 = a % 4294967296 := by
  obtain ⟨x, rfl⟩ := Int.eq_ofNat_of_zero_le h0
  rw [Mul64.maskN x (by omega)]
  omega
/-- Two words joined: no bit in both. -/
theorem or_join (a b : Int) (k : Nat) (ha : 0 ≤ a) (hb : 0 ≤ b) (hb2 : b < 2 ^ k) (h : a * 2 ^ k + b < 18446744073709551616) : bits .or .u64 (a * 2 ^ k) b = a * 2 ^ k + b := by
  obtain ⟨x, rfl⟩ := Int.eq_ofNat_of_zero_le ha
  obtain ⟨z, rfl⟩ := Int.eq_ofNat_of_zero_le hb
  have e : ((x * 2 ^ k : Nat) : Int) = (x : Int) * 2 ^ k := by rw [Int.natCast_mul, Int.natCast_pow]; rfl
  have e2 : ((2 ^ k : Nat) : Int) = (2 : Int) ^ k := by rw [Int.natCast_pow]; rfl
  rw [← e] at h ⊢
  rw [← e2] at hb2
  have j : x * 2 ^ k ||| z = x * 2 ^ k + z := by
    rw [Nat.mul_comm x]; exact (Nat.two_pow_add_eq_or_of_lt (by omega) x).symm
  rw [bits_or_u64_nat (x * 2 ^ k) z (by omega) (by omega), j]
  omega
theorem pow_split (k : Nat) (hk : k ≤ 63) : (2 : Int) ^ (64 - k) * 2 ^ k = 18446744073709551616 := by
  rw [← Int.pow_add, show 64 - k + k = 64 from by omega]; decide

theorem div64_big (hi lo y : Int) (w : World) (h0 : 0 < hi) (h1 : hi < y) (h2 : 0 ≤ lo) (h3 : lo < 18446744073709551616) (h4 : y < 18446744073709551616) :
    Calls Try.prog 99 #[.int .u64 hi, .int .u64 lo, .int .u64 y] w fun e w' =>
      e = .returned (.tuple #[.int .u64 ((hi * 18446744073709551616 + lo) / y), .int .u64 ((hi * 18446744073709551616 + lo) % y)]) ∧ w' = w := by
  obtain ⟨k, hk, hk2, c1, c2⟩ := lead y (by omega) h4
  have hP : (0 : Int) < 2 ^ k := Int.pow_pos (by decide)
  have hQ : (0 : Int) < 2 ^ (64 - k) := Int.pow_pos (by decide)
  have hPQ := pow_split k hk2
  -- the words, shifted
  have lq : lo / 2 ^ (64 - k) < 2 ^ k := Int.ediv_lt_of_lt_mul hQ (by rw [Int.mul_comm, hPQ]; exact h3)
  have lq0 : 0 ≤ lo / 2 ^ (64 - k) := Int.ediv_nonneg h2 (by omega)
  have hy1 : (hi + 1) * 2 ^ k ≤ y * 2 ^ k := Int.mul_le_mul_of_nonneg_right (by omega) (by omega)
  rw [Int.add_mul, Int.one_mul] at hy1
  have hiP : 0 ≤ hi * 2 ^ k := Int.mul_nonneg (by omega) (by omega)
  have lop : lo * 2 ^ k / 18446744073709551616 = lo / 2 ^ (64 - k) := by
    rw [← hPQ]; exact Int.mul_ediv_mul_of_pos_left _ _ hP
  have eY : IntKind.u64.wrap (y * 2 ^ k) = y * 2 ^ k := by rw [IntKind.wrap_u64]; omega
  have ehi : IntKind.u64.wrap (hi * 2 ^ k) = hi * 2 ^ k := by rw [IntKind.wrap_u64]; omega
  have eu : bits .or .u64 (IntKind.u64.wrap (hi * 2 ^ k)) (lo / 2 ^ (64 - k)) = hi * 2 ^ k + lo / 2 ^ (64 - k) := by
    rw [ehi]; exact or_join hi _ k (by omega) lq0 lq (by omega)
  have ev : IntKind.u64.wrap (lo * 2 ^ k) = lo * 2 ^ k % 18446744073709551616 := by rw [IntKind.wrap_u64]
  have whole : (hi * 2 ^ k + lo / 2 ^ (64 - k)) * 18446744073709551616 + lo * 2 ^ k % 18446744073709551616 = (hi * 18446744073709551616 + lo) * 2 ^ k := by
    rw [Int.add_mul (hi * 18446744073709551616), Int.mul_right_comm hi 18446744073709551616, ← lop, Int.add_mul]; omega
  have div1 : (hi * 18446744073709551616 + lo) * 2 ^ k / (y * 2 ^ k) = (hi * 18446744073709551616 + lo) / y := Int.mul_ediv_mul_of_pos_left _ _ hP
  have mod1 : (hi * 18446744073709551616 + lo) * 2 ^ k % (y * 2 ^ k) = (hi * 18446744073709551616 + lo) % y * 2 ^ k := by
    rw [mod_sub, div1, mod_sub, Int.sub_mul, Int.mul_assoc]
  have mod2 : (hi * 18446744073709551616 + lo) % y * 2 ^ k / 2 ^ k = (hi * 18446744073709551616 + lo) % y := Int.mul_ediv_cancel _ (by omega)
  generalize hYe : y * 2 ^ k = Y at *
  generalize hue : hi * 2 ^ k + lo / 2 ^ (64 - k) = u at *
  generalize hve : lo * 2 ^ k % 18446744073709551616 = v at *
  have hv : 0 ≤ v ∧ v < 18446744073709551616 := by omega
  have hu : 0 ≤ u ∧ u < Y := by omega
  have hY0 : Y ≠ 0 := by omega
  -- the digits
  have b1 := Int.emod_nonneg (u * 4294967296 + v / 4294967296) hY0
  have b2 := Int.emod_lt_of_pos (u * 4294967296 + v / 4294967296) (show 0 < Y by omega)
  have t1 : (u * 4294967296 + v / 4294967296) / Y < 4294967296 := Int.ediv_lt_of_lt_mul (by omega) (by omega)
  have t1' : 0 ≤ (u * 4294967296 + v / 4294967296) / Y := Int.ediv_nonneg (by omega) (by omega)
  have s1 := mod_sub (u * 4294967296 + v / 4294967296) Y
  generalize hT1 : (u * 4294967296 + v / 4294967296) / Y = T1 at *
  generalize hR1 : (u * 4294967296 + v / 4294967296) % Y = R1 at *
  have b3 := Int.emod_nonneg (R1 * 4294967296 + v % 4294967296) hY0
  have b4 := Int.emod_lt_of_pos (R1 * 4294967296 + v % 4294967296) (show 0 < Y by omega)
  have t0 : (R1 * 4294967296 + v % 4294967296) / Y < 4294967296 := Int.ediv_lt_of_lt_mul (by omega) (by omega)
  have t0' : 0 ≤ (R1 * 4294967296 + v % 4294967296) / Y := Int.ediv_nonneg (by omega) (by omega)
  have s0 := mod_sub (R1 * 4294967296 + v % 4294967296) Y
  generalize hT0 : (R1 * 4294967296 + v % 4294967296) / Y = T0 at *
  generalize hR0 : (R1 * 4294967296 + v % 4294967296) % Y = R0 at *
  have key : (hi * 18446744073709551616 + lo) * 2 ^ k = R0 + Y * (T1 * 4294967296 + T0) := by
    rw [← whole, Int.mul_add, ← Int.mul_assoc, Int.mul_comm Y T1, Int.mul_comm Y T0]; omega
  have fq : (hi * 18446744073709551616 + lo) / y = T1 * 4294967296 + T0 := by
    rw [← div1, key, Int.add_mul_ediv_left _ _ hY0, Int.ediv_eq_zero_of_lt b3 b4, Int.zero_add]
  have fr : (hi * 18446744073709551616 + lo) % y = R0 / 2 ^ k := by
    rw [← mod2, ← mod1, key, Int.add_mul_emod_self_left, Int.emod_eq_of_lt b3 b4]
  rw [fq, fr]
  exact div64_core hi lo y Y (Y / 4294967296) (Y % 4294967296) u v (v / 4294967296) (v % 4294967296) T1 R1 T0 R0 k w h0 h1 h2 h3 h4 hk hk2 (by rw [hYe]; exact eY) rfl (mask32 Y (by omega) c2) eu ev rfl (mask32 v hv.1 hv.2)
    (show Y = Y / 4294967296 * 4294967296 + Y % 4294967296 by omega) (by omega) (by omega) (by omega) (by omega) (by omega) (by omega) (by omega) (by omega) hu.1 hu.2 c2 hT1.symm hR1.symm hT0.symm hR0.symm t1' t1 b1 b2 t0' t0 b3 b4

theorem div64_any (hi lo y : Int) (w : World) (h0 : 0 ≤ hi) (h1 : hi < y) (h2 : 0 ≤ lo) (h3 : lo < 18446744073709551616) (h4 : y < 18446744073709551616) :
    Calls Try.prog 99 #[.int .u64 hi, .int .u64 lo, .int .u64 y] w fun e w' =>
      e = .returned (.tuple #[.int .u64 ((hi * 18446744073709551616 + lo) / y), .int .u64 ((hi * 18446744073709551616 + lo) % y)]) ∧ ∃ n, w' = w.drewN n := by
  by_cases h : hi = 0
  · subst h
    rw [Int.zero_mul, Int.zero_add]
    exact div64_0 lo y w h2 h3 (by omega) h4
  · refine (div64_big hi lo y w (by omega) h1 h2 h3 h4).mono ?_
    rintro e w' ⟨rfl, rfl⟩
    exact ⟨rfl, 0, rfl⟩
end Go.Proofs.Ytoiiekmkcpcbgaa
/-
  Plain arithmetic of bits: how many a number has, and which.
-/
namespace Go.Proofs.Ytoiiekmkcpcbgaa
/-- How many bits a number has. -/
def bln (n : Int) : Int := if n = 0 then 0 else (Nat.log2 n.toNat : Int) + 1
theorem cast_pow (k : Nat) : ((2 ^ k : Nat) : Int) = (2 : Int) ^ k := by rw [Int.natCast_pow]; rfl
theorem bln_of {n : Int} (k : Nat) (h1 : (2 : Int) ^ k ≤ n) (h2 : n < 2 ^ (k + 1)) : bln n = k + 1 := by
  have hp : (0 : Int) < 2 ^ k := Int.pow_pos (by decide)
  obtain ⟨m, rfl⟩ := Int.eq_ofNat_of_zero_le (show 0 ≤ n by omega)
  rw [← cast_pow] at h1 h2
  have : Nat.log2 m = k := (Nat.log2_eq_iff (by omega)).2 ⟨by omega, by omega⟩
  unfold bln
  rw [if_neg (by omega), Int.toNat_natCast, this]
theorem bln_join {a low : Int} (s : Nat) (ha : 0 < a) (ha2 : a < 18446744073709551616) (h0 : 0 ≤ low) (h1 : low < 2 ^ s) : bln (a * 2 ^ s + low) = s + Lib.bitLen a.toNat := by
  obtain ⟨x, rfl⟩ := Int.eq_ofNat_of_zero_le (show 0 ≤ a by omega)
  obtain ⟨b1, b2, b3, b4⟩ := bitLen_bd 64 x (by omega) (by omega) (by omega)
  rw [Int.toNat_natCast]
  generalize Lib.bitLen x = L at *
  obtain ⟨m, rfl⟩ : ∃ j, L = j + 1 := ⟨L - 1, by omega⟩
  have b3' : 2 ^ m ≤ x := by simpa using b3
  have c3 : (2 : Int) ^ m ≤ x := by rw [← cast_pow]; omega
  have c4 : (x : Int) + 1 ≤ 2 ^ (m + 1) := by rw [← cast_pow]; omega
  have hp : (0 : Int) ≤ 2 ^ s := Int.le_of_lt (Int.pow_pos (by decide))
  have e := bln_of (n := (x : Int) * 2 ^ s + low) (s + m) ?_ ?_
  · rw [e]; omega
  · have := Int.mul_le_mul_of_nonneg_right c3 hp
    rw [← Int.pow_add, Nat.add_comm] at this
    omega
  · have := Int.mul_le_mul_of_nonneg_right c4 hp
    rw [← Int.pow_add, Int.add_mul, Int.one_mul, show m + 1 + s = s + m + 1 from by omega] at this
    omega
/-- A bit within a limb. -/
theorem bit_low (a Z : Int) (r : Nat) (hr : r < 64) : (a + 18446744073709551616 * Z) / 2 ^ r % 2 = a / 2 ^ r % 2 := by
  have e : (18446744073709551616 : Int) = 2 ^ r * (2 * 2 ^ (63 - r)) := by
    rw [show (2 : Int) * 2 ^ (63 - r) = 2 ^ (63 - r + 1) from by rw [Int.pow_succ, Int.mul_comm], ← Int.pow_add, show r + (63 - r + 1) = 64 from by omega]; decide
  have hp : (2 : Int) ^ r ≠ 0 := by have : (0 : Int) < 2 ^ r := Int.pow_pos (by decide); omega
  rw [e, Int.mul_assoc, Int.add_mul_ediv_left _ _ hp, Int.mul_assoc, Int.add_mul_emod_self_left]
theorem div_pow_split (n : Int) (i j : Nat) : n / 2 ^ (i + j) = n / 2 ^ i / 2 ^ j := by
  rw [Int.pow_add, Int.ediv_ediv_of_nonneg (Int.le_of_lt (Int.pow_pos (by decide)))]
end Go.Proofs.Ytoiiekmkcpcbgaa
/-
  limb.Div: the worlds of the call, and the arithmetic of its four steps.
-/
namespace Go.Proofs.Ytoiiekmkcpcbgaa
open Go.RowKit
/-- The block k holds the limbs of n. -/
def AtN (w : World) (k : Nat) (n : Int) : Prop := At4 w k (l0 n) (l1 n) (l2 n) (l3 n) ∧ Fz w k ∧ k < w.heap.size
/-- A number stored into the block k. -/
abbrev st4 (w : World) (k : Nat) (z : Int) : World := (((w.setCell ⟨k, 0, none⟩ (.int .u64 (l0 z))).setCell ⟨k, 1, none⟩ (.int .u64 (l1 z))).setCell ⟨k, 2, none⟩ (.int .u64 (l2 z))).setCell ⟨k, 3, none⟩ (.int .u64 (l3 z))
theorem AtN.mo {w w' : World} {k : Nat} {n : Int} (h : AtN w k n) (m : Mo w w') : AtN w' k n :=
  ⟨h.1.mo m h.2.2, h.2.1.mo m, Nat.lt_of_lt_of_le h.2.2 m.size⟩
theorem AtN.same {w : World} {k : Nat} {n : Int} (h : AtN w k n) (z : Int) : AtN (st4 w k z) k z := by
  obtain ⟨⟨b0, b1, b2, b3⟩, f, s⟩ := h
  refine ⟨by simp [At4, go_sem, *], fun o => by simp [World.frozen?_setCell, f o], by simpa [World.setCell] using s⟩
theorem AtN.other {w : World} {k j : Nat} {n : Int} (h : AtN w j n) (hk : j ≠ k) (z : Int) : AtN (st4 w k z) j n := by
  obtain ⟨⟨b0, b1, b2, b3⟩, f, s⟩ := h
  refine ⟨by simp [At4, go_sem, *], fun o => by simp [World.frozen?_setCell, f o], by simpa [World.setCell] using s⟩
theorem AtN.new (w : World) (n : Int) : AtN (w.alloc (.cells #[.int .u64 (l0 n), .int .u64 (l1 n), .int .u64 (l2 n), .int .u64 (l3 n)] 24)) w.heap.size n :=
  ⟨by simp [At4, go_sem], fun o => by simp [go_sem], by simp⟩
theorem Mo.st4 {a b : World} (h : Mo a b) {k : Nat} (hk : a.heap.size ≤ k) (z : Int) : Mo a (st4 b k z) :=
  (((h.setCell hk _).setCell hk _).setCell hk _).setCell hk _
/-- The blocks of the call: high, low, by, and the two results. -/
def VW (w wx : World) (h l d : Int) : Prop := Mo w wx ∧ AtN wx w.heap.size h ∧ AtN wx (w.heap.size + 1) l ∧ AtN wx (w.heap.size + 1 + 1) d ∧ AtN wx (w.heap.size + 1 + 1 + 1) 0 ∧ AtN wx (w.heap.size + 1 + 1 + 1 + 1) 0
theorem VW.mo {w wx w1 : World} {h l d : Int} (v : VW w wx h l d) (m : Mo wx w1) : VW w w1 h l d := by
  obtain ⟨v1, v2, v3, v4, v5, v6⟩ := v
  exact ⟨v1.trans m, v2.mo m, v3.mo m, v4.mo m, v5.mo m, v6.mo m⟩
theorem VW.setd {w wx : World} {h l d : Int} (v : VW w wx h l d) (z : Int) : VW w (st4 wx (w.heap.size + 1 + 1) z) h l z := by
  obtain ⟨v1, v2, v3, v4, v5, v6⟩ := v
  exact ⟨v1.st4 (by omega) z, v2.other (by omega) z, v3.other (by omega) z, v4.same z, v5.other (by omega) z, v6.other (by omega) z⟩
theorem VW.setl {w wx : World} {h l d : Int} (v : VW w wx h l d) (z : Int) : VW w (st4 wx (w.heap.size + 1) z) h z d := by
  obtain ⟨v1, v2, v3, v4, v5, v6⟩ := v
  exact ⟨v1.st4 (by omega) z, v2.other (by omega) z, v3.same z, v4.other (by omega) z, v5.other (by omega) z, v6.other (by omega) z⟩
theorem VW.setk {w wx : World} {h l d : Int} (v : VW w wx h l d) {k : Nat} (hk : w.heap.size + 1 + 1 + 1 + 1 < k) (z : Int) : VW w (st4 wx k z) h l d := by
  obtain ⟨v1, v2, v3, v4, v5, v6⟩ := v
  exact ⟨v1.st4 (by omega) z, v2.other (by omega) z, v3.other (by omega) z, v4.other (by omega) z, v5.other (by omega) z, v6.other (by omega) z⟩
theorem VW.start (w : World) (h l d : Int) : VW w (((((w.alloc (.cells #[.int .u64 (l0 h), .int .u64 (l1 h), .int .u64 (l2 h), .int .u64 (l3 h)] 24)).alloc (.cells #[.int .u64 (l0 l), .int .u64 (l1 l), .int .u64 (l2 l), .int .u64 (l3 l)] 24)).alloc (.cells #[.int .u64 (l0 d), .int .u64 (l1 d), .int .u64 (l2 d), .int .u64 (l3 d)] 24)).alloc (.cells #[.int .u64 0, .int .u64 0, .int .u64 0, .int .u64 0] 24)).alloc (.cells #[.int .u64 0, .int .u64 0, .int .u64 0, .int .u64 0] 24)) h l d := by
  have z0 : l0 0 = 0 := by decide
  have z1 : l1 0 = 0 := by decide
  have z2 : l2 0 = 0 := by decide
  have z3 : l3 0 = 0 := by decide
  refine ⟨(((((Mo.refl _).alloc _ _).alloc _ _).alloc _ _).alloc _ _).alloc _ _, ⟨by simp [At4, go_sem], fun o => by simp [go_sem], by simp <;> omega⟩, ⟨by simp [At4, go_sem], fun o => by simp [go_sem], by simp <;> omega⟩, ⟨by simp [At4, go_sem], fun o => by simp [go_sem], by simp <;> omega⟩, ⟨by simp [At4, go_sem, z0, z1, z2, z3], fun o => by simp [go_sem], by simp <;> omega⟩, ⟨by simp [At4, go_sem, z0, z1, z2, z3], fun o => by simp [go_sem], by simp <;> omega⟩⟩

/-- How far the divisor is from having its top bit set. -/
theorem dshift {D : Int} (h0 : 0 < D) (h : D < MM) : ∃ s : Nat, 256 - bln D = (s : Int) ∧ s ≤ 255 ∧ D * 2 ^ s < MM ∧ 57896044618658097711785492504343953926634992332820282019728792003956564819968 ≤ D * 2 ^ s := by
  obtain ⟨m, rfl⟩ := Int.eq_ofNat_of_zero_le (show 0 ≤ D by omega)
  have ne : m ≠ 0 := by omega
  have a1 := Nat.log2_self_le ne
  have a2 := @Nat.lt_log2_self m
  have lt : Nat.log2 m < 256 := (Nat.log2_lt ne).2 (by unfold MM at h; omega)
  refine ⟨255 - Nat.log2 m, ?_, by omega, ?_, ?_⟩
  · unfold bln; rw [if_neg (by omega), Int.toNat_natCast]; omega
  · have b : m * 2 ^ (255 - Nat.log2 m) < 2 ^ (Nat.log2 m + 1) * 2 ^ (255 - Nat.log2 m) := Nat.mul_lt_mul_of_pos_right a2 (Nat.pow_pos (by decide))
    rw [← Nat.pow_add, show Nat.log2 m + 1 + (255 - Nat.log2 m) = 256 from by omega] at b
    have e : ((m * 2 ^ (255 - Nat.log2 m) : Nat) : Int) = (m : Int) * 2 ^ (255 - Nat.log2 m) := by rw [Int.natCast_mul, cast_pow]
    rw [← e]
    generalize m * 2 ^ (255 - Nat.log2 m) = z at *
    unfold MM; omega
  · have b : 2 ^ Nat.log2 m * 2 ^ (255 - Nat.log2 m) ≤ m * 2 ^ (255 - Nat.log2 m) := Nat.mul_le_mul_right _ a1
    rw [← Nat.pow_add, show Nat.log2 m + (255 - Nat.log2 m) = 255 from by omega] at b
    have e : ((m * 2 ^ (255 - Nat.log2 m) : Nat) : Int) = (m : Int) * 2 ^ (255 - Nat.log2 m) := by rw [Int.natCast_mul, cast_pow]
    rw [← e]
    generalize m * 2 ^ (255 - Nat.log2 m) = z at *
    omega

theorem step_bd {P e D : Int} (h0 : 0 ≤ P) (h : P < D) (he : U1 e) : U1 ((P * 18446744073709551616 + e) / D) ∧ 0 ≤ (P * 18446744073709551616 + e) % D ∧ (P * 18446744073709551616 + e) % D < D ∧ D * ((P * 18446744073709551616 + e) / D) + (P * 18446744073709551616 + e) % D = P * 18446744073709551616 + e := by
  obtain ⟨a, b⟩ := he
  refine ⟨⟨Int.ediv_nonneg (by omega) (by omega), Int.ediv_lt_of_lt_mul (by omega) (by omega)⟩, Int.emod_nonneg _ (by omega), Int.emod_lt_of_pos _ (by omega), Int.mul_ediv_add_emod _ _⟩
/-- Four steps make the quotient and the rest. -/
theorem steps_eq {P4 P3 P2 P1 P0 q3 q2 q1 q0 low D : Int} (h0 : 0 ≤ P4) (h : P4 < D) (hl0 : 0 ≤ low) (hl : low < MM)
    (e3 : q3 = (P4 * 18446744073709551616 + l3 low) / D) (f3 : P3 = (P4 * 18446744073709551616 + l3 low) % D) (e2 : q2 = (P3 * 18446744073709551616 + l2 low) / D) (f2 : P2 = (P3 * 18446744073709551616 + l2 low) % D)
    (e1 : q1 = (P2 * 18446744073709551616 + l1 low) / D) (f1 : P1 = (P2 * 18446744073709551616 + l1 low) % D) (e0 : q0 = (P1 * 18446744073709551616 + l0 low) / D) (f0 : P0 = (P1 * 18446744073709551616 + l0 low) % D) :
    U4 q0 q1 q2 q3 ∧ (0 ≤ P3 ∧ P3 < D) ∧ (0 ≤ P2 ∧ P2 < D) ∧ (0 ≤ P1 ∧ P1 < D) ∧ (0 ≤ P0 ∧ P0 < D) ∧ vl q0 q1 q2 q3 = (P4 * MM + low) / D ∧ P0 = (P4 * MM + low) % D := by
  obtain ⟨u0, u1, u2, u3⟩ := u4_lb low
  obtain ⟨a3, b3, c3, d3⟩ := step_bd h0 h u3
  rw [← e3, ← f3] at d3; rw [← e3] at a3; rw [← f3] at b3 c3
  obtain ⟨a2, b2, c2, d2⟩ := step_bd b3 c3 u2
  rw [← e2, ← f2] at d2; rw [← e2] at a2; rw [← f2] at b2 c2
  obtain ⟨a1, b1, c1, d1⟩ := step_bd b2 c2 u1
  rw [← e1, ← f1] at d1; rw [← e1] at a1; rw [← f1] at b1 c1
  obtain ⟨a0, b0, c0, d0⟩ := step_bd b1 c1 u0
  rw [← e0, ← f0] at d0; rw [← e0] at a0; rw [← f0] at b0 c0
  have lw := vl_lb low hl0 hl
  have key : P4 * MM + low = P0 + D * vl q0 q1 q2 q3 := by
    have e : D * vl q0 q1 q2 q3 = D * q0 + 18446744073709551616 * (D * q1) + 340282366920938463463374607431768211456 * (D * q2) + 6277101735386680763835789423207666416102355444464034512896 * (D * q3) := by
      unfold vl; rw [Int.mul_add, Int.mul_add, Int.mul_add, Int.mul_left_comm, Int.mul_left_comm D _ q2, Int.mul_left_comm D _ q3]
    rw [e, ← lw]
    clear e e0 e1 e2 e3 f0 f1 f2 f3 lw
    unfold vl MM
    omega
  refine ⟨⟨a0, a1, a2, a3⟩, ⟨b3, c3⟩, ⟨b2, c2⟩, ⟨b1, c1⟩, ⟨b0, c0⟩, ?_, ?_⟩
  · rw [key, Int.add_mul_ediv_left _ _ (by omega), Int.ediv_eq_zero_of_lt b0 c0, Int.zero_add]
  · rw [key, Int.add_mul_emod_self_left, Int.emod_eq_of_lt b0 c0]
/-- Both sides shifted: the same quotient, the rest shifted. -/
theorem shifted {H L D : Int} {s : Nat} (hs : s ≤ 255) (hH : 0 ≤ H) (hHD : H < D) (hL0 : 0 ≤ L) (hL : L < MM) :
    0 ≤ H * 2 ^ s + L / 2 ^ (256 - s) ∧ H * 2 ^ s + L / 2 ^ (256 - s) < D * 2 ^ s ∧
    ((H * 2 ^ s + L / 2 ^ (256 - s)) * MM + L * 2 ^ s % MM) / (D * 2 ^ s) = (H * MM + L) / D ∧ ((H * 2 ^ s + L / 2 ^ (256 - s)) * MM + L * 2 ^ s % MM) % (D * 2 ^ s) / 2 ^ s = (H * MM + L) % D := by
  have hP : (0 : Int) < 2 ^ s := Int.pow_pos (by decide)
  have hQ : (0 : Int) < 2 ^ (256 - s) := Int.pow_pos (by decide)
  have hPQ : (2 : Int) ^ (256 - s) * 2 ^ s = MM := by rw [← Int.pow_add, show 256 - s + s = 256 from by omega]; decide
  have lq0 : 0 ≤ L / 2 ^ (256 - s) := Int.ediv_nonneg hL0 (by omega)
  have lq : L / 2 ^ (256 - s) < 2 ^ s := Int.ediv_lt_of_lt_mul hQ (by rw [Int.mul_comm, hPQ]; exact hL)
  have hy1 : (H + 1) * 2 ^ s ≤ D * 2 ^ s := Int.mul_le_mul_of_nonneg_right (by omega) (by omega)
  rw [Int.add_mul, Int.one_mul] at hy1
  have hiP : 0 ≤ H * 2 ^ s := Int.mul_nonneg hH (by omega)
  have lop : L * 2 ^ s / MM = L / 2 ^ (256 - s) := by rw [← hPQ]; exact Int.mul_ediv_mul_of_pos_left _ _ hP
  have whole : (H * 2 ^ s + L / 2 ^ (256 - s)) * MM + L * 2 ^ s % MM = (H * MM + L) * 2 ^ s := by
    rw [Int.add_mul (H * MM), Int.mul_right_comm H MM, ← lop, Int.add_mul]
    have := Int.mul_ediv_add_emod (L * 2 ^ s) MM
    rw [Int.mul_comm MM] at this
    omega
  have div1 : (H * MM + L) * 2 ^ s / (D * 2 ^ s) = (H * MM + L) / D := Int.mul_ediv_mul_of_pos_left _ _ hP
  refine ⟨by omega, by omega, ?_, ?_⟩
  · rw [whole, div1]
  · rw [whole, mod_sub, div1, mod_sub, ← Int.mul_assoc, ← Int.sub_mul, Int.mul_ediv_cancel _ (by omega)]
end Go.Proofs.Ytoiiekmkcpcbgaa
