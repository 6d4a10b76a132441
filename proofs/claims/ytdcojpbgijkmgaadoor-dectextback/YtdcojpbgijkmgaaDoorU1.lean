/-
  A part of the proof.
-/
import Derived.Test.YtdcojpbgijkmgaaDoorNum
import Derived.RegionTactic
import Derived.Test.YtdcojpbgijkmgaaDoorAid
import Derived.Deep.MidRow
import Derived.BigCall
import Derived.ScopeJumps
import Derived.WalkMore
import Derived.Shelf.Strings.Builder1
import Derived.Shelf.Strings.Builder2
import Derived.Shelf.Strings.Trim
import Derived.Shelf.Small.Wraps
import Derived.Shelf.Strings.BuilderF
import Derived.Shelf.Strings.Search1
import Derived.Shelf.Strings.Search2
import Derived.Shelf.Strings.Prefix
import Derived.Shelf.Strings.Repeat
import Derived.Test.YtdcojpbgijkmgaaDoorProg
import Derived.Test.YtdcojpbgijkmgaaDoorShelf
import Derived.Lib.CutLaws
import Derived.Lib.IndexBytes
/-
  limb.isDigits, whatever the text: the walk.
-/
namespace Go.Proofs.YtdcojpbgijkmgaaDoor
open Go.RowKit
/-- Is a byte a digit? -/
def isD (c : UInt8) : Bool := decide (48 ≤ (c.toNat : Int)) && decide ((c.toNat : Int) ≤ 57)
/-- Digits, with no 0 ahead of others. -/
def digs (l : List UInt8) : Bool := !(l.isEmpty) && !(decide (1 < l.length) && (l.headD 0 == 48)) && l.all isD
theorem take_snoc' (s : ByteArray) (k : Nat) (h : k < s.size) : s.data.toList.take (k + 1) = s.data.toList.take k ++ [s[k]] := by
  rw [List.take_succ_eq_append_getElem (by simpa using h)]; rfl
set_option maxHeartbeats 1000000 in
theorem isd_yes (s : ByteArray) (w : World) (hs : s.size ≤ maxLen) (h0 : s.toList.isEmpty = false) (hd : Hid (∀ (k : Nat) (h : k < s.size), 48 ≤ (s[k].toNat : Int) ∧ (s[k].toNat : Int) ≤ 57)) (hp : 0 < s.size) (hz : s.size = 1 ∨ ((s[0].toNat : Int) == 48) = false) :
    Calls Tryd.prog 52 #[.string s] w fun e w' => e = .returned (.bool true) ∧ w' = w := by
  unfold maxLen at hs
  rcases hz with hz | hz
  · have h1 : ¬ (1 < (s.size : Int)) := by omega
    clear hz
    go_enter Tryd.func52, Tryd.ntmps52
    go_wp2
    go_loop [18] (fun i => ∃ k : Nat, k ≤ s.size ∧ i = .int .i64 k) (fun i => s.size - (intOf i).toNat)
    case atStart => exact ⟨0, Nat.zero_le _, rfl⟩
    case round =>
      obtain ⟨k, hk, rfl⟩ := hrel
      by_cases hlt : k < s.size
      · obtain ⟨b1, b2⟩ := hd.out k hlt
        go_wp2
        go_round
        case rel => exact ⟨k + 1, by omega, by go_num⟩
        case measure => simp [intOf]; omega
      · go_wp2
        go_ret
        exact ⟨rfl, rfl⟩
  · by_cases h1 : 1 < (s.size : Int)
    all_goals
      go_enter Tryd.func52, Tryd.ntmps52
      go_wp2
      go_loop [18] (fun i => ∃ k : Nat, k ≤ s.size ∧ i = .int .i64 k) (fun i => s.size - (intOf i).toNat)
      case atStart => exact ⟨0, Nat.zero_le _, rfl⟩
      case round =>
        obtain ⟨k, hk, rfl⟩ := hrel
        by_cases hlt : k < s.size
        · obtain ⟨b1, b2⟩ := hd.out k hlt
          go_wp2
          go_round
          case rel => exact ⟨k + 1, by omega, by go_num⟩
          case measure => simp [intOf]; omega
        · go_wp2
          go_ret
          exact ⟨rfl, rfl⟩
end Go.Proofs.YtdcojpbgijkmgaaDoor
/-
  dectext's isDigit and byteAt, and the document's digit.
-/
namespace Go.Proofs.YtdcojpbgijkmgaaDoor
open Go.RowKit
/-- A number between those of 0 and of 9. -/
def dgt (c : Int) : Bool := decide (48 ≤ c) && decide (c ≤ 57)
theorem isDigit_n (c : Int) (w : World) : Calls Tryd.prog 38 #[.int .u8 c] w fun e w' => e = .returned (.bool (dgt c)) ∧ Mo w w' := by
  unfold dgt
  by_cases h : 48 ≤ c <;> by_cases h2 : c ≤ 57
  all_goals
    go_enter Tryd.func38, Tryd.ntmps38
    go_wp2
    go_ret
    exact ⟨by simp [h, h2], Mo.refl _⟩
theorem digit_n (c : Int) (w : World) : Calls Tryd.prog 32 #[.int .u8 c] w fun e w' => e = .returned (.bool (dgt c)) ∧ Mo w w' := by
  unfold dgt
  by_cases h : 48 ≤ c <;> by_cases h2 : c ≤ 57
  all_goals
    go_enter Tryd.func32, Tryd.ntmps32
    go_wp2
    go_ret
    exact ⟨by simp [h, h2], Mo.refl _⟩
/-- The byte at a place; 0 behind the end. -/
def bt (s : ByteArray) (k : Nat) : Int := if h : k < s.size then (s[k].toNat : Int) else 0
theorem bt_in {s : ByteArray} {k : Nat} (h : k < s.size) : bt s k = (s[k].toNat : Int) := by unfold bt; rw [dif_pos h]
theorem bt_out {s : ByteArray} {k : Nat} (h : ¬ k < s.size) : bt s k = 0 := by unfold bt; rw [dif_neg h]
theorem byteAt_n (s : ByteArray) (k : Nat) (w : World) : Calls Tryd.prog 37 #[.string s, .int .i64 (k : Int)] w fun e w' => e = .returned (.int .u8 (bt s k)) ∧ Mo w w' := by
  by_cases h : k < s.size
  · rw [bt_in h]
    have h1 : (k : Int) < (s.size : Int) := by omega
    go_enter Tryd.func37, Tryd.ntmps37
    go_wp2
    go_ret
    exact ⟨rfl, Mo.refl _⟩
  · rw [bt_out h]
    have h1 : ¬ (k : Int) < (s.size : Int) := by omega
    go_enter Tryd.func37, Tryd.ntmps37
    go_wp2
    go_ret
    exact ⟨rfl, Mo.refl _⟩
end Go.Proofs.YtdcojpbgijkmgaaDoor
/-
  A region whose operations come in any order: what each of them yields, and that none of them spoils what another has yielded, said once for each operation.
-/
namespace Go.Proofs.YtdcojpbgijkmgaaDoor
section
variable {P : Program} {ops : Array Oper} {Q : Exit → Act → World → Prop} {md : Region.Mode}
theorem count_set : ∀ (l : List Bool) (i : Nat), l[i]? = some false → (l.set i true).count false + 1 = l.count false
  | [], _, h => by cases h
  | b :: l, 0, h => by simp at h; subst h; simp
  | b :: l, i + 1, h => by
    have := count_set l i (by simpa using h)
    simp only [List.set_cons_succ, List.count_cons]
    omega
/-- Edges go back. -/
def edgesBack (md : Region.Mode) (ops : Array Oper) : Bool :=
  (List.range ops.size).all fun i => match ops[i]? with | some o => o.after.all (fun e => !Region.binds md e || decide (e.on < i)) | none => true
theorem edgesBack_spec (h : edgesBack md ops = true) {i : Nat} {o : Oper} (ho : ops[i]? = some o) : ∀ e ∈ o.after, Region.binds md e = true → e.on < i := by
  intro e he hb
  have h1 := List.all_eq_true.1 h i (List.mem_range.2 (Array.getElem?_eq_some_iff.1 ho).1)
  simp only [ho] at h1
  have h2 := Array.all_eq_true_iff_forall_mem.1 h1 e he
  simpa [hb] using h2
theorem all_listed (hb : edgesBack md ops = true) {listed : Array Bool} (hr : Region.ready md ops listed = []) : ∀ i, i < ops.size → listed.getD i true = true := by
  intro i
  induction i using Nat.strongRecOn with
  | ind i ih =>
    intro hi
    cases hl : listed.getD i true with
    | true => rfl
    | false =>
      have hm : i ∈ Region.ready md ops listed := mem_ready.2 ⟨hl, ops[i], by simp [hi], fun e he hbd => by
        have hlt := edgesBack_spec hb (i := i) (o := ops[i]) (by simp [hi]) e he hbd
        have h1 := ih e.on hlt (Nat.lt_trans hlt hi)
        have hsz : i < listed.size := by
          rcases Nat.lt_or_ge i listed.size with h' | h'
          · exact h'
          · simp [Array.getElem?_eq_none h'] at hl
        have : e.on < listed.size := Nat.lt_trans hlt hsz
        simpa [this] using h1⟩
      rw [hr] at hm; cases hm
/-- An invariant over what has come up. -/
theorem wpAny_inv (I : Array Bool → Act → World → Prop) (hb : edgesBack md ops = true)
    (hstep : ∀ listed a w i o, I listed a w → ops[i]? = some o → listed.getD i true = false → (∀ e ∈ o.after, Region.binds md e = true → listed.getD e.on false = true) → wpOp P ops Q i (I (listed.setIfInBounds i true)) a w)
    (hend : ∀ listed a w, I listed a w → (∀ i, i < ops.size → listed.getD i true = true) → Q .normal a w) :
    ∀ (fuel : Nat) (listed : Array Bool) (a : Act) (w : World), listed.toList.count false ≤ fuel → I listed a w → wpAny P md ops Q fuel listed a w := by
  intro fuel
  induction fuel with
  | zero =>
    intro listed a w hc hI
    have hr : Region.ready md ops listed = [] := by
      rw [List.eq_nil_iff_forall_not_mem]
      intro i hi
      obtain ⟨h0, _⟩ := mem_ready.1 hi
      have : false ∈ listed.toList := by
        rcases Nat.lt_or_ge i listed.size with h' | h'
        · simp [h'] at h0; rw [← h0]; simp
        · simp [Array.getElem?_eq_none h'] at h0
      have := List.count_pos_iff.2 this
      omega
    exact ⟨hr, hend _ _ _ hI (all_listed hb hr)⟩
  | succ fuel ih =>
    intro listed a w hc hI
    refine ⟨fun hr => hend _ _ _ hI (all_listed hb hr), fun i hi => ?_⟩
    obtain ⟨h0, o, ho, hall⟩ := mem_ready.1 hi
    refine wpOp_mono (fun a' w' h' => ih _ a' w' ?_ h') (hstep _ _ _ _ _ hI ho h0 hall)
    have h1 : listed.toList[i]? = some false := by
      rcases Nat.lt_or_ge i listed.size with h' | h'
      · simp [h'] at h0; simp [h', h0]
      · simp [Array.getElem?_eq_none h'] at h0
    have := count_set _ _ h1
    simp only [Array.toList_setIfInBounds]
    omega
/-- What each operation yields. -/
def upd (f : Nat → Value) (i : Nat) (v : Value) : Nat → Value := fun j => if j = i then v else f j
/-- One operation, whatever of the others has come up: it yields v with R i v, keeps G and each R of another. -/
def OgStep (P : Program) (md : Region.Mode) (ops : Array Oper) (Q : Exit → Act → World → Prop) (A : (Nat → Value) → Act) (G : (Nat → Value) → World → Prop) (R : Nat → (Nat → Value) → World → Prop) (i : Nat) (o : Oper) : Prop :=
  ∀ f w, G f w → (∀ e ∈ o.after, Region.binds md e = true → R e.on f w) → ∀ K : Act → World → Prop,
    (∀ v w', G (upd f i v) w' → R i (upd f i v) w' → (∀ j, j ≠ i → R j f w → R j (upd f i v) w') → K ((A f).put o.dst v) w') →
    if Region.wanted o (yielded ops (A f).tmps) = true then Oper.wp P o (A f) w K Q else K ((A f).put o.dst undef) w
theorem wpAny_og (A : (Nat → Value) → Act) (G : (Nat → Value) → World → Prop) (R : Nat → (Nat → Value) → World → Prop) (hb : edgesBack md ops = true)
    (hA : ∀ i o, ops[i]? = some o → ∀ f v, (A f).put o.dst v = A (upd f i v))
    (hs : ∀ i o, ops[i]? = some o → OgStep P md ops Q A G R i o)
    (hend : ∀ f w, G f w → (∀ i, i < ops.size → R i f w) → Q .normal (A f) w)
    (f : Nat → Value) (w : World) (hG : G f w) : wpAny P md ops Q ops.size (Array.replicate ops.size false) (A f) w := by
  refine wpAny_inv (fun listed a w => listed.size = ops.size ∧ ∃ f, G f w ∧ a = A f ∧ ∀ i, listed.getD i false = true → R i f w) hb ?_ ?_ _ _ _ _ ?_ ⟨by simp, f, hG, rfl, fun i hi => ?_⟩
  · rintro listed a w i o ⟨hz, f, hG, rfl, hR⟩ ho h0 hall
    refine wpOp_step ho (fun K hK => hs i o ho f w hG (fun e he hbd => hR _ (hall e he hbd)) K (fun v w' hG' hi' hj' => hK _ _ ⟨by simpa using hz, upd f i v, hG', hA i o ho f v, fun j hj => ?_⟩))
    by_cases hji : j = i
    · subst hji; exact hi'
    · rw [getD_set_ne false (Ne.symm hji)] at hj
      exact hj' j hji (hR j hj)
  · rintro listed a w ⟨hz, f, hG, rfl, hR⟩ hall
    refine hend f w hG (fun i hi => hR i ?_)
    have h1 := hall i hi
    have : i < listed.size := by omega
    simpa [this] using h1
  · simp
  · exfalso
    rcases Nat.lt_or_ge i ops.size with h' | h'
    · simp [h'] at hi
    · simp [h'] at hi

/-- Something of each operation, with its number. -/
def Each (F : Nat → Oper → Prop) : Nat → List Oper → Prop
  | _, [] => True
  | i, o :: l => F i o ∧ Each F (i + 1) l
theorem Each.spec {F : Nat → Oper → Prop} : ∀ (l : List Oper) (n : Nat), Each F n l → ∀ i o, l[i]? = some o → F (n + i) o
  | [], _, _, i, o, h => by cases h
  | x :: l, n, hh, 0, o, h => by simp at h; subst h; exact hh.1
  | x :: l, n, hh, i + 1, o, h => by
    have := Each.spec l (n + 1) hh.2 i o (by simpa using h)
    rwa [show n + (i + 1) = n + 1 + i by omega]
/-- The frame in which each operation's slot holds what f says. -/
def putAll (f : Nat → Value) : Nat → List Oper → Act → Act
  | _, [], a => a
  | i, o :: l, a => putAll f (i + 1) l (a.put o.dst (f i))
theorem putAll_congr {f g : Nat → Value} : ∀ (l : List Oper) (n : Nat) (a : Act), (∀ j, n ≤ j → f j = g j) → putAll f n l a = putAll g n l a
  | [], _, _, _ => rfl
  | o :: l, n, a, h => by
    unfold putAll
    rw [h n (Nat.le_refl _)]
    exact putAll_congr l (n + 1) _ (fun j hj => h j (by omega))
/-- No two operations write one slot. -/
def dstsApart : List Oper → Bool
  | [] => true
  | o :: l => (match o.dst with | none => true | some d => l.all fun x => x.dst != some d) && dstsApart l
theorem putAll_out (f : Nat → Value) (v : Value) (dst : Option Tmp) : ∀ (l : List Oper) (n : Nat) (a : Act), (∀ d, dst = some d → ∀ x ∈ l, x.dst ≠ some d) → (putAll f n l a).put dst v = putAll f n l (a.put dst v)
  | [], _, _, _ => rfl
  | o :: l, n, a, h => by
    unfold putAll
    rw [putAll_out f v dst l (n + 1) _ (fun d hd x hx => h d hd x (List.mem_cons_of_mem _ hx))]
    rw [Act.put_comm a (x := o.dst) (y := dst) (f n) v (fun d hd he => h d he o List.mem_cons_self hd)]
theorem put_twice (a : Act) (d : Option Tmp) (u v : Value) : (a.put d u).put d v = a.put d v := by
  cases d with
  | none => rfl
  | some d => simp [Act.put]
theorem putAll_put (v : Value) : ∀ (l : List Oper) (n : Nat) (f : Nat → Value) (a : Act), dstsApart l = true → ∀ i o, l[i]? = some o → (putAll f n l a).put o.dst v = putAll (upd f (n + i) v) n l a
  | [], _, _, _, _, i, o, h => by cases h
  | x :: l, n, f, a, hd, 0, o, h => by
    simp at h; subst h
    simp only [dstsApart, Bool.and_eq_true] at hd
    unfold putAll
    rw [putAll_out f v x.dst l (n + 1) _ (fun d hx y hy => by
      have h1 := hd.1
      rw [hx] at h1
      have := List.all_eq_true.1 h1 y hy
      simpa using this)]
    rw [put_twice]
    have e : upd f (n + 0) v n = v := by simp [upd]
    rw [e]
    exact putAll_congr l (n + 1) _ (fun j hj => by simp only [upd]; rw [if_neg (by omega)])
  | x :: l, n, f, a, hd, i + 1, o, h => by
    simp only [dstsApart, Bool.and_eq_true] at hd
    unfold putAll
    rw [putAll_put v l (n + 1) f _ hd.2 i o (by simpa using h)]
    have e : upd f (n + (i + 1)) v n = f n := by simp only [upd]; rw [if_neg (by omega)]
    rw [e, show n + 1 + i = n + (i + 1) by omega]
/-- What lies in the slots. -/
def slots (a : Act) (ops : Array Oper) : Nat → Value := fun i => match (ops[i]?).bind (·.dst) with | some d => a.tmps.getD d undef | none => undef
theorem put_self (a : Act) (d : Option Tmp) (v : Value) (h : ∀ t, d = some t → v = a.tmps.getD t undef) : a.put d v = a := by
  cases d with
  | none => rfl
  | some t =>
    have := h t rfl
    subst this
    obtain ⟨ts, ds⟩ := a
    simp only [Act.put]
    congr 1
    apply Array.ext
    · simp
    · intro j h1 h2
      by_cases e : t = j
      · subst e; simp [h2]
      · simp [Array.getElem_setIfInBounds_ne, e, h2]
theorem putAll_self (a : Act) : ∀ (l : List Oper) (n : Nat) (f : Nat → Value), (∀ i o, l[i]? = some o → ∀ t, o.dst = some t → f (n + i) = a.tmps.getD t undef) → putAll f n l a = a
  | [], _, _, _ => rfl
  | o :: l, n, f, h => by
    unfold putAll
    rw [put_self a o.dst (f n) (fun t ht => h 0 o rfl t ht)]
    exact putAll_self a l (n + 1) f (fun i x hx t ht => by
      have := h (i + 1) x (by simpa using hx) t ht
      rwa [show n + (i + 1) = n + 1 + i by omega] at this)
/-- A region that asks for its order, operation by operation. -/
theorem wp_region_og {id : Nat} {l : List Oper} {a : Act} {w : World} (G : (Nat → Value) → World → Prop) (R : Nat → (Nat → Value) → World → Prop) (hm : P.follows .mixedOrders = true)
    (hb : edgesBack .any l.toArray = true) (hd : dstsApart l = true) (hG : G (slots a l.toArray) w.drew)
    (hs : Each (fun i o => OgStep P .any l.toArray Q (fun f => putAll f 0 l a) G R i o) 0 l)
    (hend : ∀ f w, G f w → (∀ i, i < l.length → R i f w) → Q .normal (putAll f 0 l a) w) : (Code.region id l.toArray true).wp P Q a w := by
  refine wp_region_any hm ?_
  have h0 : putAll (slots a l.toArray) 0 l a = a := putAll_self a l 0 _ (fun i o ho t ht => by simp [slots, ho, ht])
  have := wpAny_og (P := P) (Q := Q) (ops := l.toArray) (md := .any) (fun f => putAll f 0 l a) G R hb
    (fun i o ho f v => by have := putAll_put v l 0 f a hd i o (by simpa using ho); simpa using this)
    (fun i o ho => by have := Each.spec l 0 hs i o (by simpa using ho); simpa using this)
    (fun f w hG hR => hend f w hG (fun i hi => hR i (by simpa using hi))) (slots a l.toArray) w.drew hG
  simp only [h0] at this
  exact this
end
end Go.Proofs.YtdcojpbgijkmgaaDoor
/-
  A walk step by step: each operation by its own law, the world behind it a letter, a block's cells one row.
-/
namespace Go.Proofs.YtdcojpbgijkmgaaDoor
open Go.RowKit
/-- The address of a block's cell. -/
abbrev pt (k o : Nat) : Value := .pointer (some ⟨k, o, none⟩)
/-- The block k holds these cells. -/
def At (w : World) (k : Nat) (vs : List Value) : Prop := w.rangeAt k 0 vs ∧ Fz w k ∧ k < w.heap.size
theorem At.lt {w : World} {k : Nat} {vs : List Value} (h : At w k vs) : k < w.heap.size := h.2.2
theorem At.mo {w w' : World} {k : Nat} {vs : List Value} (h : At w k vs) (m : Mo w w') : At w' k vs :=
  ⟨fun j v hv => (m.cell k _ h.2.2).trans (h.1 j v hv), h.2.1.mo m, Nat.lt_of_lt_of_le h.2.2 m.size⟩
theorem At.cell {w : World} {k : Nat} {vs : List Value} (h : At w k vs) {j : Nat} {v : Value} (hv : vs[j]? = some v) : w.cell? ⟨k, j, none⟩ = some v := by
  have := h.1 j v hv; simpa using this
theorem At.there {w : World} {k : Nat} {vs : List Value} (h : At w k vs) (o n : Nat) (hn : o + n ≤ vs.length) : w.there k o n := fun j hj => by
  refine ⟨?_, h.2.1 _⟩
  rw [h.cell (j := o + j) (v := vs[o + j]'(by omega)) (List.getElem?_eq_getElem (by omega))]; rfl
theorem At.new (w : World) (cs : Array Value) (t : TypeId) : At (w.alloc (.cells cs t)) w.heap.size cs.toList := by
  refine ⟨fun j v hv => ?_, fun o => ?_, by simp⟩
  · simp at hv; simp [go_sem, hv]
  · simp [go_sem]
theorem sz_setCells (k : Nat) : ∀ (l : List Value) (o : Nat) (w : World), (w.setCells k o l).heap.size = w.heap.size
  | [], _, _ => rfl
  | v :: r, o, w => by rw [World.setCells, sz_setCells k r]; simp [World.setCell]
theorem Mo.setCs {a : World} {k : Nat} (hk : a.heap.size ≤ k) : ∀ (l : List Value) (o : Nat) (b : World), Mo a b → Mo a (b.setCells k o l)
  | [], _, _, h => h
  | v :: r, o, b, h => by rw [World.setCells]; exact Mo.setCs hk r (o + 1) _ (h.setCell hk v)
/-- What a store into the block k leaves as it was. -/
structure St (k : Nat) (w w' : World) : Prop where
  size : w'.heap.size = w.heap.size
  other : ∀ j vs, j ≠ k → At w j vs → At w' j vs
  mo : ∀ a : World, a.heap.size ≤ k → Mo a w → Mo a w'
theorem St.mk' (w : World) (k o : Nat) (l : List Value) : St k w (w.setCells k o l) where
  size := sz_setCells k l o w
  other := fun j vs hj h => ⟨World.rangeAt_setCells_apart h.1 k o l (Or.inl hj), fun o' => by rw [World.frozen?_setCells]; exact h.2.1 o', by rw [sz_setCells]; exact h.2.2⟩
  mo := fun a ha h => Mo.setCs ha l o w h
theorem At.set {w : World} {k : Nat} {us : List Value} (h : At w k us) (o : Nat) (l : List Value) (hl : o + l.length ≤ us.length) (vs : List Value) (hvs : vs = us.take o ++ l ++ us.drop (o + l.length)) : At (w.setCells k o l) k vs := by
  subst hvs
  refine ⟨fun j v hv => ?_, fun o' => by rw [World.frozen?_setCells]; exact h.2.1 o', by rw [sz_setCells]; exact h.2.2⟩
  rw [Nat.zero_add]
  by_cases h1 : j < o
  · rw [World.cell?_setCells_out k l o w _ (fun _ _ => Or.inl h1)]
    refine h.cell ?_
    rw [List.append_assoc, List.getElem?_append_left (by simp; omega), List.getElem?_take_of_lt h1] at hv
    exact hv
  · by_cases h2 : j < o + l.length
    · rw [List.append_assoc, List.getElem?_append_right (by simp; omega), List.getElem?_append_left (by simp; omega)] at hv
      have := World.cell?_setCells_in k l o w (fun i hi => (h.there o l.length hl i hi).1) (j - o) (by omega)
      rw [show o + (j - o) = j by omega] at this
      rw [this, ← hv]
      rw [List.length_take, show min o us.length = o by omega, List.getElem?_eq_getElem (by omega)]
    · rw [World.cell?_setCells_out k l o w _ (fun _ _ => Or.inr (by show o + l.length ≤ j; omega))]
      refine h.cell ?_
      rw [List.getElem?_append_right (by simp; omega), List.getElem?_drop] at hv
      rw [← hv]
      congr 1
      simp
      omega
section runs
variable {P : Program} {w : World} {k : Nat} {vs : List Value}
theorem run_row (h : At w k vs) (ty : TypeId) (o n : Nat) (us : List Value) (hus : us = (vs.drop o).take n) {d : TypeDesc} (hu : P.underlying ty = some d) (hd : d.isRow = true) (hi : (P.info? ty).map (·.size) = some us.length) :
    (Instr.loadAt ty (pt k o)).run P w = .ok (.agg us.toArray) w :=
  run_loadAt_mid w k o ty us d (fun j v hv => by
    subst hus
    refine h.cell ?_
    rw [List.getElem?_take] at hv
    split at hv
    · rw [List.getElem?_drop] at hv; exact hv
    · cases hv) hu hd hi
theorem run_one (h : At w k vs) (ty : TypeId) (o : Nat) {v : Value} (hv : vs[o]? = some v) {d : TypeDesc} (hu : P.underlying ty = some d) (hd : d.isRow = false) :
    (Instr.loadAt ty (pt k o)).run P w = .ok v w := by
  have hagg : (isAgg ty).run P w = .ok false w := by
    unfold isAgg
    rw [Sem.run_bind, run_underlying hu w]
    cases d <;> simp_all
  have hc := h.cell hv
  simp [Instr.loadAt, Instr.sureAddr, loadVar, Sem.run_bind, hagg, hc]
theorem run_put (h : At w k vs) (ty : TypeId) (o : Nat) (us : Array Value) (hl : o + us.size ≤ vs.length) (hi : (P.info? ty).map (·.size) = some us.size) (h1 : us.all (·.oneCell') = true) :
    (Instr.storeAt ty (pt k o) (.agg us)).run P w = .ok () (w.setCells k o us.toList) :=
  run_storeAt_mid w k o ty us (h.there o us.size hl) hi h1
theorem run_put1 (h : At w k vs) (ty : TypeId) (o : Nat) (v : Value) (hl : o < vs.length) (hi : (P.info? ty).map (·.size) = some 1) (hv : v.cells = #[v]) (h1 : v.oneCell' = true) :
    (Instr.storeAt ty (pt k o) v).run P w = .ok () (w.setCells k o [v]) := by
  have ht := h.there o 1 (by omega)
  have := run_storeCells_cells (P := P) k o [v] 0 w (fun j hj => by simpa using (ht j (by simpa using hj)).1) (fun j hj => by simpa using (ht j (by simpa using hj)).2)
    (fun u hu => by simp at hu; subst hu; exact h1)
  cases hq : P.info? ty with
  | none => simp [hq] at hi
  | some i =>
    have hs : i.size = 1 := by simpa [hq] using hi
    simp only [Nat.add_zero] at this
    simp [Instr.storeAt, Instr.sureAddr, storeVar, sizeOf, typeInfo, hq, hv, hs, this]
end runs
/-! Frames as lists of what was put where, the last first. -/
theorem blt_f {t n : Nat} (h : ¬ t < n) : Nat.blt t n = false := by
  cases e : Nat.blt t n with
  | false => rfl
  | true => rw [Nat.blt_eq] at e; exact absurd e h
theorem beq_f {d j : Nat} (h : ¬ d = j) : Nat.beq d j = false := by
  cases e : Nat.beq d j with
  | false => rfl
  | true => exact absurd (Nat.eq_of_beq_eq_true e) h
def look : List (Nat × Value) → Nat → Value
  | [], _ => undef
  | (d, v) :: l, t => bif Nat.beq d t then v else look l t
def fr (n : Nat) (l : List (Nat × Value)) : Act := { tmps := Array.ofFn (n := n) fun i => look l i, defers := [] }
def ext (l : List (Nat × Value)) : Option Tmp → Value → List (Nat × Value)
  | some d, v => (d, v) :: l
  | none, _ => l
/-- What an operand is. -/
def evl (n : Nat) (l : List (Nat × Value)) : Operand → Value
  | .tmp t => bif Nat.blt t n then look l t else undef
  | .const v => v
  | .global g => .pointer (some ⟨g, 0, none⟩)
  | .func f => .func (.func f) #[] #[]
theorem fr_getD (n : Nat) (l : List (Nat × Value)) (t : Nat) : (fr n l).tmps.getD t undef = bif Nat.blt t n then look l t else undef := by
  unfold fr
  by_cases h : t < n
  · have e : Nat.blt t n = true := by simpa using h
    simp [h, e]
  · have e := blt_f h
    simp [h, e]
theorem fr_eval (n : Nat) (l : List (Nat × Value)) : (fr n l).eval = evl n l := by
  funext x
  cases x with
  | tmp t => exact fr_getD n l t
  | _ => rfl
theorem fr_put (n : Nat) (l : List (Nat × Value)) (d : Option Tmp) (v : Value) : (fr n l).put d v = fr n (ext l d v) := by
  cases d with
  | none => rfl
  | some d =>
    simp only [fr, Act.put, ext]
    congr 1
    apply Array.ext
    · simp
    · intro j h1 h2
      simp at h1
      by_cases e : d = j
      · subst e; simp [look]
      · have := beq_f e
        rw [Array.getElem_setIfInBounds_ne (by simpa using h1) e]
        simp [look, this]
/-- Is an operation wanted? -/
def wnt (n : Nat) (l : List (Nat × Value)) (ops : Array Oper) (o : Oper) : Bool :=
  match o.guard with
  | none => true
  | some (j, want) => (match (ops[j]?).bind (·.dst) with
    | some t => (bif Nat.blt t n then (match look l t with | .bool b => some b | _ => none) else none)
    | none => none) == some want
theorem fr_wanted (n : Nat) (l : List (Nat × Value)) (ops : Array Oper) (o : Oper) : Region.wanted o (yielded ops (fr n l).tmps) = wnt n l ops o := by
  unfold Region.wanted wnt
  cases o.guard with
  | none => rfl
  | some g =>
    obtain ⟨j, want⟩ := g
    simp only [yielded]
    cases (ops[j]?).bind (·.dst) with
    | none => rfl
    | some t =>
      by_cases h : t < n
      · have e : Nat.blt t n = true := by simpa using h
        simp [fr, h, e]
        cases look l t <;> rfl
      · have e := blt_f h
        simp [fr, h, e]
/-- The arguments in their slots. -/
def argl : Nat → List Value → List (Nat × Value)
  | _, [] => []
  | i, v :: r => (i, v) :: argl (i + 1) r
theorem look_argl : ∀ (vs : List Value) (i t : Nat), look (argl i vs) t = if i ≤ t then (vs[t - i]?).getD undef else undef
  | [], i, t => by simp [argl, look]
  | v :: r, i, t => by
    have ih := look_argl r (i + 1) t
    by_cases e : i = t
    · subst e; simp [argl, look]
    · have hb := beq_f e
      simp only [argl, look, hb, cond_false, ih]
      by_cases h : i + 1 ≤ t
      · rw [if_pos h, if_pos (by omega), show t - i = (t - (i + 1)) + 1 by omega, List.getElem?_cons_succ]
      · rw [if_neg h, if_neg (by omega)]
theorem fr_args (n : Nat) (args : Array Value) (h : args.size ≤ n) : ({ tmps := args ++ Array.replicate (n - args.size) undef, defers := [] } : Act) = fr n (argl 0 args.toList) := by
  unfold fr
  congr 1
  apply Array.ext
  · simp; omega
  · intro j h1 h2
    simp at h2
    simp only [Array.getElem_ofFn, look_argl, Nat.zero_le, if_true, Nat.sub_zero]
    by_cases hj : j < args.size
    · rw [Array.getElem_append_left hj]; simp [hj]
    · rw [Array.getElem_append_right (by omega)]; simp [Nat.le_of_not_lt hj]
theorem f_enter {P : Program} {f : FuncId} {fn : Func} {c : Code} {args : Array Value} {w : World} {R : Ending → World → Prop} (n : Nat) (hf : P.funcs[f]? = some fn) (hn : fn.ntmps = n) (hb : fn.body = some c)
    (ha : Nat.ble args.size n = true) (h : c.wp P (bodyPost P fn R) (fr n (argl 0 args.toList)) w) : Calls P f args w R := by
  refine calls_of_wp hf hb ?_
  rw [hn, fr_args n args (by simpa using ha)]
  exact h
/-- One of the results. -/
def resv (n : Nat) (l : List (Nat × Value)) (P : Program) (w : World) (v : Value) : ResultVar → Prop
  | .tmp t => (bif Nat.blt t n then look l t else undef) = v
  | .cell a t => ∃ k : Nat, (bif Nat.blt a n then look l a else undef) = pt k 0 ∧ (Instr.loadAt t (pt k 0)).run P w = .ok v w
theorem resv_tmp {n : Nat} {l : List (Nat × Value)} {P : Program} {w : World} {v : Value} {t : Tmp} (h : resv n l P w v (.tmp t)) : (fr n l).tmps[t]?.getD undef = v := by
  have := fr_getD n l t
  simp only [Array.getD_eq_getD_getElem?] at this
  rw [this]; exact h
theorem resv_cell {n : Nat} {l : List (Nat × Value)} {P : Program} {w : World} {v : Value} {a : Tmp} {t : TypeId} (h : resv n l P w v (.cell a t)) : ∃ k : Nat, (fr n l).tmps[a]?.getD undef = pt k 0 ∧ (loadVar t ⟨k, 0, none⟩).run P w = .ok v w := by
  obtain ⟨k, h1, h2⟩ := h
  refine ⟨k, ?_, by simpa only [Instr.loadAt, Instr.sureAddr, Sem.run_bind, Sem.run_pure, Result.andThen_ok] using h2⟩
  have := fr_getD n l a
  simp only [Array.getD_eq_getD_getElem?] at this
  rw [this]; exact h1
theorem Each.mono {F G : Nat → Oper → Prop} (h : ∀ i o, F i o → G i o) : ∀ (l : List Oper) (n : Nat), Each F n l → Each G n l
  | [], _, _ => trivial
  | _ :: l, n, hh => ⟨h _ _ hh.1, Each.mono h l (n + 1) hh.2⟩
/-! The laws of the steps. -/
section steps
variable {P : Program} {o : Oper} {n : Nat} {l : List (Nat × Value)} {w : World} {ops : Array Oper} {rest : List Oper} {Q : Exit → Act → World → Prop} {K : Act → World → Prop}
theorem o_val {w' : World} (v : Value) (h : (execOp (evl n l) o).run P w = .ok (.value v) w') (hk : K (fr n (ext l o.dst v)) w') : o.wp P (fr n l) w K Q := by
  unfold Oper.wp; rw [fr_eval, h, Oper.upon_value, fr_put]; exact hk
theorem o_load (ty : TypeId) (x : Operand) (p v : Value) (ho : o.op = .load ty x) (hx : evl n l x = p) (h : (Instr.loadAt ty p).run P w = .ok v w) (hk : K (fr n (ext l o.dst v)) w) : o.wp P (fr n l) w K Q := by
  refine o_val v ?_ hk
  subst hx
  simp [execOp, ho, h]
theorem o_store (ty : TypeId) (x y : Operand) (p v : Value) {w' : World} (ho : o.op = .store ty x y) (hd : o.dst = none) (hx : evl n l x = p) (hy : evl n l y = v) (h : (Instr.storeAt ty p v).run P w = .ok () w') (hk : K (fr n l) w') : o.wp P (fr n l) w K Q := by
  subst hx hy
  have e : (execOp (evl n l) o).run P w = .ok .skip w' := by simp [execOp, ho, h]
  unfold Oper.wp; rw [fr_eval, e, Oper.upon_skip, hd]; exact hk
theorem o_alloc (ty : TypeId) (zs : Array Value) (ho : o.op = .alloc ty) (h : ∀ w, (Instr.alloc ty true (.tuple #[])).run P w = .ok (pt w.heap.size 0) (w.alloc (.cells zs ty)))
    (hk : ∀ k w', w.heap.size = k → w'.heap.size = k + 1 → Mo w w' → At w' k zs.toList → K (fr n (ext l o.dst (pt k 0))) w') : o.wp P (fr n l) w K Q := by
  refine o_val (pt w.heap.size 0) (w' := w.alloc (.cells zs ty)) ?_ (hk _ _ rfl (by simp) ((Mo.refl _).alloc _ _) (At.new w zs ty))
  simp [execOp, ho, h]
theorem o_box (ty : TypeId) (x : Operand) (v : Value) (cs : Array Value) (ho : o.op = .box ty x) (hx : evl n l x = v) (h : ∀ w, (Instr.box ty v).run P w = .ok (pt w.heap.size 0) (w.alloc (.cells cs ty)))
    (hk : ∀ k w', w.heap.size = k → w'.heap.size = k + 1 → Mo w w' → At w' k cs.toList → K (fr n (ext l o.dst (pt k 0))) w') : o.wp P (fr n l) w K Q := by
  subst hx
  refine o_val (pt w.heap.size 0) (w' := w.alloc (.cells cs ty)) ?_ (hk _ _ rfl (by simp) ((Mo.refl _).alloc _ _) (At.new w cs ty))
  simp [execOp, ho, h]
theorem o_call (g : FuncId) (xs : List Operand) (ats : Array TypeId) (args : List Value) (v : Value) (ho : o.op = .call { callee := .value (.func g), args := xs.toArray, argTypes := ats }) (hx : xs.map (evl n l) = args)
    (h : ∀ args w, (callFunc g args).run P w = .ok (.enter g args) w)
    (hc : Calls P g args.toArray w fun e w' => e = .returned v ∧ Mo w w') (hk : ∀ w', Mo w w' → K (fr n (ext l o.dst v)) w') : o.wp P (fr n l) w K Q := by
  have e : (execOp (evl n l) o).run P w = .ok (.enter g args.toArray) w := by
    obtain ⟨dst, op, ty, pos, after, guard⟩ := o
    simp only at ho
    subst ho hx
    have e2 := execOp_call_go (fr n l) dst g xs.toArray ats ty pos after guard
    rw [fr_eval] at e2
    rw [e2, h]
    simp
  unfold Oper.wp; rw [fr_eval, e, Oper.upon_enter]
  refine hc.mono ?_
  rintro e w' ⟨rfl, h⟩
  show K _ _
  rw [fr_put]
  exact hk w' h
theorem o_st (ty : TypeId) (x y : Operand) (k off : Nat) (us : Array Value) (vs vs' : List Value) (hA : At w k vs) (ho : o.op = .store ty x y) (hd : o.dst = none) (hx : evl n l x = pt k off) (hy : evl n l y = .agg us)
    (hl : Nat.ble (off + us.size) vs.length = true) (hi : (P.info? ty).map (·.size) = some us.size) (h1 : us.toList.all (·.oneCell') = true) (hvs : vs' = vs.take off ++ us.toList ++ vs.drop (off + us.toList.length))
    (hk : ∀ w', St k w w' → At w' k vs' → K (fr n l) w') : o.wp P (fr n l) w K Q :=
  o_store ty x y _ _ ho hd hx hy (run_put hA ty off us (Nat.le_of_ble_eq_true hl) hi (by rw [← Array.all_toList]; exact h1)) (hk _ (St.mk' w k off us.toList) (hA.set off us.toList (by have := Nat.le_of_ble_eq_true hl; simpa using this) vs' hvs))
theorem o_st1 (ty : TypeId) (x y : Operand) (k off : Nat) (v : Value) (vs vs' : List Value) (hA : At w k vs) (ho : o.op = .store ty x y) (hd : o.dst = none) (hx : evl n l x = pt k off) (hy : evl n l y = v)
    (hl : Nat.blt off vs.length = true) (hi : (P.info? ty).map (·.size) = some 1) (hv : v.cells = #[v]) (h1 : v.oneCell' = true) (hvs : vs' = vs.take off ++ [v] ++ vs.drop (off + 1))
    (hk : ∀ w', St k w w' → At w' k vs' → K (fr n l) w') : o.wp P (fr n l) w K Q :=
  have hl' : off < vs.length := by rw [Nat.blt_eq] at hl; exact hl
  o_store ty x y _ _ ho hd hx hy (run_put1 hA ty off v hl' hi hv h1) (hk _ (St.mk' w k off [v]) (hA.set off [v] (by simp; omega) vs' hvs))
/-- In a region that draws nothing. -/
theorem l_step (hg : wnt n l ops o = true) (h : o.wp P (fr n l) w (wpList P ops Q rest) Q) : wpList P ops Q (o :: rest) (fr n l) w :=
  wpList_step fun K hK => by rw [fr_wanted, hg, if_pos rfl]; exact Oper.wp_mono (fun a w h => hK a w h) h
theorem l_skip (hg : wnt n l ops o = false) (h : wpList P ops Q rest (fr n (ext l o.dst undef)) w) : wpList P ops Q (o :: rest) (fr n l) w :=
  wpList_step fun K hK => by rw [fr_wanted, hg, fr_put]; exact hK _ _ h
theorem l_end {next : Act → World → Prop} {a : Act} (h : next a w) : wpList P ops (Exit.then next Q) [] a w := h
theorem l_endb {id : Nat} {a : Act} (h : wpList P ops Q [] a w) : wpList P ops (Exit.inBlock id Q) [] a w := h
theorem s_end {next : Act → World → Prop} {a : Act} (h : next a w) : Code.skip.wp P (Exit.then next Q) a w := wp_skip h
theorem c_cond {c : Operand} {x y : Code} (t : Bool) (hc : evl n l c = .bool t) (h : (bif t then x else y).wp P Q (fr n l) w) : (Code.cond c x y).wp P Q (fr n l) w := by
  cases t
  · exact wp_cond_false (by rw [fr_eval]; exact hc) h
  · exact wp_cond_true (by rw [fr_eval]; exact hc) h
theorem c_ret1 {fn : Func} {R : Ending → World → Prop} (x : ResultVar) (v : Value) (hf : fn.results = #[x]) (h : resv n l P w v x) (hR : R (.returned v) w) : bodyPost P fn R .ret (fr n l) w := by
  refine bodyPost_ret (v := v) ?_ rfl hR
  cases x with
  | tmp t => have := resv_tmp h; simp [results, hf, this]
  | cell a t => obtain ⟨k, h1, h2⟩ := resv_cell h; simp [results, hf, h1, h2, asAddr]
theorem c_ret2 {fn : Func} {R : Ending → World → Prop} (x y : ResultVar) (v u : Value) (hf : fn.results = #[x, y]) (h : resv n l P w v x) (g : resv n l P w u y) (hR : R (.returned (.tuple #[v, u])) w) : bodyPost P fn R .ret (fr n l) w := by
  refine bodyPost_ret (v := .tuple #[v, u]) ?_ rfl hR
  cases x with
  | tmp t =>
    have h1 := resv_tmp h
    cases y with
    | tmp t => have g1 := resv_tmp g; simp [results, hf, h1, g1]
    | cell a t => obtain ⟨k, g1, g2⟩ := resv_cell g; simp [results, hf, h1, g1, g2, asAddr]
  | cell a t =>
    obtain ⟨k, h1, h2⟩ := resv_cell h
    cases y with
    | tmp t => have g1 := resv_tmp g; simp [results, hf, h1, h2, g1, asAddr]
    | cell a t => obtain ⟨k, g1, g2⟩ := resv_cell g; simp [results, hf, h1, h2, g1, g2, asAddr]
/-- The slots of the operations, as f says. -/
def asg (f : Nat → Value) : Nat → List Oper → List (Nat × Value) → List (Nat × Value)
  | _, [], l => l
  | i, o :: r, l => asg f (i + 1) r (ext l o.dst (f i))
theorem putAll_fr (f : Nat → Value) : ∀ (r : List Oper) (i : Nat) (l : List (Nat × Value)), putAll f i r (fr n l) = fr n (asg f i r l)
  | [], _, _ => rfl
  | o :: r, i, l => by simp only [putAll, asg, fr_put]; exact putAll_fr f r (i + 1) _
/-- Does o wait for number j? -/
def depb (o : Oper) (j : Nat) : Bool := o.after.toList.any fun e => Region.binds .any e && Nat.beq e.on j
/-- One operation, whatever of the others has come up. -/
def OgS (P : Program) (ops : List Oper) (Q : Exit → Act → World → Prop) (n : Nat) (l : List (Nat × Value)) (G : (Nat → Value) → World → Prop) (R : Nat → (Nat → Value) → World → Prop) (i : Nat) (o : Oper) : Prop :=
  ∀ f w, G f w → (∀ j, depb o j = true → R j f w) → ∀ K : Act → World → Prop,
    (∀ v w', G (upd f i v) w' → R i (upd f i v) w' → (∀ j, j ≠ i → R j f w → R j (upd f i v) w') → K (fr n (ext (asg f 0 ops l) o.dst v)) w') →
    bif wnt n (asg f 0 ops l) ops.toArray o then o.wp P (fr n (asg f 0 ops l)) w K Q else K (fr n (ext (asg f 0 ops l) o.dst undef)) w
theorem r_og {id : Nat} {ol : List Oper} (G : (Nat → Value) → World → Prop) (R : Nat → (Nat → Value) → World → Prop) (hm : P.follows .mixedOrders = true)
    (hb : edgesBack .any ol.toArray = true) (hd : dstsApart ol = true) (hG : G (slots (fr n l) ol.toArray) w.drew)
    (hs : Each (OgS P ol Q n l G R) 0 ol)
    (hend : ∀ f w, G f w → (∀ i, Nat.blt i ol.length = true → R i f w) → Q .normal (fr n (asg f 0 ol l)) w) : (Code.region id ol.toArray true).wp P Q (fr n l) w := by
  refine wp_region_og G R hm hb hd hG ?_ ?_
  · refine Each.mono ?_ ol 0 hs
    intro i o h f w hG hdep K hK
    have h1 := h f w hG (fun j hj => by
      obtain ⟨e, he, hb⟩ := List.any_eq_true.1 hj
      simp only [Bool.and_eq_true] at hb
      have := hdep e (by simpa using he) hb.1
      rwa [Nat.eq_of_beq_eq_true hb.2] at this) K (fun v w' a b c => by
        have := hK v w' a b c
        simp only [putAll_fr, fr_put] at this
        exact this)
    simp only [putAll_fr, fr_wanted, fr_put]
    cases hw : wnt n (asg f 0 ol l) ol.toArray o <;> simp only [hw, cond_true, cond_false] at h1 ⊢ <;> exact h1
  · intro f w hG hR
    rw [putAll_fr]
    exact hend f w hG (fun i hi => hR i (by rw [Nat.blt_eq] at hi; exact hi))
theorem li1 {a b : Value} (h : a = b) : [a] = [b] := by rw [h]
theorem li2 {a b c d : Value} (h : a = b) (k : c = d) : [a, c] = [b, d] := by rw [h, k]
theorem li3 {a b c d e f : Value} (h : a = b) (k : c = d) (m : e = f) : [a, c, e] = [b, d, f] := by rw [h, k, m]
theorem li4 {a b c d e f g i : Value} (h : a = b) (k : c = d) (m : e = f) (p : g = i) : [a, c, e, g] = [b, d, f, i] := by rw [h, k, m, p]
end steps
end Go.Proofs.YtdcojpbgijkmgaaDoor
/-
  A region that draws its order: what each operation of its first part yields, said once for each; the last part a chain.
-/
namespace Go.Proofs.YtdcojpbgijkmgaaDoor
open Go.RowKit
/-- What an operation yields: a value, or the address of a new block with such cells. -/
abbrev Sp := Sum Value (List Value)
def spNew : Sp → Bool
  | .inl _ => false
  | .inr _ => true
def spDen (N : Nat) : Sp → Value → World → Prop
  | .inl v, u, _ => u = v
  | .inr zs, u, w => ∃ k, u = pt k 0 ∧ N ≤ k ∧ At w k zs
theorem spMo {N : Nat} {s : Sp} {u : Value} {w w' : World} (m : Mo w w') (h : spDen N s u w) : spDen N s u w' := by
  cases s with
  | inl v => exact h
  | inr zs => obtain ⟨k, h1, h2, h3⟩ := h; exact ⟨k, h1, h2, h3.mo m⟩
def spAt (sp : List Sp) (i : Nat) : Sp := (sp[i]?).getD (.inl undef)
/-- New blocks are apart. -/
def Ds (sp : List Sp) (f : Nat → Value) (w : World) : Prop :=
  (∀ j, spNew (spAt sp j) = true → ∀ k, f j = pt k 0 → k < w.heap.size) ∧ ∀ i j, spNew (spAt sp i) = true → spNew (spAt sp j) = true → i ≠ j → ∀ k, f i = pt k 0 → f j ≠ pt k 0
theorem Ds.other {sp : List Sp} {f : Nat → Value} {w w' : World} {i : Nat} {v : Value} (h : Ds sp f w) (hi : spNew (spAt sp i) = false) (hz : w.heap.size ≤ w'.heap.size) : Ds sp (upd f i v) w' := by
  have e : ∀ j, spNew (spAt sp j) = true → upd f i v j = f j := fun j hj => by
    unfold upd; rw [if_neg]; intro e; subst e; rw [hi] at hj; cases hj
  exact ⟨fun j hj k hk => Nat.lt_of_lt_of_le (h.1 j hj k (by rw [← e j hj]; exact hk)) hz, fun a b ha hb hab k hk => by rw [e b hb]; exact h.2 a b ha hb hab k (by rw [← e a ha]; exact hk)⟩
theorem pt_inj {a b : Nat} (h : pt a 0 = pt b 0) : a = b := by simpa using h
theorem Ds.fresh {sp : List Sp} {f : Nat → Value} {w w' : World} {i k : Nat} (h : Ds sp f w) (hk : w.heap.size = k) (hz : w'.heap.size = k + 1) : Ds sp (upd f i (pt k 0)) w' := by
  refine ⟨fun j hj m hm => ?_, fun a b ha hb hab m hm hn => ?_⟩
  · unfold upd at hm
    split at hm
    · have := pt_inj hm; omega
    · have := h.1 j hj m hm; omega
  · unfold upd at hm hn
    split at hm
    · have e := pt_inj hm
      split at hn
      · omega
      · have := h.1 b hb m hn; omega
    · split at hn
      · have e := pt_inj hn; have := h.1 a ha m hm; omega
      · exact h.2 a b ha hb hab m hm hn
/-- Does number i wait for number j, by one step or more? -/
def tw (ops : List Oper) : Nat → Nat → Nat → Bool
  | 0, _, _ => false
  | f + 1, i, j => match ops[i]? with
    | some o => depb o j || (List.range i).any fun k => depb o k && tw ops f k j
    | none => false
theorem exists_least0 {p : Nat → Prop} (h : ∃ m, p m) : ∃ m, p m ∧ ∀ k, p k → m ≤ k := by
  obtain ⟨m, hm⟩ := h
  induction m using Nat.strongRecOn with
  | ind m ih =>
    by_cases hh : ∃ k, k < m ∧ p k
    · obtain ⟨k, hk, hp⟩ := hh; exact ih k hk hp
    · exact ⟨m, hm, fun k hp => Nat.le_of_not_lt (fun hk => hh ⟨k, hk, hp⟩)⟩
/-- From number m on each waits for all ahead of it. -/
def chainB (ops : List Oper) (m : Nat) (fs : List Nat) : Bool := (List.range ops.length).all fun i => Nat.blt i m || (List.range i).all fun j => fs.contains j || tw ops ops.length i j
/-- What has come up had all that it waits for. -/
def Shut (ops : List Oper) (listed : Array Bool) : Prop := ∀ i o, ops[i]? = some o → listed.getD i false = true → ∀ e ∈ o.after, Region.binds .any e = true → listed.getD e.on false = true
theorem tw_spec {ops : List Oper} {listed : Array Bool} (hc : Shut ops listed) : ∀ (f i j : Nat) (o : Oper), ops[i]? = some o → (∀ e ∈ o.after, Region.binds .any e = true → listed.getD e.on false = true) → tw ops f i j = true → listed.getD j false = true := by
  intro f
  induction f with
  | zero => intro i j o _ _ h; cases h
  | succ f ih =>
    intro i j o ho hd h
    have dep : ∀ k, depb o k = true → listed.getD k false = true := fun k hk => by
      obtain ⟨e, he, hb⟩ := List.any_eq_true.1 hk
      simp only [Bool.and_eq_true] at hb
      have := hd e (by simpa using he) hb.1
      rwa [Nat.eq_of_beq_eq_true hb.2] at this
    simp only [tw, ho, Bool.or_eq_true] at h
    rcases h with h | h
    · exact dep j h
    · obtain ⟨k, hk, hkk⟩ := List.any_eq_true.1 h
      simp only [Bool.and_eq_true] at hkk
      cases hok : ops[k]? with
      | none => cases f with
        | zero => cases hkk.2
        | succ f => simp [tw, hok] at hkk
      | some ok => exact ih k j ok hok (fun e he hb => hc k ok hok (dep k hkk.1) e he hb) hkk.2
theorem chainB_spec {ops : List Oper} {m : Nat} {fs : List Nat} (h : chainB ops m fs = true) {listed : Array Bool} (hc : Shut ops listed) {i : Nat} {o : Oper} (ho : ops[i]? = some o) (hi : m ≤ i) (hd : ∀ e ∈ o.after, Region.binds .any e = true → listed.getD e.on false = true) : ∀ j, j < i → fs.contains j = false → listed.getD j false = true := by
  intro j hj hfl
  have h1 := List.all_eq_true.1 h i (List.mem_range.2 (List.getElem?_eq_some_iff.1 ho).1)
  simp only [Bool.or_eq_true] at h1
  rcases h1 with h1 | h1
  · rw [Nat.blt_eq] at h1; omega
  · have h2 := List.all_eq_true.1 h1 j (List.mem_range.2 hj)
    rw [hfl, Bool.false_or] at h2
    exact tw_spec hc _ i j o ho hd h2
theorem Shut.step {ops : List Oper} {listed : Array Bool} (h : Shut ops listed) {i : Nat} {o : Oper} (ho : ops[i]? = some o) (hd : ∀ e ∈ o.after, Region.binds .any e = true → listed.getD e.on false = true) : Shut ops (listed.setIfInBounds i true) := by
  intro j oj hoj hl e he hb
  by_cases hij : i = j
  · subst hij
    rw [ho] at hoj; cases hoj
    exact getD_set_true (hd e he hb)
  · rw [getD_set_ne false hij] at hl
    exact getD_set_true (h j oj hoj hl e he hb)
theorem Shut.start (ops : List Oper) (n : Nat) : Shut ops (Array.replicate n false) := fun i _ _ hl => by
  exfalso
  rcases Nat.lt_or_ge i n with h' | h' <;> simp [h'] at hl
section
variable {P : Program} {ops : List Oper} {Q : Exit → Act → World → Prop} {n : Nat} {l : List (Nat × Value)}
/-- The last part. -/
theorem wpAny_chain {m : Nat} {fs : List Nat} (hfs : ∀ j, m ≤ j → fs.contains j = false) (hc : chainB ops m fs = true) (hb : edgesBack .any ops.toArray = true) : ∀ (d q fuel : Nat) (listed : Array Bool) (a : Act) (w : World), q + d = ops.length → m ≤ q → d ≤ fuel → listed.size = ops.length → Shut ops listed →
    (∀ j, j < ops.length → listed.getD j true = decide (j < q)) → wpList P ops.toArray Q (ops.drop q) a w → wpAny P .any ops.toArray Q fuel listed a w := by
  intro d
  induction d with
  | zero =>
    intro q fuel listed a w hq hm hf hz hsh hl h
    have hr : Region.ready .any ops.toArray listed = [] := by
      rw [List.eq_nil_iff_forall_not_mem]
      intro i hi
      obtain ⟨h0, o, ho, _⟩ := mem_ready.1 hi
      have hlt : i < ops.length := by have := (Array.getElem?_eq_some_iff.1 ho).1; simpa using this
      rw [hl i hlt] at h0
      have := of_decide_eq_false h0
      omega
    rw [List.drop_eq_nil_of_le (by omega)] at h
    exact wpAny_done hr h fuel
  | succ d ih =>
    intro q fuel listed a w hq hm hf hz hsh hl h
    have hqlt : q < ops.length := by omega
    cases fuel with
    | zero => omega
    | succ fuel =>
      have hone : ∀ i, i ∈ Region.ready .any ops.toArray listed ↔ i = q := by
        intro i
        constructor
        · intro hi
          obtain ⟨h0, o, ho, hall⟩ := mem_ready.1 hi
          have hlt : i < ops.length := by have := (Array.getElem?_eq_some_iff.1 ho).1; simpa using this
          rw [hl i hlt] at h0
          have hge := of_decide_eq_false h0
          rcases Nat.lt_or_ge q i with hgt | hle
          · have h1 := chainB_spec hc hsh (i := i) (o := o) (by simpa using ho) (by omega) hall q hgt (hfs q hm)
            have h2 := hl q hqlt
            have : q < listed.size := by omega
            simp [this] at h1 h2
            rw [h1] at h2; cases h2
          · omega
        · rintro rfl
          refine mem_ready.2 ⟨by rw [hl i hqlt]; simp, ops[i], by simp [hqlt], fun e he hbd => ?_⟩
          have hlt := edgesBack_spec hb (i := i) (o := ops[i]) (by simp [hqlt]) e he hbd
          have h2 := hl e.on (by omega)
          have : e.on < listed.size := by omega
          simp [this] at h2 ⊢
          rw [h2]; exact decide_eq_true hlt
      refine ⟨fun h0 => ?_, fun i hi => ?_⟩
      · have := (hone q).2 rfl; rw [h0] at this; cases this
      · have := (hone i).1 hi
        subst this
        have hdi : ∀ e ∈ (ops[i]).after, Region.binds .any e = true → listed.getD e.on false = true := by
          obtain ⟨_, o, ho, hall⟩ := mem_ready.1 hi
          have : ops[i] = o := by have := Array.getElem?_eq_some_iff.1 ho; obtain ⟨_, h⟩ := this; simpa using h
          rw [this]; exact hall
        rw [List.drop_eq_getElem_cons hqlt] at h
        have h1 : wpOp P ops.toArray Q i (wpList P ops.toArray Q (ops.drop (i + 1))) a w := by
          unfold wpOp
          have e : ops.toArray[i]? = some ops[i] := by simp [hqlt]
          rw [e]
          unfold wpList at h
          exact h
        refine wpOp_mono (fun a' w' h' => ih (i + 1) fuel _ a' w' (by omega) (by omega) (by omega) (by simpa using hz) (hsh.step (i := i) (o := ops[i]) (by simp [hqlt]) hdi) (fun j hj => ?_) h') h1
        by_cases e : i = j
        · subst e
          have : i < listed.size := by omega
          simp [this]
        · rw [getD_set_ne true e, hl j hj]
          congr 1
          rw [eq_iff_iff]; omega
/-- One operation that yields a value. -/
def OgE (P : Program) (ops : List Oper) (Q : Exit → Act → World → Prop) (n : Nat) (l : List (Nat × Value)) (m : Nat) (W : World) (sp : List Sp) (i : Nat) (o : Oper) : Prop :=
  ∀ f w, Mo W w → (∀ j, depb o j = true → spDen W.heap.size (spAt sp j) (f j) w) → ∀ K : Act → World → Prop,
    (match spAt sp i with
      | .inl v => ∀ w', Mo w w' → K (fr n (ext (asg f 0 (ops.take m) l) o.dst v)) w'
      | .inr zs => ∀ k w', w.heap.size = k → w'.heap.size = k + 1 → Mo w w' → At w' k zs → K (fr n (ext (asg f 0 (ops.take m) l) o.dst (pt k 0))) w') →
    bif wnt n (asg f 0 (ops.take m) l) ops.toArray o then o.wp P (fr n (asg f 0 (ops.take m) l)) w K Q else K (fr n (ext (asg f 0 (ops.take m) l) o.dst undef)) w
/-- Those that may come up late: each is apart from all that may come behind. -/
def floatB (ops : List Oper) (m : Nat) (fs : List Nat) : Bool := fs.all fun i => Nat.blt i m && match ops[i]? with
  | some o => (List.range ops.length).all fun j => Nat.beq j i || (Nat.blt j m && !fs.contains j) || match ops[j]? with
    | some oj => depb oj i || o.apart ops.toArray oj
    | none => true
  | none => false
/-- What a late one yields, in whatever world. -/
def LateO (P : Program) (ops : List Oper) (Q : Exit → Act → World → Prop) (n : Nat) (l : List (Nat × Value)) (m : Nat) (sp : List Sp) (i : Nat) : Prop :=
  ∃ o v, ops[i]? = some o ∧ spAt sp i = .inl v ∧ (∀ u c a w, Q (.panic c) (a.put o.dst u) w → Q (.panic c) a w) ∧
    ∀ f, (∀ j, depb o j = true → ∀ u, spAt sp j = .inl u → f j = u) → wnt n (asg f 0 (ops.take m) l) ops.toArray o = true ∧ ∀ w, (execOp (evl n (asg f 0 (ops.take m) l)) o).run P w = .ok (.value v) w
theorem r_draw {id : Nat} {W : World} (m : Nat) (sp : List Sp) (fs : List Nat) (hm : P.follows .mixedOrders = true)
    (hb : edgesBack .any ops.toArray = true) (hd : dstsApart (ops.take m) = true) (hc : chainB ops m fs = true) (hl : Nat.ble m ops.length = true) (hf : floatB ops m fs = true) (hns : Region.noSelect ops.toArray = true)
    (hlate : ∀ i, i ∈ fs → LateO P ops Q n l m sp i)
    (hD : Ds sp (slots (fr n l) (ops.take m).toArray) W)
    (hs : Each (OgE P ops Q n l m W sp) 0 (ops.take m))
    (hend : ∀ f w, Mo W w → (∀ i, Nat.blt i m = true → spDen W.heap.size (spAt sp i) (f i) w) → Ds sp f w → wpList P ops.toArray Q (ops.drop m) (fr n (asg f 0 (ops.take m) l)) w) :
    (Code.region id ops.toArray true).wp P Q (fr n l) W := by
  have hml : m ≤ ops.length := Nat.le_of_ble_eq_true hl
  have hfm : ∀ i, i ∈ fs → i < m := fun i hi => by
    have := List.all_eq_true.1 hf i hi
    simp only [Bool.and_eq_true] at this
    rw [Nat.blt_eq] at this; exact this.1
  have hfs : ∀ j, m ≤ j → fs.contains j = false := fun j hj => by
    cases e : fs.contains j with
    | false => rfl
    | true => have := hfm j (by simpa using e); omega
  refine wp_region_any hm ?_
  -- all that are not late have come up: the late ones first, then the last part
  have second : ∀ (d fuel : Nat) (listed : Array Bool) (f : Nat → Value) (w : World), listed.toList.count false = (ops.length - m) + d → (ops.length - m) + d ≤ fuel → listed.size = ops.length → Shut ops listed → (∀ j, m ≤ j → j < ops.length → listed.getD j true = false) →
      (∀ j, j < m → fs.contains j = false → listed.getD j true = true) → Mo W w → Ds sp f w → (∀ i, i < m → listed.getD i false = true → spDen W.heap.size (spAt sp i) (f i) w) → wpAny P .any ops.toArray Q fuel listed (putAll f 0 (ops.take m) (fr n l)) w := by
    intro d
    induction d with
    | zero =>
      intro fuel listed f w hcnt hfu hz hsh hun hall hW hDs hR
      have hall2 : ∀ j, j < m → listed.getD j true = true := fun j hj => by
        cases e : listed.getD j true with
        | true => rfl
        | false =>
          exfalso
          have h1 : (listed.toList.drop m).count false = ops.length - m := by
            have h2 : listed.toList.drop m = List.replicate (ops.length - m) false := by
              apply List.ext_getElem
              · simp [hz]
              · intro j h3 h4
                simp at h3
                have := hun (m + j) (by omega) (by omega)
                have h5 : m + j < listed.size := by omega
                simpa [h5] using this
            rw [h2]; simp
          have h3 := List.take_append_drop m listed.toList
          have h4 : 0 < (listed.toList.take m).count false := by
            apply List.count_pos_iff.2
            have hjs : j < listed.size := by omega
            simp [hjs] at e
            rw [List.mem_iff_getElem]
            exact ⟨j, by simp; omega, by simp [e]⟩
          rw [← h3, List.count_append] at hcnt
          omega
      refine wpAny_chain hfs hc hb (ops.length - m) m _ listed _ w (by omega) (Nat.le_refl _) (by omega) hz hsh (fun j hj => ?_) ?_
      · rcases Nat.lt_or_ge j m with h | h
        · rw [hall2 j h]; simp [h]
        · rw [hun j h hj]; simp [Nat.not_lt.2 h]
      · rw [putAll_fr]
        exact hend f w hW (fun i hi => by
          have hi' : i < m := by rw [Nat.blt_eq] at hi; exact hi
          refine hR i hi' ?_
          have h1 := hall2 i hi'
          have h2 : i < listed.size := by omega
          simpa [h2] using h1) hDs
    | succ d ih =>
      intro fuel listed f w hcnt hfu hz hsh hun hall hW hDs hR
      -- a late one that has not come up: the first
      have hex : ∃ i, i < m ∧ listed.getD i true = false := by
        apply Classical.byContradiction
        intro hno
        have hall2 : ∀ j, j < m → listed.getD j true = true := fun j hj => by
          cases e : listed.getD j true with
          | true => rfl
          | false => exact absurd ⟨j, hj, e⟩ hno
        have h3 := List.take_append_drop m listed.toList
        have h4 : (listed.toList.take m).count false = 0 := by
          rw [List.count_eq_zero]
          intro hmem
          rw [List.mem_iff_getElem] at hmem
          obtain ⟨j, hj, e⟩ := hmem
          simp at hj e
          have hj1 : j < m := by omega
          have hj2 : j < listed.size := by omega
          have := hall2 j hj1
          simp [hj2] at this
          rw [this] at e; cases e
        have h5 : (listed.toList.drop m).count false ≤ ops.length - m := by
          have := List.count_le_length (a := false) (l := listed.toList.drop m)
          simp [hz] at this; exact this
        rw [← h3, List.count_append] at hcnt
        omega
      obtain ⟨i, ⟨him, hiu⟩, hmin⟩ := exists_least0 hex
      have hif : i ∈ fs := by
        cases e : fs.contains i with
        | true => simpa using e
        | false => have := hall i him e; rw [hiu] at this; cases this
      obtain ⟨o, v, ho, hv, hQ, hy⟩ := hlate i hif
      have hdep : ∀ e ∈ o.after, Region.binds .any e = true → listed.getD e.on false = true := fun e he hbd => by
        have hlt := edgesBack_spec hb (i := i) (o := o) (by simpa using ho) e he hbd
        have h1 : listed.getD e.on true = true := by
          cases ee : listed.getD e.on true with
          | true => rfl
          | false => have := hmin e.on ⟨by omega, ee⟩; omega
        have h2 : e.on < listed.size := by omega
        simpa [h2] using h1
      have hval : ∀ j, depb o j = true → ∀ u, spAt sp j = .inl u → f j = u := fun j hj u hu => by
        obtain ⟨e, he, hb'⟩ := List.any_eq_true.1 hj
        simp only [Bool.and_eq_true] at hb'
        have heon := Nat.eq_of_beq_eq_true hb'.2
        have hj' := hdep e (by simpa using he) hb'.1
        have hlt := edgesBack_spec hb (i := i) (o := o) (by simpa using ho) e (by simpa using he) hb'.1
        rw [heon] at hj' hlt
        have := hR j (by omega) hj'
        rw [hu] at this
        exact this
      obtain ⟨hw1, hw2⟩ := hy f hval
      cases fuel with
      | zero => omega
      | succ fuel =>
        refine wpAny_first (i := i) (oi := o) (v := v) (by simpa using ho) (Region.noSelect_spec hns) (hQ v) fuel listed _ w ?_ ?_ ?_ ?_
        · intro j oj hoj hji hju hno
          have hjl : j < ops.length := by have := (Array.getElem?_eq_some_iff.1 hoj).1; simpa using this
          have h1 := List.all_eq_true.1 hf i hif
          simp only [Bool.and_eq_true, ho] at h1
          have h2 := List.all_eq_true.1 h1.2 j (List.mem_range.2 hjl)
          have hoj' : ops[j]? = some oj := by simpa using hoj
          simp only [hoj', Bool.or_eq_true, Bool.and_eq_true, Bool.not_eq_true'] at h2
          rcases h2 with (h2 | h2) | h2 | h2
          · exact absurd (Nat.eq_of_beq_eq_true h2) hji
          · have := hall j (by have := h2.1; rw [Nat.blt_eq] at this; exact this) h2.2
            rw [this] at hju; cases hju
          · obtain ⟨e, he, hb'⟩ := List.any_eq_true.1 h2
            simp only [Bool.and_eq_true] at hb'
            exact absurd (Nat.eq_of_beq_eq_true hb'.2) (hno e (by simpa using he) hb'.1)
          · exact h2
        · exact mem_ready.2 ⟨hiu, o, by simpa using ho, hdep⟩
        · rw [putAll_fr]
          exact Or.inl ⟨by rw [fr_wanted]; exact hw1, fun w => by rw [fr_eval]; exact hw2 w⟩
        · have hot : (ops.take m)[i]? = some o := by rw [List.getElem?_take_of_lt him]; exact ho
          have hp := putAll_put v (ops.take m) 0 f (fr n l) hd i o hot
          rw [Nat.zero_add] at hp
          rw [hp]
          have h1 : listed.toList[i]? = some false := by
            have h' : i < listed.size := by omega
            simp [h'] at hiu; simp [h', hiu]
          have hcs := count_set _ _ h1
          refine ih fuel _ (upd f i v) w ?_ (by omega) (by simpa using hz) (hsh.step ho hdep) (fun j h1 h2 => ?_) (fun j h1 h2 => ?_) hW (hDs.other (by rw [hv]; rfl) (Nat.le_refl _)) (fun j hj hlj => ?_)
          · simp only [Array.toList_setIfInBounds]; omega
          · rw [getD_set_ne true (by omega)]; exact hun j h1 h2
          · have hij : i ≠ j := by intro e; subst e; have : fs.contains i = true := by simpa using hif
                                   rw [this] at h2; cases h2
            rw [getD_set_ne true hij]; exact hall j h1 h2
          · by_cases e : j = i
            · subst e; rw [hv]; simp [upd, spDen]
            · rw [getD_set_ne false (Ne.symm e)] at hlj
              have := hR j hj hlj
              simpa [upd, e] using this
  have main : ∀ (fuel : Nat) (listed : Array Bool) (f : Nat → Value) (w : World), listed.toList.count false ≤ fuel → listed.size = ops.length → Shut ops listed → (∀ j, m ≤ j → j < ops.length → listed.getD j true = false) →
      Mo W w → Ds sp f w → (∀ i, i < m → listed.getD i false = true → spDen W.heap.size (spAt sp i) (f i) w) → wpAny P .any ops.toArray Q fuel listed (putAll f 0 (ops.take m) (fr n l)) w := by
    intro fuel
    induction fuel with
    | zero =>
      intro listed f w hcnt hz hsh hun hW hDs hR
      refine wpAny_chain hfs hc hb (ops.length - m) m 0 listed _ w (by omega) (Nat.le_refl _) ?_ hz hsh ?_ ?_
      · rcases Nat.lt_or_ge m ops.length with h | h
        · exfalso
          have h1 := hun m (Nat.le_refl _) h
          have h2 : m < listed.size := by omega
          have : false ∈ listed.toList := by simp [h2] at h1; rw [← h1]; simp
          have := List.count_pos_iff.2 this
          omega
        · omega
      · intro j hj
        have h2 : j < listed.size := by omega
        have h3 : listed.getD j true = true := by
          cases e : listed.getD j true with
          | true => rfl
          | false =>
            have : false ∈ listed.toList := by simp [h2] at e; rw [← e]; simp
            have := List.count_pos_iff.2 this
            omega
        rcases Nat.lt_or_ge j m with h | h
        · rw [h3]; simp [h]
        · rw [hun j h hj] at h3; cases h3
      · rw [putAll_fr]
        refine hend f w hW (fun i hi => hR i (by rw [Nat.blt_eq] at hi; exact hi) ?_) hDs
        have hi' : i < m := by rw [Nat.blt_eq] at hi; exact hi
        have h2 : i < listed.size := by omega
        cases e : listed.getD i false with
        | true => rfl
        | false =>
          have : false ∈ listed.toList := by simp [h2] at e; rw [← e]; simp
          have := List.count_pos_iff.2 this
          omega
    | succ fuel ih =>
      intro listed f w hcnt hz hsh hun hW hDs hR
      by_cases hall : ∀ j, j < m → fs.contains j = false → listed.getD j true = true
      · have hge : ops.length - m ≤ listed.toList.count false := by
          have h1 : (listed.toList.drop m).count false = ops.length - m := by
            have h2 : listed.toList.drop m = List.replicate (ops.length - m) false := by
              apply List.ext_getElem
              · simp [hz]
              · intro j h3 h4
                simp at h3
                have := hun (m + j) (by omega) (by omega)
                have h5 : m + j < listed.size := by omega
                simpa [h5] using this
            rw [h2]; simp
          have h3 := List.take_append_drop m listed.toList
          rw [← h3, List.count_append]
          omega
        exact second (listed.toList.count false - (ops.length - m)) _ listed f w (by omega) (by omega) hz hsh hun hall hW hDs hR
      · obtain ⟨u, hum, huf, hu⟩ : ∃ u, u < m ∧ fs.contains u = false ∧ listed.getD u true = false := by
          rcases Classical.not_forall.1 hall with ⟨u, h⟩
          rcases Classical.not_imp.1 h with ⟨h1, h2⟩
          rcases Classical.not_imp.1 h2 with ⟨h3, h4⟩
          exact ⟨u, h1, h3, by cases e : listed.getD u true with | true => exact absurd e h4 | false => rfl⟩
        have hne : Region.ready .any ops.toArray listed ≠ [] := fun hr => by
          have := all_listed hb hr u (by simp; omega)
          rw [hu] at this; cases this
        refine ⟨fun h0 => absurd h0 hne, fun i hi => ?_⟩
        obtain ⟨h0, o, ho, hdep⟩ := mem_ready.1 hi
        have hoi : ops[i]? = some o := by simpa using ho
        have hilt : i < ops.length := (List.getElem?_eq_some_iff.1 hoi).1
        have him : i < m := by
          rcases Nat.lt_or_ge i m with h | h
          · exact h
          · exfalso
            have h1 := chainB_spec hc hsh hoi h hdep u (by omega) huf
            have h2 : u < listed.size := by omega
            simp [h2] at h1 hu
            rw [h1] at hu; cases hu
        have hot : (ops.take m)[i]? = some o := by rw [List.getElem?_take_of_lt him]; exact hoi
        have hstep := Each.spec (ops.take m) 0 hs i o hot
        rw [Nat.zero_add] at hstep
        have hcount : ((listed.setIfInBounds i true).toList.count false) ≤ fuel := by
          have h1 : listed.toList[i]? = some false := by
            have h' : i < listed.size := by omega
            simp [h'] at h0; simp [h', h0]
          have := count_set _ _ h1
          simp only [Array.toList_setIfInBounds]
          omega
        have hun' : ∀ j, m ≤ j → j < ops.length → (listed.setIfInBounds i true).getD j true = false := fun j h1 h2 => by
          rw [getD_set_ne true (by omega)]; exact hun j h1 h2
        have next : ∀ v w', Mo w w' → Ds sp (upd f i v) w' → spDen W.heap.size (spAt sp i) v w' → wpAny P .any ops.toArray Q fuel (listed.setIfInBounds i true) (putAll (upd f i v) 0 (ops.take m) (fr n l)) w' := fun v w' hmo hds hden => by
          refine ih _ _ w' hcount (by simpa using hz) (hsh.step hoi hdep) hun' (hW.trans hmo) hds (fun j hj hlj => ?_)
          by_cases e : j = i
          · subst e; simpa [upd] using hden
          · rw [getD_set_ne false (Ne.symm e)] at hlj
            have := spMo hmo (hR j hj hlj)
            simpa [upd, e] using this
        have put : ∀ v, fr n (ext (asg f 0 (ops.take m) l) o.dst v) = putAll (upd f i v) 0 (ops.take m) (fr n l) := fun v => by
          have := putAll_put v (ops.take m) 0 f (fr n l) hd i o hot
          rw [Nat.zero_add] at this
          rw [← this, putAll_fr, fr_put]
        refine wpOp_step ho (fun K hK => ?_)
        rw [putAll_fr, fr_wanted]
        have hh := hstep f w hW (fun j hj => by
          obtain ⟨e, he, hb'⟩ := List.any_eq_true.1 hj
          simp only [Bool.and_eq_true] at hb'
          have heon := Nat.eq_of_beq_eq_true hb'.2
          have hj' := hdep e (by simpa using he) hb'.1
          have hlt := edgesBack_spec hb ho e (by simpa using he) hb'.1
          rw [heon] at hj' hlt
          exact hR j (by omega) hj') K
        have hh2 : (bif wnt n (asg f 0 (ops.take m) l) ops.toArray o then o.wp P (fr n (asg f 0 (ops.take m) l)) w K Q else K (fr n (ext (asg f 0 (ops.take m) l) o.dst undef)) w) := by
          refine hh ?_
          cases hsp : spAt sp i with
          | inl v =>
            intro w' hmo
            rw [put]
            exact hK _ _ (next v w' hmo (hDs.other (by rw [hsp]; rfl) hmo.size) (by rw [hsp]; rfl))
          | inr zs =>
            intro k w' hk hz' hmo hat
            rw [put]
            exact hK _ _ (next (pt k 0) w' hmo (hDs.fresh hk hz') (by rw [hsp]; exact ⟨k, rfl, by have := hW.size; omega, hat⟩))
        rw [fr_put]
        cases hw : wnt n (asg f 0 (ops.take m) l) ops.toArray o <;> simp only [hw, cond_true, cond_false] at hh2 ⊢ <;> exact hh2
  have h0 : putAll (slots (fr n l) (ops.take m).toArray) 0 (ops.take m) (fr n l) = fr n l := putAll_self _ _ 0 _ (fun i o ho t ht => by simp only [Nat.zero_add, slots]; rw [show (ops.take m).toArray[i]? = some o by simpa using ho]; simp [ht])
  have := main ops.length (Array.replicate ops.length false) (slots (fr n l) (ops.take m).toArray) W.drew (by simp) (by simp) (Shut.start _ _) (fun j _ hj => by simp [hj]) (Mo.refl _).drew ⟨fun j hj k hk => hD.1 j hj k hk, hD.2⟩ (fun i _ hi => by
    exfalso
    rcases Nat.lt_or_ge i ops.length with h' | h' <;> simp [h'] at hi)
  rw [h0] at this
  simpa using this
/-- What each slot holds behind the first part. -/
def spv (sp : List Sp) (kf : Nat → Nat) (i : Nat) : Value :=
  match spAt sp i with
  | .inl v => v
  | .inr _ => pt (kf i) 0
theorem asg_congr {f g : Nat → Value} : ∀ (r : List Oper) (i : Nat) (l : List (Nat × Value)), (∀ j, i ≤ j → j < i + r.length → f j = g j) → asg f i r l = asg g i r l
  | [], _, _, _ => rfl
  | o :: r, i, l, h => by
    unfold asg
    rw [h i (Nat.le_refl _) (by simp)]
    exact asg_congr r (i + 1) _ (fun j h1 h2 => h j (by omega) (by simp; omega))
theorem r_any {id : Nat} {W : World} (m : Nat) (sp : List Sp) (fs : List Nat) (hm : P.follows .mixedOrders = true)
    (hb : edgesBack .any ops.toArray = true) (hd : dstsApart (ops.take m) = true) (hc : chainB ops m fs = true) (hl : Nat.ble m ops.length = true) (hf : floatB ops m fs = true) (hns : Region.noSelect ops.toArray = true)
    (hlate : ∀ i, i ∈ fs → LateO P ops Q n l m sp i)
    (hD : Ds sp (slots (fr n l) (ops.take m).toArray) W)
    (hs : Each (OgE P ops Q n l m W sp) 0 (ops.take m))
    (hend : ∀ kf w, Mo W w → (∀ i zs, Nat.blt i m = true → spAt sp i = .inr zs → W.heap.size ≤ kf i ∧ At w (kf i) zs) → (∀ i j, Nat.blt i m = true → Nat.blt j m = true → spNew (spAt sp i) = true → spNew (spAt sp j) = true → i ≠ j → kf i ≠ kf j) →
      wpList P ops.toArray Q (ops.drop m) (fr n (asg (spv sp kf) 0 (ops.take m) l)) w) :
    (Code.region id ops.toArray true).wp P Q (fr n l) W := by
  refine r_draw m sp fs hm hb hd hc hl hf hns hlate hD hs (fun f w hmo hR hDs => ?_)
  have hk : ∃ kf : Nat → Nat, ∀ i zs, i < m → spAt sp i = .inr zs → f i = pt (kf i) 0 ∧ W.heap.size ≤ kf i ∧ At w (kf i) zs := by
    refine ⟨fun i => Classical.epsilon (fun k => f i = pt k 0), fun i zs hi hsp => ?_⟩
    have h1 := hR i (by rw [Nat.blt_eq]; exact hi)
    rw [hsp] at h1
    obtain ⟨k, e, h2, h3⟩ := h1
    have hex : ∃ k, f i = pt k 0 := ⟨k, e⟩
    have hc := Classical.epsilon_spec hex
    have : Classical.epsilon (fun k => f i = pt k 0) = k := pt_inj (hc.symm.trans e)
    simp only [this]
    exact ⟨e, h2, h3⟩
  obtain ⟨kf, hkf⟩ := hk
  have e : asg f 0 (ops.take m) l = asg (spv sp kf) 0 (ops.take m) l := asg_congr _ 0 l (fun j _ hj => by
    have hjm : j < m := by have := List.length_take_le m ops; omega
    unfold spv
    cases hsp : spAt sp j with
    | inl v =>
      have := hR j (by rw [Nat.blt_eq]; exact hjm)
      rw [hsp] at this
      exact this
    | inr zs => exact (hkf j zs hjm hsp).1)
  rw [e]
  refine hend kf w hmo (fun i zs hi hsp => (hkf i zs (by rw [Nat.blt_eq] at hi; exact hi) hsp).2) (fun i j hi hj hin hjn hne heq => ?_)
  have gi : ∃ zs, spAt sp i = .inr zs := by cases h : spAt sp i with | inl v => rw [h] at hin; cases hin | inr zs => exact ⟨zs, rfl⟩
  have gj : ∃ zs, spAt sp j = .inr zs := by cases h : spAt sp j with | inl v => rw [h] at hjn; cases hjn | inr zs => exact ⟨zs, rfl⟩
  obtain ⟨zi, gi⟩ := gi
  obtain ⟨zj, gj⟩ := gj
  have hi' : i < m := by rw [Nat.blt_eq] at hi; exact hi
  have hj' : j < m := by rw [Nat.blt_eq] at hj; exact hj
  have h1 := (hkf i zi hi' gi).1
  have h2 := (hkf j zj hj' gj).1
  rw [← heq] at h2
  exact hDs.2 i j hin hjn hne _ h1 h2
theorem Ds.none {sp : List Sp} {f : Nat → Value} {w : World} (h : sp.all (fun s => !spNew s) = true) : Ds sp f w := by
  have hh : ∀ j, spNew (spAt sp j) = true → False := fun j hj => by
    unfold spAt at hj
    cases e : sp[j]? with
    | none => rw [e] at hj; cases hj
    | some s =>
      rw [e] at hj
      have := List.all_eq_true.1 h s (List.mem_of_getElem? e)
      simp at this
      simp [this] at hj
  exact ⟨fun j hj => (hh j hj).elim, fun i j hi => (hh i hi).elim⟩
theorem Ds.undef {sp : List Sp} {f : Nat → Value} {w : World} (h : ∀ j, j < sp.length → spNew (spAt sp j) = true → f j = undef) : Ds sp f w := by
  have hh : ∀ j, spNew (spAt sp j) = true → ∀ k, f j ≠ pt k 0 := fun j hj k e => by
    rcases Nat.lt_or_ge j sp.length with hl | hl
    · rw [h j hl hj] at e; cases e
    · unfold spAt at hj; rw [List.getElem?_eq_none hl] at hj; cases hj
  exact ⟨fun j hj k hk => (hh j hj k hk).elim, fun i j hi _ _ k hk => (hh i hi k hk).elim⟩
theorem ct {b : Bool} {A B : Prop} (h : b = true) (a : A) : (bif b then A else B) := by subst h; exact a
theorem cf {b : Bool} {A B : Prop} (h : b = false) (a : B) : (bif b then A else B) := by subst h; exact a
theorem wnt_g {ops : Array Oper} {o : Oper} {j d : Nat} {want b r : Bool} (hg : o.guard = some (j, want)) (hd : (ops[j]?).bind (·.dst) = some d) (hn : Nat.blt d n = true) (hv : look l d = .bool b) (hr : (b == want) = r) : wnt n l ops o = r := by
  unfold wnt
  simp only [hg, hd, hn, cond_true, hv]
  subst hr
  cases b <;> cases want <;> rfl
theorem n_then {Q : Exit → Act → World → Prop} {next : Act → World → Prop} {a : Act} {w : World} (h : next a w) : Exit.then next Q .normal a w := h
theorem n_blk {Q : Exit → Act → World → Prop} {id : Nat} {a : Act} {w : World} (h : Q .normal a w) : Exit.inBlock id Q .normal a w := h
theorem x_then {Q : Exit → Act → World → Prop} {next : Act → World → Prop} {id : Nat} {a : Act} {w : World} (h : Q (.exit id) a w) : Exit.then next Q (.exit id) a w := h
theorem x_blk {Q : Exit → Act → World → Prop} {id : Nat} {a : Act} {w : World} (h : Q .normal a w) : Exit.inBlock id Q (.exit id) a w := by simp only [Exit.inBlock, if_true]; exact h
theorem x_out {Q : Exit → Act → World → Prop} {id i : Nat} {a : Act} {w : World} (hne : Nat.beq i id = false) (h : Q (.exit i) a w) : Exit.inBlock id Q (.exit i) a w := by
  simp only [Exit.inBlock]
  rw [if_neg (fun e => by subst e; simp at hne)]
  exact h
theorem r_then {Q : Exit → Act → World → Prop} {next : Act → World → Prop} {a : Act} {w : World} (h : Q .ret a w) : Exit.then next Q .ret a w := h
theorem r_blk {Q : Exit → Act → World → Prop} {id : Nat} {a : Act} {w : World} (h : Q .ret a w) : Exit.inBlock id Q .ret a w := h
variable {o : Oper} {w : World} {K : Act → World → Prop}
theorem o_mv (x : Operand) (p : Value) (ho : ∀ ρ, execOp ρ o = pure (.value (ρ x))) (hx : evl n l x = p) (hk : K (fr n (ext l o.dst p)) w) : o.wp P (fr n l) w K Q := by
  refine o_val p ?_ hk
  rw [ho, hx]; rfl
theorem o_un (F : Value → Sem Value) (x : Operand) (p v : Value) (ho : ∀ ρ, execOp ρ o = (do pure (.value (← F (ρ x))))) (hx : evl n l x = p) (h : (F p).run P w = .ok v w) (hk : K (fr n (ext l o.dst v)) w) : o.wp P (fr n l) w K Q := by
  refine o_val v ?_ hk
  rw [ho, hx]; simp [h]
theorem o_bin (F : Value → Value → Sem Value) (x y : Operand) (p q v : Value) (ho : ∀ ρ, execOp ρ o = (do pure (.value (← F (ρ x) (ρ y))))) (hx : evl n l x = p) (hy : evl n l y = q) (h : (F p q).run P w = .ok v w) (hk : K (fr n (ext l o.dst v)) w) : o.wp P (fr n l) w K Q := by
  refine o_val v ?_ hk
  rw [ho, hx, hy]; simp [h]
theorem o_build (t : TypeId) (xs : List (Nat × Operand)) (ps : List (Nat × Value)) (v : Value) (ho : o.op = .build t xs.toArray) (hx : xs.map (fun p => (p.1, evl n l p.2)) = ps) (h : (Instr.build t ps.toArray).run P w = .ok v w) (hk : K (fr n (ext l o.dst v)) w) : o.wp P (fr n l) w K Q := by
  refine o_val v ?_ hk
  subst hx
  simp only [execOp, ho, List.map_toArray]
  simp [h]
theorem o_pick (c x y : Operand) (t : Bool) (v : Value) (ho : ∀ ρ, execOp ρ o = (do pure (.value (if ← asBool (ρ c) then ρ x else ρ y)))) (hc : evl n l c = .bool t) (hv : evl n l (bif t then x else y) = v) (hk : K (fr n (ext l o.dst v)) w) : o.wp P (fr n l) w K Q := by
  refine o_val v ?_ hk
  rw [ho, hc]
  cases t <;> simp at hv <;> simp [asBool, hv]
theorem o_var (x : Operand) (v : Value) {w' : World} (F : Value → Sem Value) (p : Value) (ho : ∀ ρ, execOp ρ o = (do pure (.value (← F (ρ x))))) (hx : evl n l x = p) (h : (F p).run P w = .ok v w') (hk : K (fr n (ext l o.dst v)) w') : o.wp P (fr n l) w K Q := by
  refine o_val v ?_ hk
  rw [ho, hx]; simp [h]
theorem lp1 {i : Nat} {a b : Value} (h : a = b) : [(i, a)] = [(i, b)] := by rw [h]
theorem lp2 {i j : Nat} {a b c d : Value} (h : a = b) (k : c = d) : [(i, a), (j, c)] = [(i, b), (j, d)] := by rw [h, k]
theorem lp3 {i j q : Nat} {a b c d e f : Value} (h : a = b) (k : c = d) (m : e = f) : [(i, a), (j, c), (q, e)] = [(i, b), (j, d), (q, f)] := by rw [h, k, m]
end
end Go.Proofs.YtdcojpbgijkmgaaDoor
/-
  The laws of the steps over propositions that nothing unfolds by itself.
-/
namespace Go.Proofs.YtdcojpbgijkmgaaDoor
open Go.RowKit
/-- The least number with a property. -/
theorem exists_least {p : Nat → Prop} (h : ∃ m, p m) : ∃ m, p m ∧ ∀ k, p k → m ≤ k := by
  obtain ⟨m, hm⟩ := h
  induction m using Nat.strongRecOn with
  | ind m ih =>
    by_cases hh : ∃ k, k < m ∧ p k
    · obtain ⟨k, hk, hp⟩ := hh; exact ih k hk hp
    · exact ⟨m, hm, fun k hp => Nat.le_of_not_lt (fun hk => hh ⟨k, hk, hp⟩)⟩
def least (p : Nat → Prop) (m : Nat) : Prop := p m ∧ ∀ k, p k → m ≤ k
theorem least_ok {p : Nat → Prop} (h : ∃ m, p m) : least p (Classical.epsilon (least p)) := Classical.epsilon_spec (exists_least h)
structure WC (P : Program) (c : Code) (Q : Exit → Act → World → Prop) (n : Nat) (l : List (Nat × Value)) (w : World) : Prop where
  out : c.wp P Q (fr n l) w
structure WL (P : Program) (ops : Array Oper) (Q : Exit → Act → World → Prop) (r : List Oper) (n : Nat) (l : List (Nat × Value)) (w : World) : Prop where
  out : wpList P ops Q r (fr n l) w
structure WX (Q : Exit → Act → World → Prop) (e : Exit) (n : Nat) (l : List (Nat × Value)) (w : World) : Prop where
  out : Q e (fr n l) w
structure WO (P : Program) (o : Oper) (n : Nat) (l : List (Nat × Value)) (w : World) (K : Act → World → Prop) (Q : Exit → Act → World → Prop) : Prop where
  out : o.wp P (fr n l) w K Q
section
variable {P : Program} {o : Oper} {n : Nat} {l : List (Nat × Value)} {w : World} {ops : Array Oper} {rest : List Oper} {Q : Exit → Act → World → Prop} {K : Act → World → Prop}
theorem w_enter {f : FuncId} {fn : Func} {c : Code} {args : Array Value} {R : Ending → World → Prop} (n : Nat) (hf : P.funcs[f]? = some fn) (hn : fn.ntmps = n) (hb : fn.body = some c)
    (ha : Nat.ble args.size n = true) (h : WC P c (bodyPost P fn R) n (argl 0 args.toList) w) : Calls P f args w R := f_enter n hf hn hb ha h.out
theorem w_seq {x y : Code} (h : WC P x (Exit.then (y.wp P Q) Q) n l w) : WC P (Code.seq x y) Q n l w := ⟨wp_seq h.out⟩
theorem w_block {id : Nat} {c : Code} (h : WC P c (Exit.inBlock id Q) n l w) : WC P (Code.block id c) Q n l w := ⟨wp_block h.out⟩
theorem w_skip (h : WX Q .normal n l w) : WC P .skip Q n l w := ⟨wp_skip h.out⟩
theorem w_label {i : Nat} (h : WX Q .normal n l w) : WC P (.label i) Q n l w := ⟨wp_label h.out⟩
theorem w_ret (h : WX Q .ret n l w) : WC P .ret Q n l w := ⟨wp_ret h.out⟩
theorem w_exit {id : Nat} (h : WX Q (.exit id) n l w) : WC P (.exit id) Q n l w := ⟨wp_exit h.out⟩
theorem w_condT {c : Operand} {x y : Code} (hc : evl n l c = .bool true) (h : WC P x Q n l w) : WC P (Code.cond c x y) Q n l w := ⟨c_cond true hc h.out⟩
theorem w_condF {c : Operand} {x y : Code} (hc : evl n l c = .bool false) (h : WC P y Q n l w) : WC P (Code.cond c x y) Q n l w := ⟨c_cond false hc h.out⟩
theorem w_reg {id : Nat} {ol : List Oper} (h : WL P ol.toArray Q ol n l w) : WC P (Code.region id ol.toArray false) Q n l w := ⟨wp_region_lit h.out⟩
theorem w_nil (h : WX Q .normal n l w) : WL P ops Q [] n l w := ⟨wpList_nil h.out⟩
theorem xn_then {y : Code} {Q' : Exit → Act → World → Prop} (h : WC P y Q n l w) : WX (Exit.then (y.wp P Q) Q') .normal n l w := ⟨n_then h.out⟩
theorem xn_blk {id : Nat} (h : WX Q .normal n l w) : WX (Exit.inBlock id Q) .normal n l w := ⟨n_blk h.out⟩
theorem xx_then {next : Act → World → Prop} {id : Nat} (h : WX Q (.exit id) n l w) : WX (Exit.then next Q) (.exit id) n l w := ⟨x_then h.out⟩
theorem xx_blk {id : Nat} (h : WX Q .normal n l w) : WX (Exit.inBlock id Q) (.exit id) n l w := ⟨x_blk h.out⟩
theorem xx_out {id i : Nat} (hne : Nat.beq i id = false) (h : WX Q (.exit i) n l w) : WX (Exit.inBlock id Q) (.exit i) n l w := ⟨x_out hne h.out⟩
theorem xr_then {next : Act → World → Prop} (h : WX Q .ret n l w) : WX (Exit.then next Q) .ret n l w := ⟨r_then h.out⟩
theorem xr_blk {id : Nat} (h : WX Q .ret n l w) : WX (Exit.inBlock id Q) .ret n l w := ⟨r_blk h.out⟩
theorem w_ret1 {fn : Func} {R : Ending → World → Prop} (x : ResultVar) (v : Value) (hf : fn.results = #[x]) (h : resv n l P w v x) (hR : R (.returned v) w) : WX (bodyPost P fn R) .ret n l w := ⟨c_ret1 x v hf h hR⟩
theorem w_ret2 {fn : Func} {R : Ending → World → Prop} (x y : ResultVar) (v u : Value) (hf : fn.results = #[x, y]) (h : resv n l P w v x) (g : resv n l P w u y) (hR : R (.returned (.tuple #[v, u])) w) : WX (bodyPost P fn R) .ret n l w := ⟨c_ret2 x y v u hf h g hR⟩
/-- A loop: what holds ahead of each round, of the frame's list and the world, with a number that falls. -/
theorem w_loop {c : Code} (I : Nat → List (Nat × Value) → World → Prop) (m : Nat) (h0 : I m l w)
    (round : ∀ m l w, I m l w → WC P c (Exit.then (fun a w' => ∃ m' l', m' < m ∧ a = fr n l' ∧ I m' l' w') Q) n l w) : WC P (Code.loop c) Q n l w := by
  refine ⟨?_⟩
  have key : ∀ m : Nat, ∀ l w, I m l w → (Code.loop c).wp P Q (fr n l) w := by
    intro m0 l0 w0 hI0
    refine wp_loop (fun a w => ∃ m l, a = fr n l ∧ I m l w) (fun a w => Classical.epsilon (least (fun m => ∃ l, a = fr n l ∧ I m l w))) ⟨m0, l0, rfl, hI0⟩ ?_
    rintro a w ⟨m, l, rfl, hI⟩
    obtain ⟨l2, e2, hI2⟩ := (least_ok (p := fun m => ∃ l', fr n l = fr n l' ∧ I m l' w) ⟨m, l, rfl, hI⟩).1
    rw [e2]
    refine Code.wp_mono ?_ (round _ l2 w hI2).out
    intro e a' w' hq
    cases e with
    | normal =>
      obtain ⟨m', l', hlt, rfl, hI'⟩ := hq
      refine ⟨⟨m', l', rfl, hI'⟩, Nat.lt_of_le_of_lt ((least_ok (p := fun m => ∃ l'', fr n l' = fr n l'' ∧ I m l'' w') ⟨m', l', rfl, hI'⟩).2 m' ⟨l', rfl, hI'⟩) ?_⟩
      rw [← e2]; exact hlt
    | _ => exact hq
  exact key m l w h0
theorem xn_loop {I : Nat → List (Nat × Value) → World → Prop} {m : Nat} (m' : Nat) (hlt : m' < m) (h : I m' l w) : WX (Exit.then (fun a w' => ∃ m' l', m' < m ∧ a = fr n l' ∧ I m' l' w') Q) .normal n l w := ⟨⟨m', l, hlt, rfl, h⟩⟩
theorem wl_val (v : Value) (h : (execOp (evl n l) o).run P w = .ok (.value v) w) (hg : wnt n l ops o = true) (hk : WL P ops Q rest n (ext l o.dst v) w) : WL P ops Q (o :: rest) n l w :=
  ⟨l_step hg (o_val v h hk.out)⟩
theorem wo_val (v : Value) (h : (execOp (evl n l) o).run P w = .ok (.value v) w) (hk : K (fr n (ext l o.dst v)) w) : WO P o n l w K Q := ⟨o_val v h hk⟩
theorem wl_mv (x : Operand) (p : Value) (ho : ∀ ρ, execOp ρ o = pure (.value (ρ x))) (hx : evl n l x = p) (hg : wnt n l ops o = true) (hk : WL P ops Q rest n (ext l o.dst p) w) : WL P ops Q (o :: rest) n l w :=
  ⟨l_step hg (o_mv x p ho hx hk.out)⟩
theorem wo_mv (x : Operand) (p : Value) (ho : ∀ ρ, execOp ρ o = pure (.value (ρ x))) (hx : evl n l x = p) (hk : K (fr n (ext l o.dst p)) w) : WO P o n l w K Q := ⟨o_mv x p ho hx hk⟩
theorem wl_un (F : Value → Sem Value) (x : Operand) (p v : Value) (ho : ∀ ρ, execOp ρ o = (do pure (.value (← F (ρ x))))) (hx : evl n l x = p) (h : (F p).run P w = .ok v w) (hg : wnt n l ops o = true) (hk : WL P ops Q rest n (ext l o.dst v) w) : WL P ops Q (o :: rest) n l w :=
  ⟨l_step hg (o_un F x p v ho hx h hk.out)⟩
theorem wo_un (F : Value → Sem Value) (x : Operand) (p v : Value) (ho : ∀ ρ, execOp ρ o = (do pure (.value (← F (ρ x))))) (hx : evl n l x = p) (h : (F p).run P w = .ok v w) (hk : K (fr n (ext l o.dst v)) w) : WO P o n l w K Q := ⟨o_un F x p v ho hx h hk⟩
theorem wl_bin (F : Value → Value → Sem Value) (x y : Operand) (p q v : Value) (ho : ∀ ρ, execOp ρ o = (do pure (.value (← F (ρ x) (ρ y))))) (hx : evl n l x = p) (hy : evl n l y = q) (h : (F p q).run P w = .ok v w) (hg : wnt n l ops o = true) (hk : WL P ops Q rest n (ext l o.dst v) w) : WL P ops Q (o :: rest) n l w :=
  ⟨l_step hg (o_bin F x y p q v ho hx hy h hk.out)⟩
theorem wo_bin (F : Value → Value → Sem Value) (x y : Operand) (p q v : Value) (ho : ∀ ρ, execOp ρ o = (do pure (.value (← F (ρ x) (ρ y))))) (hx : evl n l x = p) (hy : evl n l y = q) (h : (F p q).run P w = .ok v w) (hk : K (fr n (ext l o.dst v)) w) : WO P o n l w K Q := ⟨o_bin F x y p q v ho hx hy h hk⟩
theorem wl_pick (c x y : Operand) (t : Bool) (v : Value) (ho : ∀ ρ, execOp ρ o = (do pure (.value (if ← asBool (ρ c) then ρ x else ρ y)))) (hc : evl n l c = .bool t) (hv : evl n l (bif t then x else y) = v) (hg : wnt n l ops o = true) (hk : WL P ops Q rest n (ext l o.dst v) w) : WL P ops Q (o :: rest) n l w :=
  ⟨l_step hg (o_pick c x y t v ho hc hv hk.out)⟩
theorem wo_pick (c x y : Operand) (t : Bool) (v : Value) (ho : ∀ ρ, execOp ρ o = (do pure (.value (if ← asBool (ρ c) then ρ x else ρ y)))) (hc : evl n l c = .bool t) (hv : evl n l (bif t then x else y) = v) (hk : K (fr n (ext l o.dst v)) w) : WO P o n l w K Q := ⟨o_pick c x y t v ho hc hv hk⟩
theorem wl_build (t : TypeId) (xs : List (Nat × Operand)) (ps : List (Nat × Value)) (v : Value) (ho : o.op = .build t xs.toArray) (hx : xs.map (fun p => (p.1, evl n l p.2)) = ps) (h : (Instr.build t ps.toArray).run P w = .ok v w) (hg : wnt n l ops o = true) (hk : WL P ops Q rest n (ext l o.dst v) w) : WL P ops Q (o :: rest) n l w :=
  ⟨l_step hg (o_build t xs ps v ho hx h hk.out)⟩
theorem wo_build (t : TypeId) (xs : List (Nat × Operand)) (ps : List (Nat × Value)) (v : Value) (ho : o.op = .build t xs.toArray) (hx : xs.map (fun p => (p.1, evl n l p.2)) = ps) (h : (Instr.build t ps.toArray).run P w = .ok v w) (hk : K (fr n (ext l o.dst v)) w) : WO P o n l w K Q := ⟨o_build t xs ps v ho hx h hk⟩
theorem wl_load (ty : TypeId) (x : Operand) (p v : Value) (ho : o.op = .load ty x) (hx : evl n l x = p) (h : (Instr.loadAt ty p).run P w = .ok v w) (hg : wnt n l ops o = true) (hk : WL P ops Q rest n (ext l o.dst v) w) : WL P ops Q (o :: rest) n l w :=
  ⟨l_step hg (o_load ty x p v ho hx h hk.out)⟩
theorem wo_load (ty : TypeId) (x : Operand) (p v : Value) (ho : o.op = .load ty x) (hx : evl n l x = p) (h : (Instr.loadAt ty p).run P w = .ok v w) (hk : K (fr n (ext l o.dst v)) w) : WO P o n l w K Q := ⟨o_load ty x p v ho hx h hk⟩
theorem wl_alloc (ty : TypeId) (zs : Array Value) (ho : o.op = .alloc ty) (h : ∀ w, (Instr.alloc ty true (.tuple #[])).run P w = .ok (pt w.heap.size 0) (w.alloc (.cells zs ty))) (hg : wnt n l ops o = true) (hk : ∀ k w', w.heap.size = k → w'.heap.size = k + 1 → Mo w w' → At w' k zs.toList → WL P ops Q rest n (ext l o.dst (pt k 0)) w') : WL P ops Q (o :: rest) n l w :=
  ⟨l_step hg (o_alloc ty zs ho h (fun k w' a b c d => (hk k w' a b c d).out))⟩
theorem wo_alloc (ty : TypeId) (zs : Array Value) (ho : o.op = .alloc ty) (h : ∀ w, (Instr.alloc ty true (.tuple #[])).run P w = .ok (pt w.heap.size 0) (w.alloc (.cells zs ty))) (hk : ∀ k w', w.heap.size = k → w'.heap.size = k + 1 → Mo w w' → At w' k zs.toList → K (fr n (ext l o.dst (pt k 0))) w') : WO P o n l w K Q := ⟨o_alloc ty zs ho h (fun k w' a b c d => (hk k w' a b c d))⟩
theorem wl_box (ty : TypeId) (x : Operand) (v : Value) (cs : Array Value) (ho : o.op = .box ty x) (hx : evl n l x = v) (h : ∀ w, (Instr.box ty v).run P w = .ok (pt w.heap.size 0) (w.alloc (.cells cs ty))) (hg : wnt n l ops o = true) (hk : ∀ k w', w.heap.size = k → w'.heap.size = k + 1 → Mo w w' → At w' k cs.toList → WL P ops Q rest n (ext l o.dst (pt k 0)) w') : WL P ops Q (o :: rest) n l w :=
  ⟨l_step hg (o_box ty x v cs ho hx h (fun k w' a b c d => (hk k w' a b c d).out))⟩
theorem wo_box (ty : TypeId) (x : Operand) (v : Value) (cs : Array Value) (ho : o.op = .box ty x) (hx : evl n l x = v) (h : ∀ w, (Instr.box ty v).run P w = .ok (pt w.heap.size 0) (w.alloc (.cells cs ty))) (hk : ∀ k w', w.heap.size = k → w'.heap.size = k + 1 → Mo w w' → At w' k cs.toList → K (fr n (ext l o.dst (pt k 0))) w') : WO P o n l w K Q := ⟨o_box ty x v cs ho hx h (fun k w' a b c d => (hk k w' a b c d))⟩
theorem wl_call (g : FuncId) (xs : List Operand) (ats : Array TypeId) (args : List Value) (v : Value) (ho : o.op = .call { callee := .value (.func g), args := xs.toArray, argTypes := ats }) (hx : xs.map (evl n l) = args) (h : ∀ args w, (callFunc g args).run P w = .ok (.enter g args) w) (hc : Calls P g args.toArray w fun e w' => e = .returned v ∧ Mo w w') (hg : wnt n l ops o = true) (hk : ∀ w', Mo w w' → WL P ops Q rest n (ext l o.dst v) w') : WL P ops Q (o :: rest) n l w :=
  ⟨l_step hg (o_call g xs ats args v ho hx h hc (fun w' m => (hk w' m).out))⟩
theorem wo_call (g : FuncId) (xs : List Operand) (ats : Array TypeId) (args : List Value) (v : Value) (ho : o.op = .call { callee := .value (.func g), args := xs.toArray, argTypes := ats }) (hx : xs.map (evl n l) = args) (h : ∀ args w, (callFunc g args).run P w = .ok (.enter g args) w) (hc : Calls P g args.toArray w fun e w' => e = .returned v ∧ Mo w w') (hk : ∀ w', Mo w w' → K (fr n (ext l o.dst v)) w') : WO P o n l w K Q := ⟨o_call g xs ats args v ho hx h hc (fun w' m => (hk w' m))⟩
theorem wl_skip (hg : wnt n l ops o = false) (h : WL P ops Q rest n (ext l o.dst undef) w) : WL P ops Q (o :: rest) n l w := ⟨l_skip hg h.out⟩
theorem wl_st (ty : TypeId) (x y : Operand) (k off : Nat) (us : Array Value) (vs vs' : List Value) (hA : At w k vs) (ho : o.op = .store ty x y) (hd : o.dst = none) (hx : evl n l x = pt k off) (hy : evl n l y = .agg us)
    (hl : Nat.ble (off + us.size) vs.length = true) (hi : (P.info? ty).map (·.size) = some us.size) (h1 : us.toList.all (·.oneCell') = true) (hvs : vs' = vs.take off ++ us.toList ++ vs.drop (off + us.toList.length)) (hg : wnt n l ops o = true)
    (hk : ∀ w', St k w w' → At w' k vs' → WL P ops Q rest n l w') : WL P ops Q (o :: rest) n l w :=
  ⟨l_step hg (o_st ty x y k off us vs vs' hA ho hd hx hy hl hi h1 hvs (fun w' a b => (hk w' a b).out))⟩
theorem wl_st1 (ty : TypeId) (x y : Operand) (k off : Nat) (v : Value) (vs vs' : List Value) (hA : At w k vs) (ho : o.op = .store ty x y) (hd : o.dst = none) (hx : evl n l x = pt k off) (hy : evl n l y = v)
    (hl : Nat.blt off vs.length = true) (hi : (P.info? ty).map (·.size) = some 1) (hv : v.cells = #[v]) (h1 : v.oneCell' = true) (hvs : vs' = vs.take off ++ [v] ++ vs.drop (off + 1)) (hg : wnt n l ops o = true)
    (hk : ∀ w', St k w w' → At w' k vs' → WL P ops Q rest n l w') : WL P ops Q (o :: rest) n l w :=
  ⟨l_step hg (o_st1 ty x y k off v vs vs' hA ho hd hx hy hl hi hv h1 hvs (fun w' a b => (hk w' a b).out))⟩
/-- Is it run, or passed by? -/
structure Go1 (P : Program) (ops : List Oper) (Q : Exit → Act → World → Prop) (n : Nat) (l : List (Nat × Value)) (w : World) (K : Act → World → Prop) (o : Oper) : Prop where
  out : (wnt n l ops.toArray o = true ∧ WO P o n l w K Q) ∨ (wnt n l ops.toArray o = false ∧ K (fr n (ext l o.dst undef)) w)
theorem go_run {ol : List Oper} (hg : wnt n l ol.toArray o = true) (h : WO P o n l w K Q) : Go1 P ol Q n l w K o := ⟨Or.inl ⟨hg, h⟩⟩
theorem go_pass {ol : List Oper} (hg : wnt n l ol.toArray o = false) (h : K (fr n (ext l o.dst undef)) w) : Go1 P ol Q n l w K o := ⟨Or.inr ⟨hg, h⟩⟩
structure OgW (P : Program) (ops : List Oper) (Q : Exit → Act → World → Prop) (n : Nat) (l : List (Nat × Value)) (m : Nat) (W : World) (sp : List Sp) (i : Nat) (o : Oper) : Prop where
  out : ∀ f w, Mo W w → (∀ j, depb o j = true → spDen W.heap.size (spAt sp j) (f j) w) → ∀ K : Act → World → Prop,
    (match spAt sp i with
      | .inl v => ∀ w', Mo w w' → K (fr n (ext (asg f 0 (ops.take m) l) o.dst v)) w'
      | .inr zs => ∀ k w', w.heap.size = k → w'.heap.size = k + 1 → Mo w w' → At w' k zs → K (fr n (ext (asg f 0 (ops.take m) l) o.dst (pt k 0))) w') →
    Go1 P ops Q n (asg f 0 (ops.take m) l) w K o
theorem og_eq {ol : List Oper} {m : Nat} {W : World} {sp : List Sp} {i : Nat} (v : Value) (hs : spAt sp i = .inl v)
    (h : ∀ f w, Mo W w → (∀ j, depb o j = true → spDen W.heap.size (spAt sp j) (f j) w) → ∀ K : Act → World → Prop, (∀ w', Mo w w' → K (fr n (ext (asg f 0 (ol.take m) l) o.dst v)) w') → Go1 P ol Q n (asg f 0 (ol.take m) l) w K o) : OgW P ol Q n l m W sp i o :=
  ⟨fun f w hm hd K hK => h f w hm hd K (by rw [hs] at hK; exact hK)⟩
theorem og_new {ol : List Oper} {m : Nat} {W : World} {sp : List Sp} {i : Nat} (zs : List Value) (hs : spAt sp i = .inr zs)
    (h : ∀ f w, Mo W w → (∀ j, depb o j = true → spDen W.heap.size (spAt sp j) (f j) w) → ∀ K : Act → World → Prop, (∀ k w', w.heap.size = k → w'.heap.size = k + 1 → Mo w w' → At w' k zs → K (fr n (ext (asg f 0 (ol.take m) l) o.dst (pt k 0))) w') → Go1 P ol Q n (asg f 0 (ol.take m) l) w K o) : OgW P ol Q n l m W sp i o :=
  ⟨fun f w hm hd K hK => h f w hm hd K (by rw [hs] at hK; exact hK)⟩
/-- Something of each operation, with its number. -/
theorem ea_nil {F : Nat → Oper → Prop} {i : Nat} : Each F i [] := trivial
theorem ea_cons {F : Nat → Oper → Prop} {i : Nat} {o : Oper} {r : List Oper} (h : F i o) (k : Each F (i + 1) r) : Each F i (o :: r) := ⟨h, k⟩
/-- What lies in the slots, by the list. -/
def slo (n : Nat) (l : List (Nat × Value)) (ops : List Oper) (i : Nat) : Value :=
  match (ops[i]?).bind (·.dst) with
  | some d => bif Nat.blt d n then look l d else undef
  | none => undef
theorem slo_eq (ops : List Oper) : slots (fr n l) ops.toArray = slo n l ops := by
  funext i
  unfold slots slo
  simp only [List.getElem?_toArray]
  cases (ops[i]?).bind (·.dst) with
  | none => rfl
  | some d => exact fr_getD n l d
def isPt : Value → Bool
  | .pointer (some _) => true
  | _ => false
theorem Ds.start {sp : List Sp} {f : Nat → Value} (h : (List.range sp.length).all (fun j => !spNew (spAt sp j) || !isPt (f j)) = true) : Ds sp f w := by
  have hh : ∀ j, spNew (spAt sp j) = true → ∀ k, f j ≠ pt k 0 := fun j hj k e => by
    rcases Nat.lt_or_ge j sp.length with hl | hl
    · have := List.all_eq_true.1 h j (List.mem_range.2 hl)
      simp [hj, e, isPt] at this
    · unfold spAt at hj; rw [List.getElem?_eq_none hl] at hj; cases hj
  exact ⟨fun j hj k hk => (hh j hj k hk).elim, fun i j hi _ _ k hk => (hh i hi k hk).elim⟩
theorem la_mv (x : Operand) (p : Value) (ho : ∀ ρ, execOp ρ o = pure (.value (ρ x))) (hx : evl n l x = p) : ∀ w, (execOp (evl n l) o).run P w = .ok (.value p) w := fun w => by rw [ho, hx]; rfl
theorem la_un (F : Value → Sem Value) (x : Operand) (p v : Value) (ho : ∀ ρ, execOp ρ o = (do pure (.value (← F (ρ x))))) (hx : evl n l x = p) (h : ∀ w, (F p).run P w = .ok v w) : ∀ w, (execOp (evl n l) o).run P w = .ok (.value v) w := fun w => by
  rw [ho, hx]; simp [h]
theorem late_nil {ol : List Oper} {m : Nat} {sp : List Sp} : ∀ i, i ∈ ([] : List Nat) → LateO P ol Q n l m sp i := fun i h => absurd h (by simp)
theorem late_cons {ol : List Oper} {m : Nat} {sp : List Sp} {j : Nat} {r : List Nat} (h : LateO P ol Q n l m sp j) (k : ∀ i, i ∈ r → LateO P ol Q n l m sp i) : ∀ i, i ∈ j :: r → LateO P ol Q n l m sp i := fun i hi => by
  rcases List.mem_cons.1 hi with rfl | hi
  · exact h
  · exact k i hi
theorem w_any {id : Nat} {ol : List Oper} (m : Nat) (sp : List Sp) (fs : List Nat) (hm : P.follows .mixedOrders = true)
    (hb : edgesBack .any ol.toArray = true) (hd : dstsApart (ol.take m) = true) (hc : chainB ol m fs = true) (hl : Nat.ble m ol.length = true) (hf : floatB ol m fs = true) (hns : Region.noSelect ol.toArray = true)
    (hlate : ∀ i, i ∈ fs → LateO P ol Q n l m sp i)
    (hD : Ds sp (slo n l (ol.take m)) w)
    (hs : Each (OgW P ol Q n l m w sp) 0 (ol.take m))
    (hend : ∀ kf w', Mo w w' → (∀ i zs, Nat.blt i m = true → spAt sp i = .inr zs → w.heap.size ≤ kf i ∧ At w' (kf i) zs) → (∀ i j, Nat.blt i m = true → Nat.blt j m = true → spNew (spAt sp i) = true → spNew (spAt sp j) = true → i ≠ j → kf i ≠ kf j) →
      WL P ol.toArray Q (ol.drop m) n (asg (spv sp kf) 0 (ol.take m) l) w') : WC P (Code.region id ol.toArray true) Q n l w := by
  refine ⟨r_any m sp fs hm hb hd hc hl hf hns hlate (by rw [slo_eq]; exact hD) (Each.mono ?_ _ 0 hs) (fun kf w' a b c => (hend kf w' a b c).out)⟩
  intro i o h f w' hmo hdep K hK
  rcases (h.out f w' hmo hdep K hK).out with ⟨hg, h⟩ | ⟨hg, h⟩
  · exact ct hg h.out
  · exact cf hg h
end
end Go.Proofs.YtdcojpbgijkmgaaDoor
/-
  A scope with many labels: what holds at each jump, with a number that falls.
-/
namespace Go.Proofs.YtdcojpbgijkmgaaDoor
open Go.RowKit
/-- As Q; by a goto to the label l: J l. -/
def jumps (J : Nat → Act → World → Prop) (Q : Exit → Act → World → Prop) : Exit → Act → World → Prop
  | .goto l, a, w => J l a w
  | e, a, w => Q e a w
section
variable {P : Program} {n : Nat} {l : List (Nat × Value)} {w : World} {Q : Exit → Act → World → Prop}
theorem wp_scope_many {a : Act} {c : Code} (rest : Nat → Code) (J : Nat → Nat → Act → World → Prop) (hf : ∀ i m a w, J i m a w → findLabel c i = some (rest i))
    (first : c.wp P (jumps (fun i a w => ∃ m, J i m a w) Q) a w)
    (pass : ∀ i m a w, J i m a w → (rest i).wp P (jumps (fun i' a' w' => ∃ m', m' < m ∧ J i' m' a' w') Q) a w) : (Code.scope c).wp P Q a w := by
  intro b k cs
  have key : ∀ m i a w, J i m a w → ∃ e a' w', Q e a' w' ∧ Arrives P (lone (b.at a (.code (rest i) :: .inScope c :: k)) cs w) b k cs e a' w' := by
    intro m
    induction m using Nat.strongRecOn with
    | _ m ih =>
      intro i a w hJ
      obtain ⟨e, a₁, w₁, hq, harr⟩ := pass i m a w hJ b (.inScope c :: k) cs
      cases e with
      | normal => exact ⟨.normal, a₁, w₁, hq, Steps.trans harr (.one step_inScope)⟩
      | exit id => exact ⟨.exit id, a₁, w₁, hq, fun k' hk => harr k' (by simp [exitTo, hk])⟩
      | goto i' =>
        obtain ⟨m', hlt, hJ'⟩ := hq
        obtain ⟨e₂, a₂, w₂, hq₂, harr₂⟩ := ih m' hlt i' a₁ w₁ hJ'
        exact ⟨e₂, a₂, w₂, hq₂, .of_steps (harr _ (by simp [gotoIn, hf i' m' a₁ w₁ hJ'])) harr₂⟩
      | ret => exact ⟨_, a₁, w₁, hq, harr⟩
      | panic ch => exact ⟨_, a₁, w₁, hq, harr⟩
      | outgrown => exact ⟨_, a₁, w₁, hq, harr⟩
  obtain ⟨e, a₁, w₁, hq, harr⟩ := first b (.inScope c :: k) cs
  cases e with
  | normal => exact ⟨.normal, a₁, w₁, hq, .head step_scope (Steps.trans harr (.one step_inScope))⟩
  | exit id => exact ⟨.exit id, a₁, w₁, hq, fun k' hk => .head step_scope (harr k' (by simp [exitTo, hk]))⟩
  | goto i' =>
    obtain ⟨m', hJ'⟩ := hq
    obtain ⟨e₂, a₂, w₂, hq₂, harr₂⟩ := key m' i' a₁ w₁ hJ'
    exact ⟨e₂, a₂, w₂, hq₂, .of_steps (.head step_scope (harr _ (by simp [gotoIn, hf i' m' a₁ w₁ hJ']))) harr₂⟩
  | ret => exact ⟨_, a₁, w₁, hq, .of_steps (.one step_scope) harr⟩
  | panic ch => exact ⟨_, a₁, w₁, hq, .of_steps (.one step_scope) harr⟩
  | outgrown => exact ⟨_, a₁, w₁, hq, .of_steps (.one step_scope) harr⟩
/-- At a jump: the frame is a list of which I holds, with a number below the bound. -/
def jto (n : Nat) (b : Option Nat) (I : Nat → Nat → List (Nat × Value) → World → Prop) : Nat → Act → World → Prop :=
  fun i a w => ∃ m l, (∀ x, b = some x → m < x) ∧ a = fr n l ∧ I i m l w
theorem w_scope {c : Code} (rest : Nat → Code) (I : Nat → Nat → List (Nat × Value) → World → Prop) (hf : ∀ i m l w, I i m l w → findLabel c i = some (rest i))
    (first : WC P c (jumps (jto n none I) Q) n l w)
    (pass : ∀ i m l w, I i m l w → WC P (rest i) (jumps (jto n (some m) I) Q) n l w) : WC P (Code.scope c) Q n l w := by
  refine ⟨wp_scope_many rest (fun i m a w => ∃ l, a = fr n l ∧ I i m l w) (fun i m a w ⟨l, _, h⟩ => hf i m l w h) (Code.wp_mono ?_ first.out) ?_⟩
  · intro e a' w' hq
    cases e with
    | goto i => obtain ⟨m, l, _, h2, h3⟩ := hq; exact ⟨m, l, h2, h3⟩
    | _ => exact hq
  · rintro i m a w ⟨l, rfl, hI⟩
    refine Code.wp_mono ?_ (pass i m l w hI).out
    intro e a' w' hq
    cases e with
    | goto i => obtain ⟨m', l', h1, h2, h3⟩ := hq; exact ⟨m', h1 m rfl, l', h2, h3⟩
    | _ => exact hq
theorem w_goto {i : Nat} (h : WX Q (.goto i) n l w) : WC P (.goto i) Q n l w := ⟨wp_goto h.out⟩
theorem xg_then {next : Act → World → Prop} {i : Nat} (h : WX Q (.goto i) n l w) : WX (Exit.then next Q) (.goto i) n l w := ⟨h.out⟩
theorem xg_jump0 {I : Nat → Nat → List (Nat × Value) → World → Prop} {i : Nat} (m : Nat) (h : I i m l w) : WX (jumps (jto n none I) Q) (.goto i) n l w := ⟨⟨m, l, (fun _ h => by cases h), rfl, h⟩⟩
theorem xg_jump {I : Nat → Nat → List (Nat × Value) → World → Prop} {i b : Nat} (m : Nat) (hlt : m < b) (h : I i m l w) : WX (jumps (jto n (some b) I) Q) (.goto i) n l w := ⟨⟨m, l, (fun _ h => by cases h; exact hlt), rfl, h⟩⟩
theorem xr_jumps {J : Nat → Act → World → Prop} (h : WX Q .ret n l w) : WX (jumps J Q) .ret n l w := ⟨h.out⟩
theorem xn_jumps {J : Nat → Act → World → Prop} (h : WX Q .normal n l w) : WX (jumps J Q) .normal n l w := ⟨h.out⟩
end
end Go.Proofs.YtdcojpbgijkmgaaDoor
/-
  dectext.Prefix, whatever the text.
-/
namespace Go.Proofs.YtdcojpbgijkmgaaDoor
open Go.RowKit
theorem eq5r {a b : Int} {r : Bool} (h : (a == b) = r) (x y : Operand) (w : World) : (do eqGuard .eql 5 x y (.int .u8 a) (.int .u8 b); binOp .eql 5 (.int .u8 a) (.int .u8 b)).run Tryd.prog w = .ok (.bool r) w := by
  subst h; kernel_rfl
theorem ne5r {a b : Int} {r : Bool} (h : (a == b) = r) (x y : Operand) (w : World) : (do eqGuard .neq 5 x y (.int .u8 a) (.int .u8 b); binOp .neq 5 (.int .u8 a) (.int .u8 b)).run Tryd.prog w = .ok (.bool (!r)) w := by
  subst h; kernel_rfl
theorem add1r {k : Nat} (hk : k ≤ 9223372036854775806) (x y : Operand) (w : World) : (do eqGuard .add 3 x y (.int .i64 (k : Int)) (.int .i64 1); binOp .add 3 (.int .i64 (k : Int)) (.int .i64 1)).run Tryd.prog w = .ok (.int .i64 ((k + 1 : Nat) : Int)) w := by
  have e : (do eqGuard .add 3 x y (.int .i64 (k : Int)) (.int .i64 1); binOp .add 3 (.int .i64 (k : Int)) (.int .i64 1)).run Tryd.prog w = .ok (.int .i64 (IntKind.i64.wrap ((k : Int) + 1))) w := by kernel_rfl
  have h : IntKind.i64.wrap ((k : Int) + 1) = ((k + 1 : Nat) : Int) := by rw [IntKind.wrap_i64]; omega
  rw [e, h]
theorem dgt_in {s : ByteArray} {k : Nat} (h : dgt (bt s k) = true) : k < s.size := by
  by_cases hk : k < s.size
  · exact hk
  · rw [bt_out hk] at h; cases h
theorem eq_in {s : ByteArray} {k : Nat} {c : Int} (hc : 0 < c) (h : (bt s k == c) = true) : k < s.size := by
  by_cases hk : k < s.size
  · exact hk
  · rw [bt_out hk] at h; have := eq_of_beq h; omega
/-- Where a run of digits ends. -/
def re (s : ByteArray) (k : Nat) : Nat := if h : dgt (bt s k) = true then (have : k < s.size := dgt_in h; re s (k + 1)) else k
/-- Is a run of digits all 0? -/
def az (s : ByteArray) (k : Nat) : Bool := if h : dgt (bt s k) = true then (have : k < s.size := dgt_in h; (bt s k == 48) && az s (k + 1)) else true
theorem re_on {s : ByteArray} {k : Nat} (h : dgt (bt s k) = true) : re s k = re s (k + 1) := by rw [re, dif_pos h]
theorem re_end {s : ByteArray} {k : Nat} (h : dgt (bt s k) = false) : re s k = k := by rw [re, dif_neg (by rw [h]; simp)]
theorem az_on {s : ByteArray} {k : Nat} (h : dgt (bt s k) = true) : az s k = ((bt s k == 48) && az s (k + 1)) := by rw [az, dif_pos h]
theorem az_end {s : ByteArray} {k : Nat} (h : dgt (bt s k) = false) : az s k = true := by rw [az, dif_neg (by rw [h]; simp)]
/-- Behind the digits ahead of the point. -/
def ah (s : ByteArray) (p : Nat) (nought : Bool) (e : Nat) : Nat :=
  if (bt s p == 46) && dgt (bt s (p + 1)) then (if nought && az s (p + 1) then (if nought then e else p) else re s (p + 1)) else (if nought then e else p)
/-- At the first digit. -/
def fi (s : ByteArray) (p : Nat) (nought : Bool) : Nat := if bt s p == 48 then ah s (p + 1) nought 0 else if dgt (bt s p) then ah s (re s p) false 0 else 0
/-- How long the longest beginning is that is a decimal text. -/
def pfx (s : ByteArray) : Nat := if bt s 0 == 45 then fi s 1 true else fi s 0 false
/-- What is left to do at each label. -/
def PR (s : ByteArray) (R : Nat) : Nat → Nat → Nat → Bool → Prop
  | 0, k, e, _ => (bt s k == 45) = true ∧ fi s (k + 1) true = R ∧ e = 0
  | 1, k, e, b => fi s k b = R ∧ e = 0
  | 2, k, e, b => ah s k b e = R
  | 3, k, e, _ => dgt (bt s k) = true ∧ ah s (re s k) false 0 = R ∧ e = 0
  | 4, k, e, b => dgt (bt s k) = true ∧ (if b && az s k then e else re s k) = R
  | _, _, _, _ => False
def lb (i : Nat) : Nat := if i = 3 then 0 else 1
def PI (s : ByteArray) (R : Nat) (w : World) (i m : Nat) (l : List (Nat × Value)) (w1 : World) : Prop :=
  ∃ (k e : Nat) (b : Bool), look l 0 = .string s ∧ look l 3 = .int .i64 (k : Int) ∧ look l 4 = .int .i64 (e : Int) ∧ look l 5 = .bool b ∧ k ≤ s.size ∧ m = 2 * (s.size + 1 - k) + lb i ∧ PR s R i k e b ∧ Mo w w1
theorem w_scope1 {P : Program} {n : Nat} {l : List (Nat × Value)} {w : World} {Q : Exit → Act → World → Prop} {c : Code} (I : Nat → Nat → List (Nat × Value) → World → Prop) (hf : ∀ i m l w, I i m l w → (findLabel c i).isSome = true)
    (first : WC P c (jumps (jto n none I) Q) n l w)
    (pass : ∀ i m l w, I i m l w → WC P ((findLabel c i).getD .skip) (jumps (jto n (some m) I) Q) n l w) : WC P (Code.scope c) Q n l w :=
  w_scope (fun i => (findLabel c i).getD .skip) I (fun i m l w h => by obtain ⟨x, hx⟩ := Option.isSome_iff_exists.1 (hf i m l w h); rw [hx]; rfl) first pass
theorem prefix_n (s : ByteArray) (w : World) (hs : s.size ≤ maxLen) : Calls Tryd.prog 17 #[.string s] w fun e w' => e = .returned (.int .i64 (pfx s : Int)) ∧ Mo w w' := by
  refine w_enter 60 Tryd.func17 Tryd.ntmps17 rfl rfl ?_
  have M : Mo w w := Mo.refl _
  refine w_seq ?_
  refine w_reg ?_
  refine wl_mv (.const (.int .i64 (0))) (.int .i64 (0)) (fun _ => rfl) rfl rfl ?_
  refine w_nil ?_
  refine xn_then ?_
  refine w_scope1 (PI s (pfx s) w) ?_ ?_ ?_
  · rintro i m l w1 ⟨k, e, b, _, _, _, _, _, _, hp, _⟩
    match i, hp with
    | 0, _ => rfl
    | 1, _ => rfl
    | 2, _ => rfl
    | 3, _ => rfl
    | 4, _ => rfl
  · cases hb : (bt s 0 == 45) with
    | true =>
      refine w_seq ?_
      refine w_reg ?_
      refine wl_mv (.const (.int .i64 (0))) (.int .i64 (0)) (fun _ => rfl) rfl rfl ?_
      refine wl_mv (.const (.int .i64 (0))) (.int .i64 (0)) (fun _ => rfl) rfl rfl ?_
      refine w_nil ?_
      refine xn_then ?_
      refine w_seq ?_
      refine w_reg ?_
      refine wl_mv (.const (.bool false)) (.bool false) (fun _ => rfl) rfl rfl ?_
      refine w_nil ?_
      refine xn_then ?_
      refine w_seq ?_
      refine w_seq ?_
      refine w_reg ?_
      refine wl_mv (.tmp 0) (.string s) (fun _ => rfl) rfl rfl ?_
      refine wl_mv (.tmp 3) (.int .i64 (0)) (fun _ => rfl) rfl rfl ?_
      refine wl_call 37 [(.tmp 6), (.tmp 7)] _ [.string s, .int .i64 (0)] (.int .u8 (bt s 0)) rfl rfl (fun _ _ => by kernel_rfl) (byteAt_n s 0 _) rfl ?_
      intro w1 hq
      replace M := M.trans hq
      clear hq
      refine wl_bin (fun x y => do eqGuard .eql 5 (.tmp 8) (.const (.int .u8 (45))) x y; binOp .eql 5 x y) (.tmp 8) (.const (.int .u8 (45))) (.int .u8 (bt s 0)) (.int .u8 (45)) (.bool true) (fun _ => rfl) rfl rfl (eq5r hb _ _ _) rfl ?_
      refine w_nil ?_
      refine xn_then ?_
      refine w_condT rfl ?_
      refine w_goto ?_
      refine xg_then ?_
      exact xg_jump0 _ ⟨0, 0, false, rfl, rfl, rfl, rfl, by omega, rfl, ⟨hb, by unfold pfx; rw [hb]; rfl, rfl⟩, M⟩
    | false =>
      refine w_seq ?_
      refine w_reg ?_
      refine wl_mv (.const (.int .i64 (0))) (.int .i64 (0)) (fun _ => rfl) rfl rfl ?_
      refine wl_mv (.const (.int .i64 (0))) (.int .i64 (0)) (fun _ => rfl) rfl rfl ?_
      refine w_nil ?_
      refine xn_then ?_
      refine w_seq ?_
      refine w_reg ?_
      refine wl_mv (.const (.bool false)) (.bool false) (fun _ => rfl) rfl rfl ?_
      refine w_nil ?_
      refine xn_then ?_
      refine w_seq ?_
      refine w_seq ?_
      refine w_reg ?_
      refine wl_mv (.tmp 0) (.string s) (fun _ => rfl) rfl rfl ?_
      refine wl_mv (.tmp 3) (.int .i64 (0)) (fun _ => rfl) rfl rfl ?_
      refine wl_call 37 [(.tmp 6), (.tmp 7)] _ [.string s, .int .i64 (0)] (.int .u8 (bt s 0)) rfl rfl (fun _ _ => by kernel_rfl) (byteAt_n s 0 _) rfl ?_
      intro w1 hq
      replace M := M.trans hq
      clear hq
      refine wl_bin (fun x y => do eqGuard .eql 5 (.tmp 8) (.const (.int .u8 (45))) x y; binOp .eql 5 x y) (.tmp 8) (.const (.int .u8 (45))) (.int .u8 (bt s 0)) (.int .u8 (45)) (.bool false) (fun _ => rfl) rfl rfl (eq5r hb _ _ _) rfl ?_
      refine w_nil ?_
      refine xn_then ?_
      refine w_condF rfl ?_
      refine w_skip ?_
      refine xn_then ?_
      refine w_seq ?_
      refine w_goto ?_
      refine xg_then ?_
      exact xg_jump0 _ ⟨0, 0, false, rfl, rfl, rfl, rfl, by omega, rfl, ⟨by unfold pfx; rw [hb]; rfl, rfl⟩, M⟩
  · clear M
    rintro i m l wl ⟨k, e, b, e0, e3, e4, e5, hk, hm, hp, M⟩
    subst hm
    match i, hp with
    | 0, hp =>
      obtain ⟨h1, h2, rfl⟩ := hp
      have hin := eq_in (by decide) h1
      have hov : k ≤ 9223372036854775806 := by unfold maxLen at hs; omega
      refine w_seq ?_
      refine w_skip ?_
      refine xn_then ?_
      refine w_seq ?_
      refine w_reg ?_
      refine wl_mv (.const (.bool true)) (.bool true) (fun _ => rfl) rfl rfl ?_
      refine w_nil ?_
      refine xn_then ?_
      refine w_seq ?_
      refine w_reg ?_
      refine wl_mv (.tmp 3) (.int .i64 ((k : Int))) (fun _ => rfl) e3 rfl ?_
      refine wl_bin (fun x y => do eqGuard .add 3 (.tmp 10) (.const (.int .i64 (1))) x y; binOp .add 3 x y) (.tmp 10) (.const (.int .i64 (1))) (.int .i64 ((k : Int))) (.int .i64 (1)) (.int .i64 (((k + 1 : Nat) : Int))) (fun _ => rfl) rfl rfl (add1r hov _ _ _) rfl ?_
      refine wl_mv (.tmp 11) (.int .i64 (((k + 1 : Nat) : Int))) (fun _ => rfl) rfl rfl ?_
      refine w_nil ?_
      refine xn_then ?_
      refine w_seq ?_
      refine w_goto ?_
      refine xg_then ?_
      exact xg_jump (2 * (s.size + 1 - (k + 1)) + lb 1) (by simp only [lb]; simp <;> omega) ⟨(k + 1), 0, true, e0, rfl, e4, rfl, by omega, rfl, ⟨h2, rfl⟩, M⟩
    | 1, hp =>
      obtain ⟨h2, rfl⟩ := hp
      cases h1 : (bt s k == 48) with
      | true =>
        have hin := eq_in (by decide) h1
        have hov : k ≤ 9223372036854775806 := by unfold maxLen at hs; omega
        refine w_seq ?_
        refine w_skip ?_
        refine xn_then ?_
        refine w_seq ?_
        refine w_seq ?_
        refine w_reg ?_
        refine wl_mv (.tmp 0) (.string s) (fun _ => rfl) e0 rfl ?_
        refine wl_mv (.tmp 3) (.int .i64 ((k : Int))) (fun _ => rfl) e3 rfl ?_
        refine wl_call 37 [(.tmp 12), (.tmp 13)] _ [.string s, .int .i64 ((k : Int))] (.int .u8 (bt s k)) rfl rfl (fun _ _ => by kernel_rfl) (byteAt_n s k _) rfl ?_
        intro w1 hq
        replace M := M.trans hq
        clear hq
        refine wl_bin (fun x y => do eqGuard .eql 5 (.tmp 14) (.const (.int .u8 (48))) x y; binOp .eql 5 x y) (.tmp 14) (.const (.int .u8 (48))) (.int .u8 (bt s k)) (.int .u8 (48)) (.bool true) (fun _ => rfl) rfl rfl (eq5r h1 _ _ _) rfl ?_
        refine w_nil ?_
        refine xn_then ?_
        refine w_condT rfl ?_
        refine w_seq ?_
        refine w_reg ?_
        refine wl_mv (.tmp 3) (.int .i64 ((k : Int))) (fun _ => rfl) e3 rfl ?_
        refine wl_bin (fun x y => do eqGuard .add 3 (.tmp 16) (.const (.int .i64 (1))) x y; binOp .add 3 x y) (.tmp 16) (.const (.int .i64 (1))) (.int .i64 ((k : Int))) (.int .i64 (1)) (.int .i64 (((k + 1 : Nat) : Int))) (fun _ => rfl) rfl rfl (add1r hov _ _ _) rfl ?_
        refine wl_mv (.tmp 17) (.int .i64 (((k + 1 : Nat) : Int))) (fun _ => rfl) rfl rfl ?_
        refine w_nil ?_
        refine xn_then ?_
        refine w_goto ?_
        refine xg_then ?_
        exact xg_jump (2 * (s.size + 1 - (k + 1)) + lb 2) (by simp only [lb]; simp <;> omega) ⟨(k + 1), 0, (b), e0, rfl, e4, e5, by omega, rfl, by unfold fi at h2; rw [h1] at h2; exact h2, M⟩
      | false =>
        cases hd : dgt (bt s k) with
        | true =>
          have hdc : ∀ w, Calls Tryd.prog 38 #[.int .u8 (bt s k)] w fun e w' => e = .returned (.bool true) ∧ Mo w w' := fun w => by have := isDigit_n (bt s k) w; rw [hd] at this; exact this
          refine w_seq ?_
          refine w_skip ?_
          refine xn_then ?_
          refine w_seq ?_
          refine w_seq ?_
          refine w_reg ?_
          refine wl_mv (.tmp 0) (.string s) (fun _ => rfl) e0 rfl ?_
          refine wl_mv (.tmp 3) (.int .i64 ((k : Int))) (fun _ => rfl) e3 rfl ?_
          refine wl_call 37 [(.tmp 12), (.tmp 13)] _ [.string s, .int .i64 ((k : Int))] (.int .u8 (bt s k)) rfl rfl (fun _ _ => by kernel_rfl) (byteAt_n s k _) rfl ?_
          intro w1 hq
          replace M := M.trans hq
          clear hq
          refine wl_bin (fun x y => do eqGuard .eql 5 (.tmp 14) (.const (.int .u8 (48))) x y; binOp .eql 5 x y) (.tmp 14) (.const (.int .u8 (48))) (.int .u8 (bt s k)) (.int .u8 (48)) (.bool false) (fun _ => rfl) rfl rfl (eq5r h1 _ _ _) rfl ?_
          refine w_nil ?_
          refine xn_then ?_
          refine w_condF rfl ?_
          refine w_skip ?_
          refine xn_then ?_
          refine w_seq ?_
          refine w_seq ?_
          refine w_reg ?_
          refine wl_mv (.tmp 0) (.string s) (fun _ => rfl) e0 rfl ?_
          refine wl_mv (.tmp 3) (.int .i64 ((k : Int))) (fun _ => rfl) e3 rfl ?_
          refine wl_call 37 [(.tmp 18), (.tmp 19)] _ [.string s, .int .i64 ((k : Int))] (.int .u8 (bt s k)) rfl rfl (fun _ _ => by kernel_rfl) (byteAt_n s k _) rfl ?_
          intro w2 hq
          replace M := M.trans hq
          clear hq
          refine wl_call 38 [(.tmp 20)] _ [.int .u8 (bt s k)] (.bool true) rfl rfl (fun _ _ => by kernel_rfl) (hdc _) rfl ?_
          intro w3 hq
          replace M := M.trans hq
          clear hq
          refine w_nil ?_
          refine xn_then ?_
          refine w_condT rfl ?_
          refine w_goto ?_
          refine xg_then ?_
          exact xg_jump (2 * (s.size + 1 - k) + lb 3) (by simp only [lb]; simp <;> omega) ⟨k, 0, (b), e0, e3, e4, e5, by omega, rfl, ⟨hd, by unfold fi at h2; rw [h1, hd] at h2; exact h2, rfl⟩, M⟩
        | false =>
          have hdc : ∀ w, Calls Tryd.prog 38 #[.int .u8 (bt s k)] w fun e w' => e = .returned (.bool false) ∧ Mo w w' := fun w => by have := isDigit_n (bt s k) w; rw [hd] at this; exact this
          refine w_seq ?_
          refine w_skip ?_
          refine xn_then ?_
          refine w_seq ?_
          refine w_seq ?_
          refine w_reg ?_
          refine wl_mv (.tmp 0) (.string s) (fun _ => rfl) e0 rfl ?_
          refine wl_mv (.tmp 3) (.int .i64 ((k : Int))) (fun _ => rfl) e3 rfl ?_
          refine wl_call 37 [(.tmp 12), (.tmp 13)] _ [.string s, .int .i64 ((k : Int))] (.int .u8 (bt s k)) rfl rfl (fun _ _ => by kernel_rfl) (byteAt_n s k _) rfl ?_
          intro w1 hq
          replace M := M.trans hq
          clear hq
          refine wl_bin (fun x y => do eqGuard .eql 5 (.tmp 14) (.const (.int .u8 (48))) x y; binOp .eql 5 x y) (.tmp 14) (.const (.int .u8 (48))) (.int .u8 (bt s k)) (.int .u8 (48)) (.bool false) (fun _ => rfl) rfl rfl (eq5r h1 _ _ _) rfl ?_
          refine w_nil ?_
          refine xn_then ?_
          refine w_condF rfl ?_
          refine w_skip ?_
          refine xn_then ?_
          refine w_seq ?_
          refine w_seq ?_
          refine w_reg ?_
          refine wl_mv (.tmp 0) (.string s) (fun _ => rfl) e0 rfl ?_
          refine wl_mv (.tmp 3) (.int .i64 ((k : Int))) (fun _ => rfl) e3 rfl ?_
          refine wl_call 37 [(.tmp 18), (.tmp 19)] _ [.string s, .int .i64 ((k : Int))] (.int .u8 (bt s k)) rfl rfl (fun _ _ => by kernel_rfl) (byteAt_n s k _) rfl ?_
          intro w2 hq
          replace M := M.trans hq
          clear hq
          refine wl_call 38 [(.tmp 20)] _ [.int .u8 (bt s k)] (.bool false) rfl rfl (fun _ _ => by kernel_rfl) (hdc _) rfl ?_
          intro w3 hq
          replace M := M.trans hq
          clear hq
          refine w_nil ?_
          refine xn_then ?_
          refine w_condF rfl ?_
          refine w_skip ?_
          refine xn_then ?_
          refine w_seq ?_
          refine w_seq ?_
          refine w_reg ?_
          refine wl_mv (.tmp 4) (.int .i64 (((0 : Nat) : Int))) (fun _ => rfl) e4 rfl ?_
          refine wl_mv (.tmp 22) (.int .i64 (((0 : Nat) : Int))) (fun _ => rfl) rfl rfl ?_
          refine w_nil ?_
          refine xn_then ?_
          refine w_ret ?_
          refine xr_then ?_
          refine xr_jumps ?_
          exact w_ret1 _ (.int .i64 (((0 : Nat) : Int))) rfl rfl ⟨by unfold fi at h2; rw [h1, hd] at h2; rw [← h2]; rfl, M⟩
    | 3, hp =>
      obtain ⟨h1, h2, rfl⟩ := hp
      have hin := dgt_in h1
      have hov : k ≤ 9223372036854775806 := by unfold maxLen at hs; omega
      rw [re_on h1] at h2
      cases hd : dgt (bt s (k + 1)) with
      | true =>
        have hdc : ∀ w, Calls Tryd.prog 38 #[.int .u8 (bt s (k + 1))] w fun e w' => e = .returned (.bool true) ∧ Mo w w' := fun w => by have := isDigit_n (bt s (k + 1)) w; rw [hd] at this; exact this
        refine w_seq ?_
        refine w_skip ?_
        refine xn_then ?_
        refine w_seq ?_
        refine w_reg ?_
        refine wl_mv (.const (.bool false)) (.bool false) (fun _ => rfl) rfl rfl ?_
        refine w_nil ?_
        refine xn_then ?_
        refine w_seq ?_
        refine w_reg ?_
        refine wl_mv (.tmp 3) (.int .i64 ((k : Int))) (fun _ => rfl) e3 rfl ?_
        refine wl_bin (fun x y => do eqGuard .add 3 (.tmp 23) (.const (.int .i64 (1))) x y; binOp .add 3 x y) (.tmp 23) (.const (.int .i64 (1))) (.int .i64 ((k : Int))) (.int .i64 (1)) (.int .i64 (((k + 1 : Nat) : Int))) (fun _ => rfl) rfl rfl (add1r hov _ _ _) rfl ?_
        refine wl_mv (.tmp 24) (.int .i64 (((k + 1 : Nat) : Int))) (fun _ => rfl) rfl rfl ?_
        refine w_nil ?_
        refine xn_then ?_
        refine w_seq ?_
        refine w_seq ?_
        refine w_reg ?_
        refine wl_mv (.tmp 0) (.string s) (fun _ => rfl) e0 rfl ?_
        refine wl_mv (.tmp 3) (.int .i64 (((k + 1 : Nat) : Int))) (fun _ => rfl) rfl rfl ?_
        refine wl_call 37 [(.tmp 25), (.tmp 26)] _ [.string s, .int .i64 (((k + 1 : Nat) : Int))] (.int .u8 (bt s (k + 1))) rfl rfl (fun _ _ => by kernel_rfl) (byteAt_n s (k + 1) _) rfl ?_
        intro w1 hq
        replace M := M.trans hq
        clear hq
        refine wl_call 38 [(.tmp 27)] _ [.int .u8 (bt s (k + 1))] (.bool true) rfl rfl (fun _ _ => by kernel_rfl) (hdc _) rfl ?_
        intro w2 hq
        replace M := M.trans hq
        clear hq
        refine w_nil ?_
        refine xn_then ?_
        refine w_condT rfl ?_
        refine w_goto ?_
        refine xg_then ?_
        exact xg_jump (2 * (s.size + 1 - (k + 1)) + lb 3) (by simp only [lb]; simp <;> omega) ⟨(k + 1), 0, false, e0, rfl, e4, rfl, by omega, rfl, ⟨hd, h2, rfl⟩, M⟩
      | false =>
        have hdc : ∀ w, Calls Tryd.prog 38 #[.int .u8 (bt s (k + 1))] w fun e w' => e = .returned (.bool false) ∧ Mo w w' := fun w => by have := isDigit_n (bt s (k + 1)) w; rw [hd] at this; exact this
        refine w_seq ?_
        refine w_skip ?_
        refine xn_then ?_
        refine w_seq ?_
        refine w_reg ?_
        refine wl_mv (.const (.bool false)) (.bool false) (fun _ => rfl) rfl rfl ?_
        refine w_nil ?_
        refine xn_then ?_
        refine w_seq ?_
        refine w_reg ?_
        refine wl_mv (.tmp 3) (.int .i64 ((k : Int))) (fun _ => rfl) e3 rfl ?_
        refine wl_bin (fun x y => do eqGuard .add 3 (.tmp 23) (.const (.int .i64 (1))) x y; binOp .add 3 x y) (.tmp 23) (.const (.int .i64 (1))) (.int .i64 ((k : Int))) (.int .i64 (1)) (.int .i64 (((k + 1 : Nat) : Int))) (fun _ => rfl) rfl rfl (add1r hov _ _ _) rfl ?_
        refine wl_mv (.tmp 24) (.int .i64 (((k + 1 : Nat) : Int))) (fun _ => rfl) rfl rfl ?_
        refine w_nil ?_
        refine xn_then ?_
        refine w_seq ?_
        refine w_seq ?_
        refine w_reg ?_
        refine wl_mv (.tmp 0) (.string s) (fun _ => rfl) e0 rfl ?_
        refine wl_mv (.tmp 3) (.int .i64 (((k + 1 : Nat) : Int))) (fun _ => rfl) rfl rfl ?_
        refine wl_call 37 [(.tmp 25), (.tmp 26)] _ [.string s, .int .i64 (((k + 1 : Nat) : Int))] (.int .u8 (bt s (k + 1))) rfl rfl (fun _ _ => by kernel_rfl) (byteAt_n s (k + 1) _) rfl ?_
        intro w1 hq
        replace M := M.trans hq
        clear hq
        refine wl_call 38 [(.tmp 27)] _ [.int .u8 (bt s (k + 1))] (.bool false) rfl rfl (fun _ _ => by kernel_rfl) (hdc _) rfl ?_
        intro w2 hq
        replace M := M.trans hq
        clear hq
        refine w_nil ?_
        refine xn_then ?_
        refine w_condF rfl ?_
        refine w_skip ?_
        refine xn_then ?_
        refine w_seq ?_
        refine w_goto ?_
        refine xg_then ?_
        exact xg_jump (2 * (s.size + 1 - (k + 1)) + lb 2) (by simp only [lb]; simp <;> omega) ⟨(k + 1), 0, false, e0, rfl, e4, rfl, by omega, rfl, by rw [re_end hd] at h2; exact h2, M⟩
    | 2, hp =>
      replace hp : ah s k b e = pfx s := hp
      cases b with
      | true =>
        cases h1 : (bt s k == 46) with
        | true =>
          have hin := eq_in (by decide) h1
          have hov : k ≤ 9223372036854775806 := by unfold maxLen at hs; omega
          cases hd : dgt (bt s (k + 1)) with
          | true =>
            have hdc : ∀ w, Calls Tryd.prog 38 #[.int .u8 (bt s (k + 1))] w fun e w' => e = .returned (.bool true) ∧ Mo w w' := fun w => by have := isDigit_n (bt s (k + 1)) w; rw [hd] at this; exact this
            refine w_seq ?_
            refine w_skip ?_
            refine xn_then ?_
            refine w_seq ?_
            refine w_seq ?_
            refine w_reg ?_
            refine wl_mv (.tmp 5) (.bool true) (fun _ => rfl) e5 rfl ?_
            refine wl_un (fun v => Op.unary .not v) (.tmp 29) (.bool true) (.bool false) (fun _ => rfl) rfl (by kernel_rfl) rfl ?_
            refine w_nil ?_
            refine xn_then ?_
            refine w_condF rfl ?_
            refine w_skip ?_
            refine xn_then ?_
            refine w_seq ?_
            refine w_seq ?_
            refine w_reg ?_
            refine wl_mv (.tmp 0) (.string s) (fun _ => rfl) e0 rfl ?_
            refine wl_mv (.tmp 3) (.int .i64 ((k : Int))) (fun _ => rfl) e3 rfl ?_
            refine wl_call 37 [(.tmp 32), (.tmp 33)] _ [.string s, .int .i64 ((k : Int))] (.int .u8 (bt s k)) rfl rfl (fun _ _ => by kernel_rfl) (byteAt_n s k _) rfl ?_
            intro w1 hq
            replace M := M.trans hq
            clear hq
            refine wl_bin (fun x y => do eqGuard .eql 5 (.tmp 34) (.const (.int .u8 (46))) x y; binOp .eql 5 x y) (.tmp 34) (.const (.int .u8 (46))) (.int .u8 (bt s k)) (.int .u8 (46)) (.bool true) (fun _ => rfl) rfl rfl (eq5r h1 _ _ _) rfl ?_
            refine wl_mv (.tmp 35) (.bool true) (fun _ => rfl) rfl rfl ?_
            refine wl_mv (.tmp 0) (.string s) (fun _ => rfl) e0 rfl ?_
            refine wl_mv (.tmp 3) (.int .i64 ((k : Int))) (fun _ => rfl) e3 rfl ?_
            refine wl_bin (fun x y => do eqGuard .add 3 (.tmp 38) (.const (.int .i64 (1))) x y; binOp .add 3 x y) (.tmp 38) (.const (.int .i64 (1))) (.int .i64 ((k : Int))) (.int .i64 (1)) (.int .i64 (((k + 1 : Nat) : Int))) (fun _ => rfl) rfl rfl (add1r hov _ _ _) rfl ?_
            refine wl_call 37 [(.tmp 37), (.tmp 39)] _ [.string s, .int .i64 (((k + 1 : Nat) : Int))] (.int .u8 (bt s (k + 1))) rfl rfl (fun _ _ => by kernel_rfl) (byteAt_n s (k + 1) _) rfl ?_
            intro w2 hq
            replace M := M.trans hq
            clear hq
            refine wl_call 38 [(.tmp 40)] _ [.int .u8 (bt s (k + 1))] (.bool true) rfl rfl (fun _ _ => by kernel_rfl) (hdc _) rfl ?_
            intro w3 hq
            replace M := M.trans hq
            clear hq
            refine wl_pick (.tmp 36) (.tmp 41) (.const (.bool false)) true (.bool true) (fun _ => rfl) rfl rfl rfl ?_
            refine w_nil ?_
            refine xn_then ?_
            refine w_condT rfl ?_
            refine w_seq ?_
            refine w_reg ?_
            refine wl_mv (.tmp 3) (.int .i64 ((k : Int))) (fun _ => rfl) e3 rfl ?_
            refine wl_bin (fun x y => do eqGuard .add 3 (.tmp 43) (.const (.int .i64 (1))) x y; binOp .add 3 x y) (.tmp 43) (.const (.int .i64 (1))) (.int .i64 ((k : Int))) (.int .i64 (1)) (.int .i64 (((k + 1 : Nat) : Int))) (fun _ => rfl) rfl rfl (add1r hov _ _ _) rfl ?_
            refine wl_mv (.tmp 44) (.int .i64 (((k + 1 : Nat) : Int))) (fun _ => rfl) rfl rfl ?_
            refine w_nil ?_
            refine xn_then ?_
            refine w_goto ?_
            refine xg_then ?_
            exact xg_jump (2 * (s.size + 1 - (k + 1)) + lb 4) (by simp only [lb]; simp <;> omega) ⟨(k + 1), e, true, e0, rfl, e4, e5, by omega, rfl, ⟨hd, by unfold ah at hp; rw [h1, hd] at hp; exact hp⟩, M⟩
          | false =>
            have hdc : ∀ w, Calls Tryd.prog 38 #[.int .u8 (bt s (k + 1))] w fun e w' => e = .returned (.bool false) ∧ Mo w w' := fun w => by have := isDigit_n (bt s (k + 1)) w; rw [hd] at this; exact this
            refine w_seq ?_
            refine w_skip ?_
            refine xn_then ?_
            refine w_seq ?_
            refine w_seq ?_
            refine w_reg ?_
            refine wl_mv (.tmp 5) (.bool true) (fun _ => rfl) e5 rfl ?_
            refine wl_un (fun v => Op.unary .not v) (.tmp 29) (.bool true) (.bool false) (fun _ => rfl) rfl (by kernel_rfl) rfl ?_
            refine w_nil ?_
            refine xn_then ?_
            refine w_condF rfl ?_
            refine w_skip ?_
            refine xn_then ?_
            refine w_seq ?_
            refine w_seq ?_
            refine w_reg ?_
            refine wl_mv (.tmp 0) (.string s) (fun _ => rfl) e0 rfl ?_
            refine wl_mv (.tmp 3) (.int .i64 ((k : Int))) (fun _ => rfl) e3 rfl ?_
            refine wl_call 37 [(.tmp 32), (.tmp 33)] _ [.string s, .int .i64 ((k : Int))] (.int .u8 (bt s k)) rfl rfl (fun _ _ => by kernel_rfl) (byteAt_n s k _) rfl ?_
            intro w1 hq
            replace M := M.trans hq
            clear hq
            refine wl_bin (fun x y => do eqGuard .eql 5 (.tmp 34) (.const (.int .u8 (46))) x y; binOp .eql 5 x y) (.tmp 34) (.const (.int .u8 (46))) (.int .u8 (bt s k)) (.int .u8 (46)) (.bool true) (fun _ => rfl) rfl rfl (eq5r h1 _ _ _) rfl ?_
            refine wl_mv (.tmp 35) (.bool true) (fun _ => rfl) rfl rfl ?_
            refine wl_mv (.tmp 0) (.string s) (fun _ => rfl) e0 rfl ?_
            refine wl_mv (.tmp 3) (.int .i64 ((k : Int))) (fun _ => rfl) e3 rfl ?_
            refine wl_bin (fun x y => do eqGuard .add 3 (.tmp 38) (.const (.int .i64 (1))) x y; binOp .add 3 x y) (.tmp 38) (.const (.int .i64 (1))) (.int .i64 ((k : Int))) (.int .i64 (1)) (.int .i64 (((k + 1 : Nat) : Int))) (fun _ => rfl) rfl rfl (add1r hov _ _ _) rfl ?_
            refine wl_call 37 [(.tmp 37), (.tmp 39)] _ [.string s, .int .i64 (((k + 1 : Nat) : Int))] (.int .u8 (bt s (k + 1))) rfl rfl (fun _ _ => by kernel_rfl) (byteAt_n s (k + 1) _) rfl ?_
            intro w2 hq
            replace M := M.trans hq
            clear hq
            refine wl_call 38 [(.tmp 40)] _ [.int .u8 (bt s (k + 1))] (.bool false) rfl rfl (fun _ _ => by kernel_rfl) (hdc _) rfl ?_
            intro w3 hq
            replace M := M.trans hq
            clear hq
            refine wl_pick (.tmp 36) (.tmp 41) (.const (.bool false)) true (.bool false) (fun _ => rfl) rfl rfl rfl ?_
            refine w_nil ?_
            refine xn_then ?_
            refine w_condF rfl ?_
            refine w_skip ?_
            refine xn_then ?_
            refine w_seq ?_
            refine w_seq ?_
            refine w_reg ?_
            refine wl_mv (.tmp 4) (.int .i64 ((e : Int))) (fun _ => rfl) e4 rfl ?_
            refine wl_mv (.tmp 45) (.int .i64 ((e : Int))) (fun _ => rfl) rfl rfl ?_
            refine w_nil ?_
            refine xn_then ?_
            refine w_ret ?_
            refine xr_then ?_
            refine xr_jumps ?_
            exact w_ret1 _ (.int .i64 ((e : Int))) rfl rfl ⟨by unfold ah at hp; rw [h1, hd] at hp; rw [← hp]; rfl, M⟩
        | false =>
          refine w_seq ?_
          refine w_skip ?_
          refine xn_then ?_
          refine w_seq ?_
          refine w_seq ?_
          refine w_reg ?_
          refine wl_mv (.tmp 5) (.bool true) (fun _ => rfl) e5 rfl ?_
          refine wl_un (fun v => Op.unary .not v) (.tmp 29) (.bool true) (.bool false) (fun _ => rfl) rfl (by kernel_rfl) rfl ?_
          refine w_nil ?_
          refine xn_then ?_
          refine w_condF rfl ?_
          refine w_skip ?_
          refine xn_then ?_
          refine w_seq ?_
          refine w_seq ?_
          refine w_reg ?_
          refine wl_mv (.tmp 0) (.string s) (fun _ => rfl) e0 rfl ?_
          refine wl_mv (.tmp 3) (.int .i64 ((k : Int))) (fun _ => rfl) e3 rfl ?_
          refine wl_call 37 [(.tmp 32), (.tmp 33)] _ [.string s, .int .i64 ((k : Int))] (.int .u8 (bt s k)) rfl rfl (fun _ _ => by kernel_rfl) (byteAt_n s k _) rfl ?_
          intro w1 hq
          replace M := M.trans hq
          clear hq
          refine wl_bin (fun x y => do eqGuard .eql 5 (.tmp 34) (.const (.int .u8 (46))) x y; binOp .eql 5 x y) (.tmp 34) (.const (.int .u8 (46))) (.int .u8 (bt s k)) (.int .u8 (46)) (.bool false) (fun _ => rfl) rfl rfl (eq5r h1 _ _ _) rfl ?_
          refine wl_mv (.tmp 35) (.bool false) (fun _ => rfl) rfl rfl ?_
          refine wl_skip rfl ?_
          refine wl_skip rfl ?_
          refine wl_skip rfl ?_
          refine wl_skip rfl ?_
          refine wl_skip rfl ?_
          refine wl_pick (.tmp 36) (.tmp 41) (.const (.bool false)) false (.bool false) (fun _ => rfl) rfl rfl rfl ?_
          refine w_nil ?_
          refine xn_then ?_
          refine w_condF rfl ?_
          refine w_skip ?_
          refine xn_then ?_
          refine w_seq ?_
          refine w_seq ?_
          refine w_reg ?_
          refine wl_mv (.tmp 4) (.int .i64 ((e : Int))) (fun _ => rfl) e4 rfl ?_
          refine wl_mv (.tmp 45) (.int .i64 ((e : Int))) (fun _ => rfl) rfl rfl ?_
          refine w_nil ?_
          refine xn_then ?_
          refine w_ret ?_
          refine xr_then ?_
          refine xr_jumps ?_
          exact w_ret1 _ (.int .i64 ((e : Int))) rfl rfl ⟨by unfold ah at hp; rw [h1] at hp; rw [← hp]; rfl, M⟩
      | false =>
        cases h1 : (bt s k == 46) with
        | true =>
          have hin := eq_in (by decide) h1
          have hov : k ≤ 9223372036854775806 := by unfold maxLen at hs; omega
          cases hd : dgt (bt s (k + 1)) with
          | true =>
            have hdc : ∀ w, Calls Tryd.prog 38 #[.int .u8 (bt s (k + 1))] w fun e w' => e = .returned (.bool true) ∧ Mo w w' := fun w => by have := isDigit_n (bt s (k + 1)) w; rw [hd] at this; exact this
            refine w_seq ?_
            refine w_skip ?_
            refine xn_then ?_
            refine w_seq ?_
            refine w_seq ?_
            refine w_reg ?_
            refine wl_mv (.tmp 5) (.bool false) (fun _ => rfl) e5 rfl ?_
            refine wl_un (fun v => Op.unary .not v) (.tmp 29) (.bool false) (.bool true) (fun _ => rfl) rfl (by kernel_rfl) rfl ?_
            refine w_nil ?_
            refine xn_then ?_
            refine w_condT rfl ?_
            refine w_reg ?_
            refine wl_mv (.tmp 3) (.int .i64 ((k : Int))) (fun _ => rfl) e3 rfl ?_
            refine wl_mv (.tmp 31) (.int .i64 ((k : Int))) (fun _ => rfl) rfl rfl ?_
            refine w_nil ?_
            refine xn_then ?_
            refine w_seq ?_
            refine w_seq ?_
            refine w_reg ?_
            refine wl_mv (.tmp 0) (.string s) (fun _ => rfl) e0 rfl ?_
            refine wl_mv (.tmp 3) (.int .i64 ((k : Int))) (fun _ => rfl) e3 rfl ?_
            refine wl_call 37 [(.tmp 32), (.tmp 33)] _ [.string s, .int .i64 ((k : Int))] (.int .u8 (bt s k)) rfl rfl (fun _ _ => by kernel_rfl) (byteAt_n s k _) rfl ?_
            intro w1 hq
            replace M := M.trans hq
            clear hq
            refine wl_bin (fun x y => do eqGuard .eql 5 (.tmp 34) (.const (.int .u8 (46))) x y; binOp .eql 5 x y) (.tmp 34) (.const (.int .u8 (46))) (.int .u8 (bt s k)) (.int .u8 (46)) (.bool true) (fun _ => rfl) rfl rfl (eq5r h1 _ _ _) rfl ?_
            refine wl_mv (.tmp 35) (.bool true) (fun _ => rfl) rfl rfl ?_
            refine wl_mv (.tmp 0) (.string s) (fun _ => rfl) e0 rfl ?_
            refine wl_mv (.tmp 3) (.int .i64 ((k : Int))) (fun _ => rfl) e3 rfl ?_
            refine wl_bin (fun x y => do eqGuard .add 3 (.tmp 38) (.const (.int .i64 (1))) x y; binOp .add 3 x y) (.tmp 38) (.const (.int .i64 (1))) (.int .i64 ((k : Int))) (.int .i64 (1)) (.int .i64 (((k + 1 : Nat) : Int))) (fun _ => rfl) rfl rfl (add1r hov _ _ _) rfl ?_
            refine wl_call 37 [(.tmp 37), (.tmp 39)] _ [.string s, .int .i64 (((k + 1 : Nat) : Int))] (.int .u8 (bt s (k + 1))) rfl rfl (fun _ _ => by kernel_rfl) (byteAt_n s (k + 1) _) rfl ?_
            intro w2 hq
            replace M := M.trans hq
            clear hq
            refine wl_call 38 [(.tmp 40)] _ [.int .u8 (bt s (k + 1))] (.bool true) rfl rfl (fun _ _ => by kernel_rfl) (hdc _) rfl ?_
            intro w3 hq
            replace M := M.trans hq
            clear hq
            refine wl_pick (.tmp 36) (.tmp 41) (.const (.bool false)) true (.bool true) (fun _ => rfl) rfl rfl rfl ?_
            refine w_nil ?_
            refine xn_then ?_
            refine w_condT rfl ?_
            refine w_seq ?_
            refine w_reg ?_
            refine wl_mv (.tmp 3) (.int .i64 ((k : Int))) (fun _ => rfl) e3 rfl ?_
            refine wl_bin (fun x y => do eqGuard .add 3 (.tmp 43) (.const (.int .i64 (1))) x y; binOp .add 3 x y) (.tmp 43) (.const (.int .i64 (1))) (.int .i64 ((k : Int))) (.int .i64 (1)) (.int .i64 (((k + 1 : Nat) : Int))) (fun _ => rfl) rfl rfl (add1r hov _ _ _) rfl ?_
            refine wl_mv (.tmp 44) (.int .i64 (((k + 1 : Nat) : Int))) (fun _ => rfl) rfl rfl ?_
            refine w_nil ?_
            refine xn_then ?_
            refine w_goto ?_
            refine xg_then ?_
            exact xg_jump (2 * (s.size + 1 - (k + 1)) + lb 4) (by simp only [lb]; simp <;> omega) ⟨(k + 1), k, false, e0, rfl, rfl, e5, by omega, rfl, ⟨hd, by unfold ah at hp; rw [h1, hd] at hp; exact hp⟩, M⟩
          | false =>
            have hdc : ∀ w, Calls Tryd.prog 38 #[.int .u8 (bt s (k + 1))] w fun e w' => e = .returned (.bool false) ∧ Mo w w' := fun w => by have := isDigit_n (bt s (k + 1)) w; rw [hd] at this; exact this
            refine w_seq ?_
            refine w_skip ?_
            refine xn_then ?_
            refine w_seq ?_
            refine w_seq ?_
            refine w_reg ?_
            refine wl_mv (.tmp 5) (.bool false) (fun _ => rfl) e5 rfl ?_
            refine wl_un (fun v => Op.unary .not v) (.tmp 29) (.bool false) (.bool true) (fun _ => rfl) rfl (by kernel_rfl) rfl ?_
            refine w_nil ?_
            refine xn_then ?_
            refine w_condT rfl ?_
            refine w_reg ?_
            refine wl_mv (.tmp 3) (.int .i64 ((k : Int))) (fun _ => rfl) e3 rfl ?_
            refine wl_mv (.tmp 31) (.int .i64 ((k : Int))) (fun _ => rfl) rfl rfl ?_
            refine w_nil ?_
            refine xn_then ?_
            refine w_seq ?_
            refine w_seq ?_
            refine w_reg ?_
            refine wl_mv (.tmp 0) (.string s) (fun _ => rfl) e0 rfl ?_
            refine wl_mv (.tmp 3) (.int .i64 ((k : Int))) (fun _ => rfl) e3 rfl ?_
            refine wl_call 37 [(.tmp 32), (.tmp 33)] _ [.string s, .int .i64 ((k : Int))] (.int .u8 (bt s k)) rfl rfl (fun _ _ => by kernel_rfl) (byteAt_n s k _) rfl ?_
            intro w1 hq
            replace M := M.trans hq
            clear hq
            refine wl_bin (fun x y => do eqGuard .eql 5 (.tmp 34) (.const (.int .u8 (46))) x y; binOp .eql 5 x y) (.tmp 34) (.const (.int .u8 (46))) (.int .u8 (bt s k)) (.int .u8 (46)) (.bool true) (fun _ => rfl) rfl rfl (eq5r h1 _ _ _) rfl ?_
            refine wl_mv (.tmp 35) (.bool true) (fun _ => rfl) rfl rfl ?_
            refine wl_mv (.tmp 0) (.string s) (fun _ => rfl) e0 rfl ?_
            refine wl_mv (.tmp 3) (.int .i64 ((k : Int))) (fun _ => rfl) e3 rfl ?_
            refine wl_bin (fun x y => do eqGuard .add 3 (.tmp 38) (.const (.int .i64 (1))) x y; binOp .add 3 x y) (.tmp 38) (.const (.int .i64 (1))) (.int .i64 ((k : Int))) (.int .i64 (1)) (.int .i64 (((k + 1 : Nat) : Int))) (fun _ => rfl) rfl rfl (add1r hov _ _ _) rfl ?_
            refine wl_call 37 [(.tmp 37), (.tmp 39)] _ [.string s, .int .i64 (((k + 1 : Nat) : Int))] (.int .u8 (bt s (k + 1))) rfl rfl (fun _ _ => by kernel_rfl) (byteAt_n s (k + 1) _) rfl ?_
            intro w2 hq
            replace M := M.trans hq
            clear hq
            refine wl_call 38 [(.tmp 40)] _ [.int .u8 (bt s (k + 1))] (.bool false) rfl rfl (fun _ _ => by kernel_rfl) (hdc _) rfl ?_
            intro w3 hq
            replace M := M.trans hq
            clear hq
            refine wl_pick (.tmp 36) (.tmp 41) (.const (.bool false)) true (.bool false) (fun _ => rfl) rfl rfl rfl ?_
            refine w_nil ?_
            refine xn_then ?_
            refine w_condF rfl ?_
            refine w_skip ?_
            refine xn_then ?_
            refine w_seq ?_
            refine w_seq ?_
            refine w_reg ?_
            refine wl_mv (.tmp 4) (.int .i64 ((k : Int))) (fun _ => rfl) rfl rfl ?_
            refine wl_mv (.tmp 45) (.int .i64 ((k : Int))) (fun _ => rfl) rfl rfl ?_
            refine w_nil ?_
            refine xn_then ?_
            refine w_ret ?_
            refine xr_then ?_
            refine xr_jumps ?_
            exact w_ret1 _ (.int .i64 ((k : Int))) rfl rfl ⟨by unfold ah at hp; rw [h1, hd] at hp; rw [← hp]; rfl, M⟩
        | false =>
          refine w_seq ?_
          refine w_skip ?_
          refine xn_then ?_
          refine w_seq ?_
          refine w_seq ?_
          refine w_reg ?_
          refine wl_mv (.tmp 5) (.bool false) (fun _ => rfl) e5 rfl ?_
          refine wl_un (fun v => Op.unary .not v) (.tmp 29) (.bool false) (.bool true) (fun _ => rfl) rfl (by kernel_rfl) rfl ?_
          refine w_nil ?_
          refine xn_then ?_
          refine w_condT rfl ?_
          refine w_reg ?_
          refine wl_mv (.tmp 3) (.int .i64 ((k : Int))) (fun _ => rfl) e3 rfl ?_
          refine wl_mv (.tmp 31) (.int .i64 ((k : Int))) (fun _ => rfl) rfl rfl ?_
          refine w_nil ?_
          refine xn_then ?_
          refine w_seq ?_
          refine w_seq ?_
          refine w_reg ?_
          refine wl_mv (.tmp 0) (.string s) (fun _ => rfl) e0 rfl ?_
          refine wl_mv (.tmp 3) (.int .i64 ((k : Int))) (fun _ => rfl) e3 rfl ?_
          refine wl_call 37 [(.tmp 32), (.tmp 33)] _ [.string s, .int .i64 ((k : Int))] (.int .u8 (bt s k)) rfl rfl (fun _ _ => by kernel_rfl) (byteAt_n s k _) rfl ?_
          intro w1 hq
          replace M := M.trans hq
          clear hq
          refine wl_bin (fun x y => do eqGuard .eql 5 (.tmp 34) (.const (.int .u8 (46))) x y; binOp .eql 5 x y) (.tmp 34) (.const (.int .u8 (46))) (.int .u8 (bt s k)) (.int .u8 (46)) (.bool false) (fun _ => rfl) rfl rfl (eq5r h1 _ _ _) rfl ?_
          refine wl_mv (.tmp 35) (.bool false) (fun _ => rfl) rfl rfl ?_
          refine wl_skip rfl ?_
          refine wl_skip rfl ?_
          refine wl_skip rfl ?_
          refine wl_skip rfl ?_
          refine wl_skip rfl ?_
          refine wl_pick (.tmp 36) (.tmp 41) (.const (.bool false)) false (.bool false) (fun _ => rfl) rfl rfl rfl ?_
          refine w_nil ?_
          refine xn_then ?_
          refine w_condF rfl ?_
          refine w_skip ?_
          refine xn_then ?_
          refine w_seq ?_
          refine w_seq ?_
          refine w_reg ?_
          refine wl_mv (.tmp 4) (.int .i64 ((k : Int))) (fun _ => rfl) rfl rfl ?_
          refine wl_mv (.tmp 45) (.int .i64 ((k : Int))) (fun _ => rfl) rfl rfl ?_
          refine w_nil ?_
          refine xn_then ?_
          refine w_ret ?_
          refine xr_then ?_
          refine xr_jumps ?_
          exact w_ret1 _ (.int .i64 ((k : Int))) rfl rfl ⟨by unfold ah at hp; rw [h1] at hp; rw [← hp]; rfl, M⟩
    | 4, hp =>
      obtain ⟨h1, h2⟩ := hp
      have hin := dgt_in h1
      have hov : k ≤ 9223372036854775806 := by unfold maxLen at hs; omega
      rw [re_on h1, az_on h1] at h2
      cases b with
      | true =>
        cases h3 : (bt s k == 48) with
        | true =>
          rw [h3] at h2
          cases hd : dgt (bt s (k + 1)) with
          | true =>
            have hdc : ∀ w, Calls Tryd.prog 38 #[.int .u8 (bt s (k + 1))] w fun e w' => e = .returned (.bool true) ∧ Mo w w' := fun w => by have := isDigit_n (bt s (k + 1)) w; rw [hd] at this; exact this
            refine w_seq ?_
            refine w_skip ?_
            refine xn_then ?_
            refine w_seq ?_
            refine w_seq ?_
            refine w_reg ?_
            refine wl_mv (.tmp 0) (.string s) (fun _ => rfl) e0 rfl ?_
            refine wl_mv (.tmp 3) (.int .i64 ((k : Int))) (fun _ => rfl) e3 rfl ?_
            refine wl_call 37 [(.tmp 46), (.tmp 47)] _ [.string s, .int .i64 ((k : Int))] (.int .u8 (bt s k)) rfl rfl (fun _ _ => by kernel_rfl) (byteAt_n s k _) rfl ?_
            intro w1 hq
            replace M := M.trans hq
            clear hq
            refine wl_bin (fun x y => do eqGuard .neq 5 (.tmp 48) (.const (.int .u8 (48))) x y; binOp .neq 5 x y) (.tmp 48) (.const (.int .u8 (48))) (.int .u8 (bt s k)) (.int .u8 (48)) (.bool false) (fun _ => rfl) rfl rfl (ne5r h3 _ _ _) rfl ?_
            refine w_nil ?_
            refine xn_then ?_
            refine w_condF rfl ?_
            refine w_skip ?_
            refine xn_then ?_
            refine w_seq ?_
            refine w_reg ?_
            refine wl_mv (.tmp 3) (.int .i64 ((k : Int))) (fun _ => rfl) e3 rfl ?_
            refine wl_bin (fun x y => do eqGuard .add 3 (.tmp 50) (.const (.int .i64 (1))) x y; binOp .add 3 x y) (.tmp 50) (.const (.int .i64 (1))) (.int .i64 ((k : Int))) (.int .i64 (1)) (.int .i64 (((k + 1 : Nat) : Int))) (fun _ => rfl) rfl rfl (add1r hov _ _ _) rfl ?_
            refine wl_mv (.tmp 51) (.int .i64 (((k + 1 : Nat) : Int))) (fun _ => rfl) rfl rfl ?_
            refine w_nil ?_
            refine xn_then ?_
            refine w_seq ?_
            refine w_seq ?_
            refine w_reg ?_
            refine wl_mv (.tmp 5) (.bool true) (fun _ => rfl) e5 rfl ?_
            refine wl_un (fun v => Op.unary .not v) (.tmp 52) (.bool true) (.bool false) (fun _ => rfl) rfl (by kernel_rfl) rfl ?_
            refine w_nil ?_
            refine xn_then ?_
            refine w_condF rfl ?_
            refine w_skip ?_
            refine xn_then ?_
            refine w_seq ?_
            refine w_seq ?_
            refine w_reg ?_
            refine wl_mv (.tmp 0) (.string s) (fun _ => rfl) e0 rfl ?_
            refine wl_mv (.tmp 3) (.int .i64 (((k + 1 : Nat) : Int))) (fun _ => rfl) rfl rfl ?_
            refine wl_call 37 [(.tmp 55), (.tmp 56)] _ [.string s, .int .i64 (((k + 1 : Nat) : Int))] (.int .u8 (bt s (k + 1))) rfl rfl (fun _ _ => by kernel_rfl) (byteAt_n s (k + 1) _) rfl ?_
            intro w2 hq
            replace M := M.trans hq
            clear hq
            refine wl_call 38 [(.tmp 57)] _ [.int .u8 (bt s (k + 1))] (.bool true) rfl rfl (fun _ _ => by kernel_rfl) (hdc _) rfl ?_
            intro w3 hq
            replace M := M.trans hq
            clear hq
            refine w_nil ?_
            refine xn_then ?_
            refine w_condT rfl ?_
            refine w_goto ?_
            refine xg_then ?_
            exact xg_jump (2 * (s.size + 1 - (k + 1)) + lb 4) (by simp only [lb]; simp <;> omega) ⟨(k + 1), e, true, e0, rfl, e4, e5, by omega, rfl, ⟨hd, by simpa using h2⟩, M⟩
          | false =>
            have hdc : ∀ w, Calls Tryd.prog 38 #[.int .u8 (bt s (k + 1))] w fun e w' => e = .returned (.bool false) ∧ Mo w w' := fun w => by have := isDigit_n (bt s (k + 1)) w; rw [hd] at this; exact this
            refine w_seq ?_
            refine w_skip ?_
            refine xn_then ?_
            refine w_seq ?_
            refine w_seq ?_
            refine w_reg ?_
            refine wl_mv (.tmp 0) (.string s) (fun _ => rfl) e0 rfl ?_
            refine wl_mv (.tmp 3) (.int .i64 ((k : Int))) (fun _ => rfl) e3 rfl ?_
            refine wl_call 37 [(.tmp 46), (.tmp 47)] _ [.string s, .int .i64 ((k : Int))] (.int .u8 (bt s k)) rfl rfl (fun _ _ => by kernel_rfl) (byteAt_n s k _) rfl ?_
            intro w1 hq
            replace M := M.trans hq
            clear hq
            refine wl_bin (fun x y => do eqGuard .neq 5 (.tmp 48) (.const (.int .u8 (48))) x y; binOp .neq 5 x y) (.tmp 48) (.const (.int .u8 (48))) (.int .u8 (bt s k)) (.int .u8 (48)) (.bool false) (fun _ => rfl) rfl rfl (ne5r h3 _ _ _) rfl ?_
            refine w_nil ?_
            refine xn_then ?_
            refine w_condF rfl ?_
            refine w_skip ?_
            refine xn_then ?_
            refine w_seq ?_
            refine w_reg ?_
            refine wl_mv (.tmp 3) (.int .i64 ((k : Int))) (fun _ => rfl) e3 rfl ?_
            refine wl_bin (fun x y => do eqGuard .add 3 (.tmp 50) (.const (.int .i64 (1))) x y; binOp .add 3 x y) (.tmp 50) (.const (.int .i64 (1))) (.int .i64 ((k : Int))) (.int .i64 (1)) (.int .i64 (((k + 1 : Nat) : Int))) (fun _ => rfl) rfl rfl (add1r hov _ _ _) rfl ?_
            refine wl_mv (.tmp 51) (.int .i64 (((k + 1 : Nat) : Int))) (fun _ => rfl) rfl rfl ?_
            refine w_nil ?_
            refine xn_then ?_
            refine w_seq ?_
            refine w_seq ?_
            refine w_reg ?_
            refine wl_mv (.tmp 5) (.bool true) (fun _ => rfl) e5 rfl ?_
            refine wl_un (fun v => Op.unary .not v) (.tmp 52) (.bool true) (.bool false) (fun _ => rfl) rfl (by kernel_rfl) rfl ?_
            refine w_nil ?_
            refine xn_then ?_
            refine w_condF rfl ?_
            refine w_skip ?_
            refine xn_then ?_
            refine w_seq ?_
            refine w_seq ?_
            refine w_reg ?_
            refine wl_mv (.tmp 0) (.string s) (fun _ => rfl) e0 rfl ?_
            refine wl_mv (.tmp 3) (.int .i64 (((k + 1 : Nat) : Int))) (fun _ => rfl) rfl rfl ?_
            refine wl_call 37 [(.tmp 55), (.tmp 56)] _ [.string s, .int .i64 (((k + 1 : Nat) : Int))] (.int .u8 (bt s (k + 1))) rfl rfl (fun _ _ => by kernel_rfl) (byteAt_n s (k + 1) _) rfl ?_
            intro w2 hq
            replace M := M.trans hq
            clear hq
            refine wl_call 38 [(.tmp 57)] _ [.int .u8 (bt s (k + 1))] (.bool false) rfl rfl (fun _ _ => by kernel_rfl) (hdc _) rfl ?_
            intro w3 hq
            replace M := M.trans hq
            clear hq
            refine w_nil ?_
            refine xn_then ?_
            refine w_condF rfl ?_
            refine w_skip ?_
            refine xn_then ?_
            refine w_seq ?_
            refine w_reg ?_
            refine wl_mv (.tmp 4) (.int .i64 ((e : Int))) (fun _ => rfl) e4 rfl ?_
            refine wl_mv (.tmp 59) (.int .i64 ((e : Int))) (fun _ => rfl) rfl rfl ?_
            refine w_nil ?_
            refine xn_then ?_
            refine w_ret ?_
            refine xr_jumps ?_
            exact w_ret1 _ (.int .i64 ((e : Int))) rfl rfl ⟨by rw [re_end hd, az_end hd] at h2; simp at h2; rw [← h2], M⟩
        | false =>
          rw [h3] at h2
          cases hd : dgt (bt s (k + 1)) with
          | true =>
            have hdc : ∀ w, Calls Tryd.prog 38 #[.int .u8 (bt s (k + 1))] w fun e w' => e = .returned (.bool true) ∧ Mo w w' := fun w => by have := isDigit_n (bt s (k + 1)) w; rw [hd] at this; exact this
            refine w_seq ?_
            refine w_skip ?_
            refine xn_then ?_
            refine w_seq ?_
            refine w_seq ?_
            refine w_reg ?_
            refine wl_mv (.tmp 0) (.string s) (fun _ => rfl) e0 rfl ?_
            refine wl_mv (.tmp 3) (.int .i64 ((k : Int))) (fun _ => rfl) e3 rfl ?_
            refine wl_call 37 [(.tmp 46), (.tmp 47)] _ [.string s, .int .i64 ((k : Int))] (.int .u8 (bt s k)) rfl rfl (fun _ _ => by kernel_rfl) (byteAt_n s k _) rfl ?_
            intro w1 hq
            replace M := M.trans hq
            clear hq
            refine wl_bin (fun x y => do eqGuard .neq 5 (.tmp 48) (.const (.int .u8 (48))) x y; binOp .neq 5 x y) (.tmp 48) (.const (.int .u8 (48))) (.int .u8 (bt s k)) (.int .u8 (48)) (.bool true) (fun _ => rfl) rfl rfl (ne5r h3 _ _ _) rfl ?_
            refine w_nil ?_
            refine xn_then ?_
            refine w_condT rfl ?_
            refine w_reg ?_
            refine wl_mv (.const (.bool false)) (.bool false) (fun _ => rfl) rfl rfl ?_
            refine w_nil ?_
            refine xn_then ?_
            refine w_seq ?_
            refine w_reg ?_
            refine wl_mv (.tmp 3) (.int .i64 ((k : Int))) (fun _ => rfl) e3 rfl ?_
            refine wl_bin (fun x y => do eqGuard .add 3 (.tmp 50) (.const (.int .i64 (1))) x y; binOp .add 3 x y) (.tmp 50) (.const (.int .i64 (1))) (.int .i64 ((k : Int))) (.int .i64 (1)) (.int .i64 (((k + 1 : Nat) : Int))) (fun _ => rfl) rfl rfl (add1r hov _ _ _) rfl ?_
            refine wl_mv (.tmp 51) (.int .i64 (((k + 1 : Nat) : Int))) (fun _ => rfl) rfl rfl ?_
            refine w_nil ?_
            refine xn_then ?_
            refine w_seq ?_
            refine w_seq ?_
            refine w_reg ?_
            refine wl_mv (.tmp 5) (.bool false) (fun _ => rfl) rfl rfl ?_
            refine wl_un (fun v => Op.unary .not v) (.tmp 52) (.bool false) (.bool true) (fun _ => rfl) rfl (by kernel_rfl) rfl ?_
            refine w_nil ?_
            refine xn_then ?_
            refine w_condT rfl ?_
            refine w_reg ?_
            refine wl_mv (.tmp 3) (.int .i64 (((k + 1 : Nat) : Int))) (fun _ => rfl) rfl rfl ?_
            refine wl_mv (.tmp 54) (.int .i64 (((k + 1 : Nat) : Int))) (fun _ => rfl) rfl rfl ?_
            refine w_nil ?_
            refine xn_then ?_
            refine w_seq ?_
            refine w_seq ?_
            refine w_reg ?_
            refine wl_mv (.tmp 0) (.string s) (fun _ => rfl) e0 rfl ?_
            refine wl_mv (.tmp 3) (.int .i64 (((k + 1 : Nat) : Int))) (fun _ => rfl) rfl rfl ?_
            refine wl_call 37 [(.tmp 55), (.tmp 56)] _ [.string s, .int .i64 (((k + 1 : Nat) : Int))] (.int .u8 (bt s (k + 1))) rfl rfl (fun _ _ => by kernel_rfl) (byteAt_n s (k + 1) _) rfl ?_
            intro w2 hq
            replace M := M.trans hq
            clear hq
            refine wl_call 38 [(.tmp 57)] _ [.int .u8 (bt s (k + 1))] (.bool true) rfl rfl (fun _ _ => by kernel_rfl) (hdc _) rfl ?_
            intro w3 hq
            replace M := M.trans hq
            clear hq
            refine w_nil ?_
            refine xn_then ?_
            refine w_condT rfl ?_
            refine w_goto ?_
            refine xg_then ?_
            exact xg_jump (2 * (s.size + 1 - (k + 1)) + lb 4) (by simp only [lb]; simp <;> omega) ⟨(k + 1), (k + 1), false, e0, rfl, rfl, rfl, by omega, rfl, ⟨hd, by simpa using h2⟩, M⟩
          | false =>
            have hdc : ∀ w, Calls Tryd.prog 38 #[.int .u8 (bt s (k + 1))] w fun e w' => e = .returned (.bool false) ∧ Mo w w' := fun w => by have := isDigit_n (bt s (k + 1)) w; rw [hd] at this; exact this
            refine w_seq ?_
            refine w_skip ?_
            refine xn_then ?_
            refine w_seq ?_
            refine w_seq ?_
            refine w_reg ?_
            refine wl_mv (.tmp 0) (.string s) (fun _ => rfl) e0 rfl ?_
            refine wl_mv (.tmp 3) (.int .i64 ((k : Int))) (fun _ => rfl) e3 rfl ?_
            refine wl_call 37 [(.tmp 46), (.tmp 47)] _ [.string s, .int .i64 ((k : Int))] (.int .u8 (bt s k)) rfl rfl (fun _ _ => by kernel_rfl) (byteAt_n s k _) rfl ?_
            intro w1 hq
            replace M := M.trans hq
            clear hq
            refine wl_bin (fun x y => do eqGuard .neq 5 (.tmp 48) (.const (.int .u8 (48))) x y; binOp .neq 5 x y) (.tmp 48) (.const (.int .u8 (48))) (.int .u8 (bt s k)) (.int .u8 (48)) (.bool true) (fun _ => rfl) rfl rfl (ne5r h3 _ _ _) rfl ?_
            refine w_nil ?_
            refine xn_then ?_
            refine w_condT rfl ?_
            refine w_reg ?_
            refine wl_mv (.const (.bool false)) (.bool false) (fun _ => rfl) rfl rfl ?_
            refine w_nil ?_
            refine xn_then ?_
            refine w_seq ?_
            refine w_reg ?_
            refine wl_mv (.tmp 3) (.int .i64 ((k : Int))) (fun _ => rfl) e3 rfl ?_
            refine wl_bin (fun x y => do eqGuard .add 3 (.tmp 50) (.const (.int .i64 (1))) x y; binOp .add 3 x y) (.tmp 50) (.const (.int .i64 (1))) (.int .i64 ((k : Int))) (.int .i64 (1)) (.int .i64 (((k + 1 : Nat) : Int))) (fun _ => rfl) rfl rfl (add1r hov _ _ _) rfl ?_
            refine wl_mv (.tmp 51) (.int .i64 (((k + 1 : Nat) : Int))) (fun _ => rfl) rfl rfl ?_
            refine w_nil ?_
            refine xn_then ?_
            refine w_seq ?_
            refine w_seq ?_
            refine w_reg ?_
            refine wl_mv (.tmp 5) (.bool false) (fun _ => rfl) rfl rfl ?_
            refine wl_un (fun v => Op.unary .not v) (.tmp 52) (.bool false) (.bool true) (fun _ => rfl) rfl (by kernel_rfl) rfl ?_
            refine w_nil ?_
            refine xn_then ?_
            refine w_condT rfl ?_
            refine w_reg ?_
            refine wl_mv (.tmp 3) (.int .i64 (((k + 1 : Nat) : Int))) (fun _ => rfl) rfl rfl ?_
            refine wl_mv (.tmp 54) (.int .i64 (((k + 1 : Nat) : Int))) (fun _ => rfl) rfl rfl ?_
            refine w_nil ?_
            refine xn_then ?_
            refine w_seq ?_
            refine w_seq ?_
            refine w_reg ?_
            refine wl_mv (.tmp 0) (.string s) (fun _ => rfl) e0 rfl ?_
            refine wl_mv (.tmp 3) (.int .i64 (((k + 1 : Nat) : Int))) (fun _ => rfl) rfl rfl ?_
            refine wl_call 37 [(.tmp 55), (.tmp 56)] _ [.string s, .int .i64 (((k + 1 : Nat) : Int))] (.int .u8 (bt s (k + 1))) rfl rfl (fun _ _ => by kernel_rfl) (byteAt_n s (k + 1) _) rfl ?_
            intro w2 hq
            replace M := M.trans hq
            clear hq
            refine wl_call 38 [(.tmp 57)] _ [.int .u8 (bt s (k + 1))] (.bool false) rfl rfl (fun _ _ => by kernel_rfl) (hdc _) rfl ?_
            intro w3 hq
            replace M := M.trans hq
            clear hq
            refine w_nil ?_
            refine xn_then ?_
            refine w_condF rfl ?_
            refine w_skip ?_
            refine xn_then ?_
            refine w_seq ?_
            refine w_reg ?_
            refine wl_mv (.tmp 4) (.int .i64 (((k + 1 : Nat) : Int))) (fun _ => rfl) rfl rfl ?_
            refine wl_mv (.tmp 59) (.int .i64 (((k + 1 : Nat) : Int))) (fun _ => rfl) rfl rfl ?_
            refine w_nil ?_
            refine xn_then ?_
            refine w_ret ?_
            refine xr_jumps ?_
            exact w_ret1 _ (.int .i64 (((k + 1 : Nat) : Int))) rfl rfl ⟨by rw [re_end hd, az_end hd] at h2; simp at h2; rw [← h2], M⟩
      | false =>
        cases h3 : (bt s k == 48) with
        | true =>
          rw [h3] at h2
          cases hd : dgt (bt s (k + 1)) with
          | true =>
            have hdc : ∀ w, Calls Tryd.prog 38 #[.int .u8 (bt s (k + 1))] w fun e w' => e = .returned (.bool true) ∧ Mo w w' := fun w => by have := isDigit_n (bt s (k + 1)) w; rw [hd] at this; exact this
            refine w_seq ?_
            refine w_skip ?_
            refine xn_then ?_
            refine w_seq ?_
            refine w_seq ?_
            refine w_reg ?_
            refine wl_mv (.tmp 0) (.string s) (fun _ => rfl) e0 rfl ?_
            refine wl_mv (.tmp 3) (.int .i64 ((k : Int))) (fun _ => rfl) e3 rfl ?_
            refine wl_call 37 [(.tmp 46), (.tmp 47)] _ [.string s, .int .i64 ((k : Int))] (.int .u8 (bt s k)) rfl rfl (fun _ _ => by kernel_rfl) (byteAt_n s k _) rfl ?_
            intro w1 hq
            replace M := M.trans hq
            clear hq
            refine wl_bin (fun x y => do eqGuard .neq 5 (.tmp 48) (.const (.int .u8 (48))) x y; binOp .neq 5 x y) (.tmp 48) (.const (.int .u8 (48))) (.int .u8 (bt s k)) (.int .u8 (48)) (.bool false) (fun _ => rfl) rfl rfl (ne5r h3 _ _ _) rfl ?_
            refine w_nil ?_
            refine xn_then ?_
            refine w_condF rfl ?_
            refine w_skip ?_
            refine xn_then ?_
            refine w_seq ?_
            refine w_reg ?_
            refine wl_mv (.tmp 3) (.int .i64 ((k : Int))) (fun _ => rfl) e3 rfl ?_
            refine wl_bin (fun x y => do eqGuard .add 3 (.tmp 50) (.const (.int .i64 (1))) x y; binOp .add 3 x y) (.tmp 50) (.const (.int .i64 (1))) (.int .i64 ((k : Int))) (.int .i64 (1)) (.int .i64 (((k + 1 : Nat) : Int))) (fun _ => rfl) rfl rfl (add1r hov _ _ _) rfl ?_
            refine wl_mv (.tmp 51) (.int .i64 (((k + 1 : Nat) : Int))) (fun _ => rfl) rfl rfl ?_
            refine w_nil ?_
            refine xn_then ?_
            refine w_seq ?_
            refine w_seq ?_
            refine w_reg ?_
            refine wl_mv (.tmp 5) (.bool false) (fun _ => rfl) e5 rfl ?_
            refine wl_un (fun v => Op.unary .not v) (.tmp 52) (.bool false) (.bool true) (fun _ => rfl) rfl (by kernel_rfl) rfl ?_
            refine w_nil ?_
            refine xn_then ?_
            refine w_condT rfl ?_
            refine w_reg ?_
            refine wl_mv (.tmp 3) (.int .i64 (((k + 1 : Nat) : Int))) (fun _ => rfl) rfl rfl ?_
            refine wl_mv (.tmp 54) (.int .i64 (((k + 1 : Nat) : Int))) (fun _ => rfl) rfl rfl ?_
            refine w_nil ?_
            refine xn_then ?_
            refine w_seq ?_
            refine w_seq ?_
            refine w_reg ?_
            refine wl_mv (.tmp 0) (.string s) (fun _ => rfl) e0 rfl ?_
            refine wl_mv (.tmp 3) (.int .i64 (((k + 1 : Nat) : Int))) (fun _ => rfl) rfl rfl ?_
            refine wl_call 37 [(.tmp 55), (.tmp 56)] _ [.string s, .int .i64 (((k + 1 : Nat) : Int))] (.int .u8 (bt s (k + 1))) rfl rfl (fun _ _ => by kernel_rfl) (byteAt_n s (k + 1) _) rfl ?_
            intro w2 hq
            replace M := M.trans hq
            clear hq
            refine wl_call 38 [(.tmp 57)] _ [.int .u8 (bt s (k + 1))] (.bool true) rfl rfl (fun _ _ => by kernel_rfl) (hdc _) rfl ?_
            intro w3 hq
            replace M := M.trans hq
            clear hq
            refine w_nil ?_
            refine xn_then ?_
            refine w_condT rfl ?_
            refine w_goto ?_
            refine xg_then ?_
            exact xg_jump (2 * (s.size + 1 - (k + 1)) + lb 4) (by simp only [lb]; simp <;> omega) ⟨(k + 1), (k + 1), false, e0, rfl, rfl, e5, by omega, rfl, ⟨hd, by simpa using h2⟩, M⟩
          | false =>
            have hdc : ∀ w, Calls Tryd.prog 38 #[.int .u8 (bt s (k + 1))] w fun e w' => e = .returned (.bool false) ∧ Mo w w' := fun w => by have := isDigit_n (bt s (k + 1)) w; rw [hd] at this; exact this
            refine w_seq ?_
            refine w_skip ?_
            refine xn_then ?_
            refine w_seq ?_
            refine w_seq ?_
            refine w_reg ?_
            refine wl_mv (.tmp 0) (.string s) (fun _ => rfl) e0 rfl ?_
            refine wl_mv (.tmp 3) (.int .i64 ((k : Int))) (fun _ => rfl) e3 rfl ?_
            refine wl_call 37 [(.tmp 46), (.tmp 47)] _ [.string s, .int .i64 ((k : Int))] (.int .u8 (bt s k)) rfl rfl (fun _ _ => by kernel_rfl) (byteAt_n s k _) rfl ?_
            intro w1 hq
            replace M := M.trans hq
            clear hq
            refine wl_bin (fun x y => do eqGuard .neq 5 (.tmp 48) (.const (.int .u8 (48))) x y; binOp .neq 5 x y) (.tmp 48) (.const (.int .u8 (48))) (.int .u8 (bt s k)) (.int .u8 (48)) (.bool false) (fun _ => rfl) rfl rfl (ne5r h3 _ _ _) rfl ?_
            refine w_nil ?_
            refine xn_then ?_
            refine w_condF rfl ?_
            refine w_skip ?_
            refine xn_then ?_
            refine w_seq ?_
            refine w_reg ?_
            refine wl_mv (.tmp 3) (.int .i64 ((k : Int))) (fun _ => rfl) e3 rfl ?_
            refine wl_bin (fun x y => do eqGuard .add 3 (.tmp 50) (.const (.int .i64 (1))) x y; binOp .add 3 x y) (.tmp 50) (.const (.int .i64 (1))) (.int .i64 ((k : Int))) (.int .i64 (1)) (.int .i64 (((k + 1 : Nat) : Int))) (fun _ => rfl) rfl rfl (add1r hov _ _ _) rfl ?_
            refine wl_mv (.tmp 51) (.int .i64 (((k + 1 : Nat) : Int))) (fun _ => rfl) rfl rfl ?_
            refine w_nil ?_
            refine xn_then ?_
            refine w_seq ?_
            refine w_seq ?_
            refine w_reg ?_
            refine wl_mv (.tmp 5) (.bool false) (fun _ => rfl) e5 rfl ?_
            refine wl_un (fun v => Op.unary .not v) (.tmp 52) (.bool false) (.bool true) (fun _ => rfl) rfl (by kernel_rfl) rfl ?_
            refine w_nil ?_
            refine xn_then ?_
            refine w_condT rfl ?_
            refine w_reg ?_
            refine wl_mv (.tmp 3) (.int .i64 (((k + 1 : Nat) : Int))) (fun _ => rfl) rfl rfl ?_
            refine wl_mv (.tmp 54) (.int .i64 (((k + 1 : Nat) : Int))) (fun _ => rfl) rfl rfl ?_
            refine w_nil ?_
            refine xn_then ?_
            refine w_seq ?_
            refine w_seq ?_
            refine w_reg ?_
            refine wl_mv (.tmp 0) (.string s) (fun _ => rfl) e0 rfl ?_
            refine wl_mv (.tmp 3) (.int .i64 (((k + 1 : Nat) : Int))) (fun _ => rfl) rfl rfl ?_
            refine wl_call 37 [(.tmp 55), (.tmp 56)] _ [.string s, .int .i64 (((k + 1 : Nat) : Int))] (.int .u8 (bt s (k + 1))) rfl rfl (fun _ _ => by kernel_rfl) (byteAt_n s (k + 1) _) rfl ?_
            intro w2 hq
            replace M := M.trans hq
            clear hq
            refine wl_call 38 [(.tmp 57)] _ [.int .u8 (bt s (k + 1))] (.bool false) rfl rfl (fun _ _ => by kernel_rfl) (hdc _) rfl ?_
            intro w3 hq
            replace M := M.trans hq
            clear hq
            refine w_nil ?_
            refine xn_then ?_
            refine w_condF rfl ?_
            refine w_skip ?_
            refine xn_then ?_
            refine w_seq ?_
            refine w_reg ?_
            refine wl_mv (.tmp 4) (.int .i64 (((k + 1 : Nat) : Int))) (fun _ => rfl) rfl rfl ?_
            refine wl_mv (.tmp 59) (.int .i64 (((k + 1 : Nat) : Int))) (fun _ => rfl) rfl rfl ?_
            refine w_nil ?_
            refine xn_then ?_
            refine w_ret ?_
            refine xr_jumps ?_
            exact w_ret1 _ (.int .i64 (((k + 1 : Nat) : Int))) rfl rfl ⟨by rw [re_end hd, az_end hd] at h2; simp at h2; rw [← h2], M⟩
        | false =>
          rw [h3] at h2
          cases hd : dgt (bt s (k + 1)) with
          | true =>
            have hdc : ∀ w, Calls Tryd.prog 38 #[.int .u8 (bt s (k + 1))] w fun e w' => e = .returned (.bool true) ∧ Mo w w' := fun w => by have := isDigit_n (bt s (k + 1)) w; rw [hd] at this; exact this
            refine w_seq ?_
            refine w_skip ?_
            refine xn_then ?_
            refine w_seq ?_
            refine w_seq ?_
            refine w_reg ?_
            refine wl_mv (.tmp 0) (.string s) (fun _ => rfl) e0 rfl ?_
            refine wl_mv (.tmp 3) (.int .i64 ((k : Int))) (fun _ => rfl) e3 rfl ?_
            refine wl_call 37 [(.tmp 46), (.tmp 47)] _ [.string s, .int .i64 ((k : Int))] (.int .u8 (bt s k)) rfl rfl (fun _ _ => by kernel_rfl) (byteAt_n s k _) rfl ?_
            intro w1 hq
            replace M := M.trans hq
            clear hq
            refine wl_bin (fun x y => do eqGuard .neq 5 (.tmp 48) (.const (.int .u8 (48))) x y; binOp .neq 5 x y) (.tmp 48) (.const (.int .u8 (48))) (.int .u8 (bt s k)) (.int .u8 (48)) (.bool true) (fun _ => rfl) rfl rfl (ne5r h3 _ _ _) rfl ?_
            refine w_nil ?_
            refine xn_then ?_
            refine w_condT rfl ?_
            refine w_reg ?_
            refine wl_mv (.const (.bool false)) (.bool false) (fun _ => rfl) rfl rfl ?_
            refine w_nil ?_
            refine xn_then ?_
            refine w_seq ?_
            refine w_reg ?_
            refine wl_mv (.tmp 3) (.int .i64 ((k : Int))) (fun _ => rfl) e3 rfl ?_
            refine wl_bin (fun x y => do eqGuard .add 3 (.tmp 50) (.const (.int .i64 (1))) x y; binOp .add 3 x y) (.tmp 50) (.const (.int .i64 (1))) (.int .i64 ((k : Int))) (.int .i64 (1)) (.int .i64 (((k + 1 : Nat) : Int))) (fun _ => rfl) rfl rfl (add1r hov _ _ _) rfl ?_
            refine wl_mv (.tmp 51) (.int .i64 (((k + 1 : Nat) : Int))) (fun _ => rfl) rfl rfl ?_
            refine w_nil ?_
            refine xn_then ?_
            refine w_seq ?_
            refine w_seq ?_
            refine w_reg ?_
            refine wl_mv (.tmp 5) (.bool false) (fun _ => rfl) rfl rfl ?_
            refine wl_un (fun v => Op.unary .not v) (.tmp 52) (.bool false) (.bool true) (fun _ => rfl) rfl (by kernel_rfl) rfl ?_
            refine w_nil ?_
            refine xn_then ?_
            refine w_condT rfl ?_
            refine w_reg ?_
            refine wl_mv (.tmp 3) (.int .i64 (((k + 1 : Nat) : Int))) (fun _ => rfl) rfl rfl ?_
            refine wl_mv (.tmp 54) (.int .i64 (((k + 1 : Nat) : Int))) (fun _ => rfl) rfl rfl ?_
            refine w_nil ?_
            refine xn_then ?_
            refine w_seq ?_
            refine w_seq ?_
            refine w_reg ?_
            refine wl_mv (.tmp 0) (.string s) (fun _ => rfl) e0 rfl ?_
            refine wl_mv (.tmp 3) (.int .i64 (((k + 1 : Nat) : Int))) (fun _ => rfl) rfl rfl ?_
            refine wl_call 37 [(.tmp 55), (.tmp 56)] _ [.string s, .int .i64 (((k + 1 : Nat) : Int))] (.int .u8 (bt s (k + 1))) rfl rfl (fun _ _ => by kernel_rfl) (byteAt_n s (k + 1) _) rfl ?_
            intro w2 hq
            replace M := M.trans hq
            clear hq
            refine wl_call 38 [(.tmp 57)] _ [.int .u8 (bt s (k + 1))] (.bool true) rfl rfl (fun _ _ => by kernel_rfl) (hdc _) rfl ?_
            intro w3 hq
            replace M := M.trans hq
            clear hq
            refine w_nil ?_
            refine xn_then ?_
            refine w_condT rfl ?_
            refine w_goto ?_
            refine xg_then ?_
            exact xg_jump (2 * (s.size + 1 - (k + 1)) + lb 4) (by simp only [lb]; simp <;> omega) ⟨(k + 1), (k + 1), false, e0, rfl, rfl, rfl, by omega, rfl, ⟨hd, by simpa using h2⟩, M⟩
          | false =>
            have hdc : ∀ w, Calls Tryd.prog 38 #[.int .u8 (bt s (k + 1))] w fun e w' => e = .returned (.bool false) ∧ Mo w w' := fun w => by have := isDigit_n (bt s (k + 1)) w; rw [hd] at this; exact this
            refine w_seq ?_
            refine w_skip ?_
            refine xn_then ?_
            refine w_seq ?_
            refine w_seq ?_
            refine w_reg ?_
            refine wl_mv (.tmp 0) (.string s) (fun _ => rfl) e0 rfl ?_
            refine wl_mv (.tmp 3) (.int .i64 ((k : Int))) (fun _ => rfl) e3 rfl ?_
            refine wl_call 37 [(.tmp 46), (.tmp 47)] _ [.string s, .int .i64 ((k : Int))] (.int .u8 (bt s k)) rfl rfl (fun _ _ => by kernel_rfl) (byteAt_n s k _) rfl ?_
            intro w1 hq
            replace M := M.trans hq
            clear hq
            refine wl_bin (fun x y => do eqGuard .neq 5 (.tmp 48) (.const (.int .u8 (48))) x y; binOp .neq 5 x y) (.tmp 48) (.const (.int .u8 (48))) (.int .u8 (bt s k)) (.int .u8 (48)) (.bool true) (fun _ => rfl) rfl rfl (ne5r h3 _ _ _) rfl ?_
            refine w_nil ?_
            refine xn_then ?_
            refine w_condT rfl ?_
            refine w_reg ?_
            refine wl_mv (.const (.bool false)) (.bool false) (fun _ => rfl) rfl rfl ?_
            refine w_nil ?_
            refine xn_then ?_
            refine w_seq ?_
            refine w_reg ?_
            refine wl_mv (.tmp 3) (.int .i64 ((k : Int))) (fun _ => rfl) e3 rfl ?_
            refine wl_bin (fun x y => do eqGuard .add 3 (.tmp 50) (.const (.int .i64 (1))) x y; binOp .add 3 x y) (.tmp 50) (.const (.int .i64 (1))) (.int .i64 ((k : Int))) (.int .i64 (1)) (.int .i64 (((k + 1 : Nat) : Int))) (fun _ => rfl) rfl rfl (add1r hov _ _ _) rfl ?_
            refine wl_mv (.tmp 51) (.int .i64 (((k + 1 : Nat) : Int))) (fun _ => rfl) rfl rfl ?_
            refine w_nil ?_
            refine xn_then ?_
            refine w_seq ?_
            refine w_seq ?_
            refine w_reg ?_
            refine wl_mv (.tmp 5) (.bool false) (fun _ => rfl) rfl rfl ?_
            refine wl_un (fun v => Op.unary .not v) (.tmp 52) (.bool false) (.bool true) (fun _ => rfl) rfl (by kernel_rfl) rfl ?_
            refine w_nil ?_
            refine xn_then ?_
            refine w_condT rfl ?_
            refine w_reg ?_
            refine wl_mv (.tmp 3) (.int .i64 (((k + 1 : Nat) : Int))) (fun _ => rfl) rfl rfl ?_
            refine wl_mv (.tmp 54) (.int .i64 (((k + 1 : Nat) : Int))) (fun _ => rfl) rfl rfl ?_
            refine w_nil ?_
            refine xn_then ?_
            refine w_seq ?_
            refine w_seq ?_
            refine w_reg ?_
            refine wl_mv (.tmp 0) (.string s) (fun _ => rfl) e0 rfl ?_
            refine wl_mv (.tmp 3) (.int .i64 (((k + 1 : Nat) : Int))) (fun _ => rfl) rfl rfl ?_
            refine wl_call 37 [(.tmp 55), (.tmp 56)] _ [.string s, .int .i64 (((k + 1 : Nat) : Int))] (.int .u8 (bt s (k + 1))) rfl rfl (fun _ _ => by kernel_rfl) (byteAt_n s (k + 1) _) rfl ?_
            intro w2 hq
            replace M := M.trans hq
            clear hq
            refine wl_call 38 [(.tmp 57)] _ [.int .u8 (bt s (k + 1))] (.bool false) rfl rfl (fun _ _ => by kernel_rfl) (hdc _) rfl ?_
            intro w3 hq
            replace M := M.trans hq
            clear hq
            refine w_nil ?_
            refine xn_then ?_
            refine w_condF rfl ?_
            refine w_skip ?_
            refine xn_then ?_
            refine w_seq ?_
            refine w_reg ?_
            refine wl_mv (.tmp 4) (.int .i64 (((k + 1 : Nat) : Int))) (fun _ => rfl) rfl rfl ?_
            refine wl_mv (.tmp 59) (.int .i64 (((k + 1 : Nat) : Int))) (fun _ => rfl) rfl rfl ?_
            refine w_nil ?_
            refine xn_then ?_
            refine w_ret ?_
            refine xr_jumps ?_
            exact w_ret1 _ (.int .i64 (((k + 1 : Nat) : Int))) rfl rfl ⟨by rw [re_end hd, az_end hd] at h2; simp at h2; rw [← h2], M⟩
end Go.Proofs.YtdcojpbgijkmgaaDoor
/-
  strings.TrimLeft at one byte, CutPrefix, Repeat, and stringslite.Index at one byte, at this program: the contracts of the library, laid.
-/
namespace Go.Proofs
open Go.Shelf
def Tryd.lays161_ren : Go.Shelf.Ren := ⟨fun | 161 => 54 | 231 => 79 | 227 => 80 | 233 => 81 | 235 => 82 | 228 => 101 | 197 => 102 | 151 => 103 | 260 => 111 | 152 => 112 | 137 => 115 | 119 => 116 | 224 => 98 | 225 => 97 | 217 => 96 | 266 => 109 | n => n, fun | 9 => 9 | 4 => 4 | 3 => 3 | 5 => 5 | 117 => 106 | 116 => 105 | 0 => 0 | 124 => 109 | 105 => 123 | 21 => 21 | 119 => 135 | 46 => 80 | 139 => 138 | 138 => 137 | n => n, fun | 3 => 3 | 4 => 4 | n => n⟩
theorem Tryd.lays161 : Go.Proofs.Lays.n161 Tryd.prog Tryd.lays161_ren := {
  mixed := by kernel_rfl
  f119 := Tryd.func116.trans (congrArg some (by kernel_rfl))
  f137 := Tryd.func115.trans (congrArg some (by kernel_rfl))
  f151 := Tryd.func103.trans (congrArg some (by kernel_rfl))
  f152 := Tryd.func112.trans (congrArg some (by kernel_rfl))
  f161 := Tryd.func54.trans (congrArg some (by kernel_rfl))
  f197 := Tryd.func102.trans (congrArg some (by kernel_rfl))
  f217 := Tryd.func96.trans (congrArg some (by kernel_rfl))
  f224 := Tryd.func98.trans (congrArg some (by kernel_rfl))
  f225 := Tryd.func97.trans (congrArg some (by kernel_rfl))
  f227 := Tryd.func80.trans (congrArg some (by kernel_rfl))
  f228 := Tryd.func101.trans (congrArg some (by kernel_rfl))
  f231 := Tryd.func79.trans (congrArg some (by kernel_rfl))
  f233 := Tryd.func81.trans (congrArg some (by kernel_rfl))
  f235 := Tryd.func82.trans (congrArg some (by kernel_rfl))
  f260 := Tryd.func111.trans (congrArg some (by kernel_rfl))
  f266 := Tryd.func109.trans (congrArg some (by kernel_rfl))
  t0 := Tryd.underlying0
  a0 := Tryd.isAgg0
  z0 := Tryd.sizeOf0
  v0 := Tryd.zeroValue0
  t3 := Tryd.underlying3
  a3 := Tryd.isAgg3
  z3 := Tryd.sizeOf3
  v3 := Tryd.zeroValue3
  t4 := Tryd.underlying4
  a4 := Tryd.isAgg4
  z4 := Tryd.sizeOf4
  v4 := Tryd.zeroValue4
  t5 := Tryd.underlying5
  a5 := Tryd.isAgg5
  z5 := Tryd.sizeOf5
  v5 := Tryd.zeroValue5
  t9 := Tryd.underlying9
  a9 := Tryd.isAgg9
  z9 := Tryd.sizeOf9
  v9 := Tryd.zeroValue9
  t21 := Tryd.underlying21
  a21 := Tryd.isAgg21
  z21 := Tryd.sizeOf21
  v21 := Tryd.zeroValue21
  t46 := Tryd.underlying80
  a46 := Tryd.isAgg80
  z46 := Tryd.sizeOf80
  v46 := Tryd.zeroValue80
  t105 := Tryd.underlying123
  a105 := Tryd.isAgg123
  z105 := Tryd.sizeOf123
  v105 := Tryd.zeroValue123
  t116 := Tryd.underlying105
  a116 := Tryd.isAgg105
  z116 := Tryd.sizeOf105
  t117 := Tryd.underlying106
  a117 := Tryd.isAgg106
  z117 := Tryd.sizeOf106
  v117 := Tryd.zeroValue106
  t119 := Tryd.underlying135
  a119 := Tryd.isAgg135
  z119 := Tryd.sizeOf135
  t124 := Tryd.underlying109
  a124 := Tryd.isAgg109
  z124 := Tryd.sizeOf109
  v124 := Tryd.zeroValue109
  t138 := Tryd.underlying137
  a138 := Tryd.isAgg137
  z138 := Tryd.sizeOf137
  v138 := Tryd.zeroValue137
  t139 := Tryd.underlying138
  a139 := Tryd.isAgg138
  z139 := Tryd.sizeOf138
  v139 := Tryd.zeroValue138
  g3 := by kernel_rfl
  g4 := by kernel_rfl }
open Go.RowKit in theorem Tryd.strings_TrimLeft_one (s : ByteArray) (c : UInt8) (hc : c.toNat < 128) (w : World) :
    Calls Tryd.prog 54 #[.string s, .string ⟨#[c]⟩] w fun e w' => e = .returned (.string ⟨(Lib.trimLeftB s.data.toList c).toArray⟩) ∧ w' = w := Any.strings_TrimLeft_one Tryd.lays161 s c hc w
def Tryd.lays103_ren : Go.Shelf.Ren := ⟨fun | 103 => 27 | 210 => 50 | 206 => 76 | n => n, fun | 9 => 9 | 4 => 4 | 24 => 44 | 3 => 3 | n => n, fun | n => n⟩
theorem Tryd.lays103 : Go.Proofs.Lays.n103 Tryd.prog Tryd.lays103_ren := {
  mixed := by kernel_rfl
  f103 := Tryd.func27.trans (congrArg some (by kernel_rfl))
  f206 := Tryd.func76.trans (congrArg some (by kernel_rfl))
  f210 := Tryd.func50.trans (congrArg some (by kernel_rfl))
  t3 := Tryd.underlying3
  a3 := Tryd.isAgg3
  z3 := Tryd.sizeOf3
  v3 := Tryd.zeroValue3
  t4 := Tryd.underlying4
  a4 := Tryd.isAgg4
  z4 := Tryd.sizeOf4
  v4 := Tryd.zeroValue4
  t9 := Tryd.underlying9
  a9 := Tryd.isAgg9
  z9 := Tryd.sizeOf9
  v9 := Tryd.zeroValue9
  t24 := Tryd.underlying44
  a24 := Tryd.isAgg44
  z24 := Tryd.sizeOf44
  v24 := Tryd.zeroValue44 }
open Go.RowKit in theorem Tryd.strings_CutPrefix (s p : ByteArray) (w : World) :
    Calls Tryd.prog 27 #[.string s, .string p] w fun e w' => e = .returned (.tuple #[.string ⟨(Lib.trimPrefix s.data.toList p.data.toList).toArray⟩, .bool (Lib.hasPrefix s.data.toList p.data.toList)]) ∧ w' = w := Any.strings_CutPrefix Tryd.lays103 s p w
def Tryd.lays219_ren : Go.Shelf.Ren := ⟨fun | 219 => 77 | 217 => 96 | 225 => 97 | 224 => 98 | 267 => 99 | 266 => 109 | 314 => 110 | n => n, fun | 9 => 9 | 3 => 3 | 4 => 4 | 5 => 5 | 46 => 80 | 146 => 114 | 51 => 113 | n => n, fun | 1 => 2 | n => n⟩
theorem Tryd.lays219 : Go.Proofs.Lays.n219 Tryd.prog Tryd.lays219_ren := {
  mixed := by kernel_rfl
  f217 := Tryd.func96.trans (congrArg some (by kernel_rfl))
  f219 := Tryd.func77.trans (congrArg some (by kernel_rfl))
  f224 := Tryd.func98.trans (congrArg some (by kernel_rfl))
  f225 := Tryd.func97.trans (congrArg some (by kernel_rfl))
  f266 := Tryd.func109.trans (congrArg some (by kernel_rfl))
  f267 := Tryd.func99.trans (congrArg some (by kernel_rfl))
  f314 := Tryd.func110.trans (congrArg some (by kernel_rfl))
  t3 := Tryd.underlying3
  a3 := Tryd.isAgg3
  z3 := Tryd.sizeOf3
  v3 := Tryd.zeroValue3
  t4 := Tryd.underlying4
  a4 := Tryd.isAgg4
  z4 := Tryd.sizeOf4
  v4 := Tryd.zeroValue4
  t5 := Tryd.underlying5
  a5 := Tryd.isAgg5
  z5 := Tryd.sizeOf5
  v5 := Tryd.zeroValue5
  t9 := Tryd.underlying9
  a9 := Tryd.isAgg9
  z9 := Tryd.sizeOf9
  v9 := Tryd.zeroValue9
  t46 := Tryd.underlying80
  a46 := Tryd.isAgg80
  z46 := Tryd.sizeOf80
  v46 := Tryd.zeroValue80
  t51 := Tryd.underlying113
  a51 := Tryd.isAgg113
  z51 := Tryd.sizeOf113
  v51 := Tryd.zeroValue113
  t146 := Tryd.underlying114
  a146 := Tryd.isAgg114
  z146 := Tryd.sizeOf114
  v146 := Tryd.zeroValue114
  g1 := by kernel_rfl }
open Go.RowKit Go.Lib in theorem Tryd.stringslite_Index_one (s : ByteArray) (c : UInt8) (w : World) :
    Calls Tryd.prog 77 #[.string s, .string ⟨#[c]⟩] w fun e w' => e = .returned (.int .i64 (Lib.indexByte s.data.toList c)) ∧ w' = w := Any.stringslite_Index_one Tryd.lays219 s c w
def Tryd.lays105_ren : Go.Shelf.Ren := ⟨fun | 105 => 45 | 212 => 63 | 99 => 64 | 165 => 65 | 166 => 66 | 170 => 67 | 169 => 68 | 263 => 87 | 264 => 88 | 206 => 76 | 240 => 89 | 241 => 90 | 276 => 106 | 277 => 107 | n => n, fun | 9 => 9 | 3 => 3 | 4 => 4 | 20 => 20 | 0 => 0 | 46 => 80 | 109 => 83 | 5 => 5 | 72 => 88 | 76 => 92 | 51 => 113 | 146 => 114 | 53 => 22 | 148 => 96 | 70 => 86 | 37 => 51 | 75 => 91 | 127 => 117 | 164 => 129 | 80 => 95 | n => n, fun | n => n⟩
theorem Tryd.lays105 : Go.Proofs.Lays.n105 Tryd.prog Tryd.lays105_ren := {
  mixed := by kernel_rfl
  f99 := Tryd.func64.trans (congrArg some (by kernel_rfl))
  f105 := Tryd.func45.trans (congrArg some (by kernel_rfl))
  f165 := Tryd.func65.trans (congrArg some (by kernel_rfl))
  f166 := Tryd.func66.trans (congrArg some (by kernel_rfl))
  f169 := Tryd.func68.trans (congrArg some (by kernel_rfl))
  f170 := Tryd.func67.trans (congrArg some (by kernel_rfl))
  f206 := Tryd.func76.trans (congrArg some (by kernel_rfl))
  f212 := Tryd.func63.trans (congrArg some (by kernel_rfl))
  f240 := Tryd.func89.trans (congrArg some (by kernel_rfl))
  f241 := Tryd.func90.trans (congrArg some (by kernel_rfl))
  f263 := Tryd.func87.trans (congrArg some (by kernel_rfl))
  f264 := Tryd.func88.trans (congrArg some (by kernel_rfl))
  f276 := Tryd.func106.trans (congrArg some (by kernel_rfl))
  f277 := Tryd.func107.trans (congrArg some (by kernel_rfl))
  t0 := Tryd.underlying0
  a0 := Tryd.isAgg0
  z0 := Tryd.sizeOf0
  v0 := Tryd.zeroValue0
  t3 := Tryd.underlying3
  a3 := Tryd.isAgg3
  z3 := Tryd.sizeOf3
  v3 := Tryd.zeroValue3
  t4 := Tryd.underlying4
  a4 := Tryd.isAgg4
  z4 := Tryd.sizeOf4
  v4 := Tryd.zeroValue4
  t5 := Tryd.underlying5
  a5 := Tryd.isAgg5
  z5 := Tryd.sizeOf5
  v5 := Tryd.zeroValue5
  t9 := Tryd.underlying9
  a9 := Tryd.isAgg9
  z9 := Tryd.sizeOf9
  v9 := Tryd.zeroValue9
  t20 := Tryd.underlying20
  a20 := Tryd.isAgg20
  z20 := Tryd.sizeOf20
  v20 := Tryd.zeroValue20
  t37 := Tryd.underlying51
  a37 := Tryd.isAgg51
  z37 := Tryd.sizeOf51
  v37 := Tryd.zeroValue51
  t46 := Tryd.underlying80
  a46 := Tryd.isAgg80
  z46 := Tryd.sizeOf80
  v46 := Tryd.zeroValue80
  t51 := Tryd.underlying113
  a51 := Tryd.isAgg113
  z51 := Tryd.sizeOf113
  v51 := Tryd.zeroValue113
  t53 := Tryd.underlying22
  a53 := Tryd.isAgg22
  z53 := Tryd.sizeOf22
  v53 := Tryd.zeroValue22
  t70 := Tryd.underlying86
  a70 := Tryd.isAgg86
  z70 := Tryd.sizeOf86
  v70 := Tryd.zeroValue86
  t72 := Tryd.underlying88
  a72 := Tryd.isAgg88
  z72 := Tryd.sizeOf88
  v72 := Tryd.zeroValue88
  t75 := Tryd.underlying91
  a75 := Tryd.isAgg91
  z75 := Tryd.sizeOf91
  v75 := Tryd.zeroValue91
  t76 := Tryd.underlying92
  a76 := Tryd.isAgg92
  z76 := Tryd.sizeOf92
  v76 := Tryd.zeroValue92
  t109 := Tryd.underlying83
  a109 := Tryd.isAgg83
  z109 := Tryd.sizeOf83
  v109 := Tryd.zeroValue83
  t127 := Tryd.underlying117
  a127 := Tryd.isAgg117
  z127 := Tryd.sizeOf117
  v127 := Tryd.zeroValue117
  t146 := Tryd.underlying114
  a146 := Tryd.isAgg114
  z146 := Tryd.sizeOf114
  v146 := Tryd.zeroValue114
  t148 := Tryd.underlying96
  a148 := Tryd.isAgg96
  z148 := Tryd.sizeOf96
  v148 := Tryd.zeroValue96
  t164 := Tryd.underlying129
  a164 := Tryd.isAgg129
  z164 := Tryd.sizeOf129
  v164 := Tryd.zeroValue129 }
theorem Tryd.Builder_Extra_105 : Builder.Extra Tryd.prog Tryd.lays105_ren := {
  sizeBuilder := by kernel_rfl
  liesBuilder := by kernel_rfl
  t5 := Tryd.underlying5
  a5 := Tryd.isAgg5
  z5 := Tryd.sizeOf5
  v5 := Tryd.zeroValue5
  infoByte := by kernel_rfl
  cellsByte := by kernel_rfl
  sizeByte := by kernel_rfl
  neB5 := by decide }
open Go.RowKit Go.Lib in theorem Tryd.strings_Repeat (s : ByteArray) (c : Nat) (w : World) (hc : c ≤ 9223372036854775807) (hlen : s.size * c ≤ 140737488355328) :
    Calls Tryd.prog 45 #[.string s, .int .i64 c] w fun e w' => e = .returned (.string ⟨(Lib.repeatL s.data.toList c).toArray⟩) ∧ Below w.heap.size w w' := Any.strings_Repeat Tryd.lays105 Tryd.Builder_Extra_105 s c w hc hlen
end Go.Proofs
/-
  strings.Cut at one byte, isDecimal, withoutZeros.
-/
namespace Go.Proofs.YtdcojpbgijkmgaaDoor
open Go.RowKit Go.Lib
/-- A text's bytes. -/
abbrev by8 (s : ByteArray) : List UInt8 := s.data.toList
abbrev tx (l : List UInt8) : Value := .string ⟨l.toArray⟩
set_option maxHeartbeats 1000000 in
theorem cut51 (s : ByteArray) (c : UInt8) (w : World) (hs : s.size ≤ maxLen) : Calls Tryd.prog 51 #[.string s, .string ⟨#[c]⟩] w fun e w' =>
    e = .returned (.tuple #[tx (Lib.cut (by8 s) [c]).1, tx (Lib.cut (by8 s) [c]).2.1, .bool (Lib.cut (by8 s) [c]).2.2]) ∧ Mo w w' := by
  have hone : Lib.index s.data.toList [c] = Lib.indexByte s.data.toList c := Lib.index_one _ _
  rcases Lib.indexB_cases s ⟨#[c]⟩ with hix | ⟨i, hix, hroom⟩
  · obtain ⟨e1, e2, e3⟩ := Lib.cutB_miss s ⟨#[c]⟩ hix
    have e1' : (⟨(Lib.cut (by8 s) [c]).1.toArray⟩ : ByteArray) = s := e1
    have e2' : (⟨(Lib.cut (by8 s) [c]).2.1.toArray⟩ : ByteArray) = ⟨#[]⟩ := e2
    have e3' : (Lib.cut (by8 s) [c]).2.2 = false := e3
    unfold tx; rw [e1', e2', e3']
    have hix' : Lib.indexByte s.data.toList c = -1 := by rw [← hone]; exact hix
    go_enter Tryd.func51, Tryd.ntmps51
    go_wp2_with (go_at_call 77; refine (Tryd.stringslite_Index_one _ _ _).mono ?_; rintro e w' ⟨rfl, rfl⟩; rw [hix'])
    go_ret3
    exact ⟨rfl, Mo.refl _⟩
  · obtain ⟨e1, e2, e3⟩ := Lib.cutB_hit s ⟨#[c]⟩ i hix
    have e3' : (Lib.cut (by8 s) [c]).2.2 = true := e3
    unfold tx; rw [show (⟨(Lib.cut (by8 s) [c]).1.toArray⟩ : ByteArray) = _ from e1, show (⟨(Lib.cut (by8 s) [c]).2.1.toArray⟩ : ByteArray) = _ from e2, e3']
    have hix' : Lib.indexByte s.data.toList c = (i : Int) := by rw [← hone]; exact hix
    have hsz : (⟨#[c]⟩ : ByteArray).size = 1 := rfl
    rw [hsz] at hroom
    have c1 : (0 : Int) ≤ ↑i := by omega
    have c2 : (↑i : Int) ≤ ↑s.size := by omega
    unfold maxLen at hs
    have hw : IntKind.i64.wrap ((i : Int) + 1) = (i : Int) + 1 := by rw [IntKind.wrap_i64]; omega
    have hw2 : wrap64 ((i : Int) + 1) = (i : Int) + 1 := by unfold wrap64; omega
    have c3 : (0 : Int) ≤ ↑i + 1 := by omega
    have c4 : (↑i + 1 : Int) ≤ ↑s.size := by omega
    go_enter Tryd.func51, Tryd.ntmps51
    go_wp2_with (go_at_call 77; refine (Tryd.stringslite_Index_one _ _ _).mono ?_; rintro e w' ⟨rfl, rfl⟩; rw [hix'])
    go_region
    go_wp2
    go_ret3
    exact ⟨rfl, (Mo.refl _).drew⟩
end Go.Proofs.YtdcojpbgijkmgaaDoor
/-
  A walk step by step: each operation by its own law, the world behind it a letter, a block's cells one row.
-/
namespace Go.Proofs.YtdcojpbgijkmgaaDoor.V
open Go.RowKit
/-- The world behind a call that only makes new blocks: what was there is as it was. -/
def Mw (w w' : World) : Prop := Below w.heap.size w w'
theorem Mw.refl (w : World) : Mw w w := Below.refl _ _
theorem Mw.trans {a b c : World} (h : Mw a b) (k : Mw b c) : Mw a c := Below.trans h (Below.mono k (Below.size h))
theorem Mw.drew {a b : World} (h : Mw a b) : Mw a b.drew := Below.drew h
theorem Mw.alloc {a b : World} (h : Mw a b) (c : Array Value) (t : TypeId) : Mw a (b.alloc (.cells c t)) := Below.alloc h (Below.size h) _
theorem Mw.setCell {a b : World} (h : Mw a b) {p : Addr} (hp : a.heap.size ≤ p.block) (v : Value) : Mw a (b.setCell p v) := Below.setCell h hp v
theorem Mw.size {a b : World} (h : Mw a b) : a.heap.size ≤ b.heap.size := Below.size h
theorem Mw.cell {a b : World} (h : Mw a b) : ∀ k o, k < a.heap.size → b.cell? ⟨k, o, none⟩ = a.cell? ⟨k, o, none⟩ := fun k o hk => Below.cell h (p := ⟨k, o, none⟩) hk
theorem fzMw {w w' : World} {k : Nat} (h : Fz w k) (m : Mw w w') (hk : k < w.heap.size) : Fz w' k := fun o => (Below.frozen m (p := ⟨k, o, none⟩) hk).trans (h o)
/-- A contract, weakened. -/
theorem wk {P : Program} {g : Nat} {args : Array Value} {w : World} {v : Value} (h : Calls P g args w fun e w' => e = .returned v ∧ Mo w w') : Calls P g args w fun e w' => e = .returned v ∧ Mw w w' := h.mono fun _ _ ⟨a, b⟩ => ⟨a, b.1⟩
/-- The address of a block's cell. -/
abbrev pt (k o : Nat) : Value := .pointer (some ⟨k, o, none⟩)
/-- The block k holds these cells. -/
def At (w : World) (k : Nat) (vs : List Value) : Prop := w.rangeAt k 0 vs ∧ Fz w k ∧ k < w.heap.size
theorem At.lt {w : World} {k : Nat} {vs : List Value} (h : At w k vs) : k < w.heap.size := h.2.2
theorem At.mo {w w' : World} {k : Nat} {vs : List Value} (h : At w k vs) (m : Mw w w') : At w' k vs :=
  ⟨fun j v hv => (m.cell k _ h.2.2).trans (h.1 j v hv), fzMw h.2.1 m h.2.2, Nat.lt_of_lt_of_le h.2.2 m.size⟩
theorem At.cell {w : World} {k : Nat} {vs : List Value} (h : At w k vs) {j : Nat} {v : Value} (hv : vs[j]? = some v) : w.cell? ⟨k, j, none⟩ = some v := by
  have := h.1 j v hv; simpa using this
theorem At.there {w : World} {k : Nat} {vs : List Value} (h : At w k vs) (o n : Nat) (hn : o + n ≤ vs.length) : w.there k o n := fun j hj => by
  refine ⟨?_, h.2.1 _⟩
  rw [h.cell (j := o + j) (v := vs[o + j]'(by omega)) (List.getElem?_eq_getElem (by omega))]; rfl
theorem At.new (w : World) (cs : Array Value) (t : TypeId) : At (w.alloc (.cells cs t)) w.heap.size cs.toList := by
  refine ⟨fun j v hv => ?_, fun o => ?_, by simp⟩
  · simp at hv; simp [go_sem, hv]
  · simp [go_sem]
theorem sz_setCells (k : Nat) : ∀ (l : List Value) (o : Nat) (w : World), (w.setCells k o l).heap.size = w.heap.size
  | [], _, _ => rfl
  | v :: r, o, w => by rw [World.setCells, sz_setCells k r]; simp [World.setCell]
theorem Mw.setCs {a : World} {k : Nat} (hk : a.heap.size ≤ k) : ∀ (l : List Value) (o : Nat) (b : World), Mw a b → Mw a (b.setCells k o l)
  | [], _, _, h => h
  | v :: r, o, b, h => by rw [World.setCells]; exact Mw.setCs hk r (o + 1) _ (h.setCell hk v)
/-- What a store into the block k leaves as it was. -/
structure St (k : Nat) (w w' : World) : Prop where
  size : w'.heap.size = w.heap.size
  other : ∀ j vs, j ≠ k → At w j vs → At w' j vs
  mo : ∀ a : World, a.heap.size ≤ k → Mw a w → Mw a w'
theorem St.mk' (w : World) (k o : Nat) (l : List Value) : St k w (w.setCells k o l) where
  size := sz_setCells k l o w
  other := fun j vs hj h => ⟨World.rangeAt_setCells_apart h.1 k o l (Or.inl hj), fun o' => by rw [World.frozen?_setCells]; exact h.2.1 o', by rw [sz_setCells]; exact h.2.2⟩
  mo := fun a ha h => Mw.setCs ha l o w h
theorem At.set {w : World} {k : Nat} {us : List Value} (h : At w k us) (o : Nat) (l : List Value) (hl : o + l.length ≤ us.length) (vs : List Value) (hvs : vs = us.take o ++ l ++ us.drop (o + l.length)) : At (w.setCells k o l) k vs := by
  subst hvs
  refine ⟨fun j v hv => ?_, fun o' => by rw [World.frozen?_setCells]; exact h.2.1 o', by rw [sz_setCells]; exact h.2.2⟩
  rw [Nat.zero_add]
  by_cases h1 : j < o
  · rw [World.cell?_setCells_out k l o w _ (fun _ _ => Or.inl h1)]
    refine h.cell ?_
    rw [List.append_assoc, List.getElem?_append_left (by simp; omega), List.getElem?_take_of_lt h1] at hv
    exact hv
  · by_cases h2 : j < o + l.length
    · rw [List.append_assoc, List.getElem?_append_right (by simp; omega), List.getElem?_append_left (by simp; omega)] at hv
      have := World.cell?_setCells_in k l o w (fun i hi => (h.there o l.length hl i hi).1) (j - o) (by omega)
      rw [show o + (j - o) = j by omega] at this
      rw [this, ← hv]
      rw [List.length_take, show min o us.length = o by omega, List.getElem?_eq_getElem (by omega)]
    · rw [World.cell?_setCells_out k l o w _ (fun _ _ => Or.inr (by show o + l.length ≤ j; omega))]
      refine h.cell ?_
      rw [List.getElem?_append_right (by simp; omega), List.getElem?_drop] at hv
      rw [← hv]
      congr 1
      simp
      omega
section runs
variable {P : Program} {w : World} {k : Nat} {vs : List Value}
theorem run_row (h : At w k vs) (ty : TypeId) (o n : Nat) (us : List Value) (hus : us = (vs.drop o).take n) {d : TypeDesc} (hu : P.underlying ty = some d) (hd : d.isRow = true) (hi : (P.info? ty).map (·.size) = some us.length) :
    (Instr.loadAt ty (pt k o)).run P w = .ok (.agg us.toArray) w :=
  run_loadAt_mid w k o ty us d (fun j v hv => by
    subst hus
    refine h.cell ?_
    rw [List.getElem?_take] at hv
    split at hv
    · rw [List.getElem?_drop] at hv; exact hv
    · cases hv) hu hd hi
theorem run_one (h : At w k vs) (ty : TypeId) (o : Nat) {v : Value} (hv : vs[o]? = some v) {d : TypeDesc} (hu : P.underlying ty = some d) (hd : d.isRow = false) :
    (Instr.loadAt ty (pt k o)).run P w = .ok v w := by
  have hagg : (isAgg ty).run P w = .ok false w := by
    unfold isAgg
    rw [Sem.run_bind, run_underlying hu w]
    cases d <;> simp_all
  have hc := h.cell hv
  simp [Instr.loadAt, Instr.sureAddr, loadVar, Sem.run_bind, hagg, hc]
theorem run_put (h : At w k vs) (ty : TypeId) (o : Nat) (us : Array Value) (hl : o + us.size ≤ vs.length) (hi : (P.info? ty).map (·.size) = some us.size) (h1 : us.all (·.oneCell') = true) :
    (Instr.storeAt ty (pt k o) (.agg us)).run P w = .ok () (w.setCells k o us.toList) :=
  run_storeAt_mid w k o ty us (h.there o us.size hl) hi h1
theorem run_put1 (h : At w k vs) (ty : TypeId) (o : Nat) (v : Value) (hl : o < vs.length) (hi : (P.info? ty).map (·.size) = some 1) (hv : v.cells = #[v]) (h1 : v.oneCell' = true) :
    (Instr.storeAt ty (pt k o) v).run P w = .ok () (w.setCells k o [v]) := by
  have ht := h.there o 1 (by omega)
  have := run_storeCells_cells (P := P) k o [v] 0 w (fun j hj => by simpa using (ht j (by simpa using hj)).1) (fun j hj => by simpa using (ht j (by simpa using hj)).2)
    (fun u hu => by simp at hu; subst hu; exact h1)
  cases hq : P.info? ty with
  | none => simp [hq] at hi
  | some i =>
    have hs : i.size = 1 := by simpa [hq] using hi
    simp only [Nat.add_zero] at this
    simp [Instr.storeAt, Instr.sureAddr, storeVar, sizeOf, typeInfo, hq, hv, hs, this]
end runs
/-! Frames as lists of what was put where, the last first. -/
theorem blt_f {t n : Nat} (h : ¬ t < n) : Nat.blt t n = false := by
  cases e : Nat.blt t n with
  | false => rfl
  | true => rw [Nat.blt_eq] at e; exact absurd e h
theorem beq_f {d j : Nat} (h : ¬ d = j) : Nat.beq d j = false := by
  cases e : Nat.beq d j with
  | false => rfl
  | true => exact absurd (Nat.eq_of_beq_eq_true e) h
def look : List (Nat × Value) → Nat → Value
  | [], _ => undef
  | (d, v) :: l, t => bif Nat.beq d t then v else look l t
def fr (n : Nat) (l : List (Nat × Value)) : Act := { tmps := Array.ofFn (n := n) fun i => look l i, defers := [] }
def ext (l : List (Nat × Value)) : Option Tmp → Value → List (Nat × Value)
  | some d, v => (d, v) :: l
  | none, _ => l
/-- What an operand is. -/
def evl (n : Nat) (l : List (Nat × Value)) : Operand → Value
  | .tmp t => bif Nat.blt t n then look l t else undef
  | .const v => v
  | .global g => .pointer (some ⟨g, 0, none⟩)
  | .func f => .func (.func f) #[] #[]
theorem fr_getD (n : Nat) (l : List (Nat × Value)) (t : Nat) : (fr n l).tmps.getD t undef = bif Nat.blt t n then look l t else undef := by
  unfold fr
  by_cases h : t < n
  · have e : Nat.blt t n = true := by simpa using h
    simp [h, e]
  · have e := blt_f h
    simp [h, e]
theorem fr_eval (n : Nat) (l : List (Nat × Value)) : (fr n l).eval = evl n l := by
  funext x
  cases x with
  | tmp t => exact fr_getD n l t
  | _ => rfl
theorem fr_put (n : Nat) (l : List (Nat × Value)) (d : Option Tmp) (v : Value) : (fr n l).put d v = fr n (ext l d v) := by
  cases d with
  | none => rfl
  | some d =>
    simp only [fr, Act.put, ext]
    congr 1
    apply Array.ext
    · simp
    · intro j h1 h2
      simp at h1
      by_cases e : d = j
      · subst e; simp [look]
      · have := beq_f e
        rw [Array.getElem_setIfInBounds_ne (by simpa using h1) e]
        simp [look, this]
/-- Is an operation wanted? -/
def wnt (n : Nat) (l : List (Nat × Value)) (ops : Array Oper) (o : Oper) : Bool :=
  match o.guard with
  | none => true
  | some (j, want) => (match (ops[j]?).bind (·.dst) with
    | some t => (bif Nat.blt t n then (match look l t with | .bool b => some b | _ => none) else none)
    | none => none) == some want
theorem fr_wanted (n : Nat) (l : List (Nat × Value)) (ops : Array Oper) (o : Oper) : Region.wanted o (yielded ops (fr n l).tmps) = wnt n l ops o := by
  unfold Region.wanted wnt
  cases o.guard with
  | none => rfl
  | some g =>
    obtain ⟨j, want⟩ := g
    simp only [yielded]
    cases (ops[j]?).bind (·.dst) with
    | none => rfl
    | some t =>
      by_cases h : t < n
      · have e : Nat.blt t n = true := by simpa using h
        simp [fr, h, e]
        cases look l t <;> rfl
      · have e := blt_f h
        simp [fr, h, e]
/-- The arguments in their slots. -/
def argl : Nat → List Value → List (Nat × Value)
  | _, [] => []
  | i, v :: r => (i, v) :: argl (i + 1) r
theorem look_argl : ∀ (vs : List Value) (i t : Nat), look (argl i vs) t = if i ≤ t then (vs[t - i]?).getD undef else undef
  | [], i, t => by simp [argl, look]
  | v :: r, i, t => by
    have ih := look_argl r (i + 1) t
    by_cases e : i = t
    · subst e; simp [argl, look]
    · have hb := beq_f e
      simp only [argl, look, hb, cond_false, ih]
      by_cases h : i + 1 ≤ t
      · rw [if_pos h, if_pos (by omega), show t - i = (t - (i + 1)) + 1 by omega, List.getElem?_cons_succ]
      · rw [if_neg h, if_neg (by omega)]
theorem fr_args (n : Nat) (args : Array Value) (h : args.size ≤ n) : ({ tmps := args ++ Array.replicate (n - args.size) undef, defers := [] } : Act) = fr n (argl 0 args.toList) := by
  unfold fr
  congr 1
  apply Array.ext
  · simp; omega
  · intro j h1 h2
    simp at h2
    simp only [Array.getElem_ofFn, look_argl, Nat.zero_le, if_true, Nat.sub_zero]
    by_cases hj : j < args.size
    · rw [Array.getElem_append_left hj]; simp [hj]
    · rw [Array.getElem_append_right (by omega)]; simp [Nat.le_of_not_lt hj]
theorem f_enter {P : Program} {f : FuncId} {fn : Func} {c : Code} {args : Array Value} {w : World} {R : Ending → World → Prop} (n : Nat) (hf : P.funcs[f]? = some fn) (hn : fn.ntmps = n) (hb : fn.body = some c)
    (ha : Nat.ble args.size n = true) (h : c.wp P (bodyPost P fn R) (fr n (argl 0 args.toList)) w) : Calls P f args w R := by
  refine calls_of_wp hf hb ?_
  rw [hn, fr_args n args (by simpa using ha)]
  exact h
/-- One of the results. -/
def resv (n : Nat) (l : List (Nat × Value)) (P : Program) (w : World) (v : Value) : ResultVar → Prop
  | .tmp t => (bif Nat.blt t n then look l t else undef) = v
  | .cell a t => ∃ k : Nat, (bif Nat.blt a n then look l a else undef) = pt k 0 ∧ (Instr.loadAt t (pt k 0)).run P w = .ok v w
theorem resv_tmp {n : Nat} {l : List (Nat × Value)} {P : Program} {w : World} {v : Value} {t : Tmp} (h : resv n l P w v (.tmp t)) : (fr n l).tmps[t]?.getD undef = v := by
  have := fr_getD n l t
  simp only [Array.getD_eq_getD_getElem?] at this
  rw [this]; exact h
theorem resv_cell {n : Nat} {l : List (Nat × Value)} {P : Program} {w : World} {v : Value} {a : Tmp} {t : TypeId} (h : resv n l P w v (.cell a t)) : ∃ k : Nat, (fr n l).tmps[a]?.getD undef = pt k 0 ∧ (loadVar t ⟨k, 0, none⟩).run P w = .ok v w := by
  obtain ⟨k, h1, h2⟩ := h
  refine ⟨k, ?_, by simpa only [Instr.loadAt, Instr.sureAddr, Sem.run_bind, Sem.run_pure, Result.andThen_ok] using h2⟩
  have := fr_getD n l a
  simp only [Array.getD_eq_getD_getElem?] at this
  rw [this]; exact h1
theorem Each.mono {F G : Nat → Oper → Prop} (h : ∀ i o, F i o → G i o) : ∀ (l : List Oper) (n : Nat), Each F n l → Each G n l
  | [], _, _ => trivial
  | _ :: l, n, hh => ⟨h _ _ hh.1, Each.mono h l (n + 1) hh.2⟩
/-! The laws of the steps. -/
section steps
variable {P : Program} {o : Oper} {n : Nat} {l : List (Nat × Value)} {w : World} {ops : Array Oper} {rest : List Oper} {Q : Exit → Act → World → Prop} {K : Act → World → Prop}
theorem o_val {w' : World} (v : Value) (h : (execOp (evl n l) o).run P w = .ok (.value v) w') (hk : K (fr n (ext l o.dst v)) w') : o.wp P (fr n l) w K Q := by
  unfold Oper.wp; rw [fr_eval, h, Oper.upon_value, fr_put]; exact hk
theorem o_load (ty : TypeId) (x : Operand) (p v : Value) (ho : o.op = .load ty x) (hx : evl n l x = p) (h : (Instr.loadAt ty p).run P w = .ok v w) (hk : K (fr n (ext l o.dst v)) w) : o.wp P (fr n l) w K Q := by
  refine o_val v ?_ hk
  subst hx
  simp [execOp, ho, h]
theorem o_store (ty : TypeId) (x y : Operand) (p v : Value) {w' : World} (ho : o.op = .store ty x y) (hd : o.dst = none) (hx : evl n l x = p) (hy : evl n l y = v) (h : (Instr.storeAt ty p v).run P w = .ok () w') (hk : K (fr n l) w') : o.wp P (fr n l) w K Q := by
  subst hx hy
  have e : (execOp (evl n l) o).run P w = .ok .skip w' := by simp [execOp, ho, h]
  unfold Oper.wp; rw [fr_eval, e, Oper.upon_skip, hd]; exact hk
theorem o_alloc (ty : TypeId) (zs : Array Value) (ho : o.op = .alloc ty) (h : ∀ w, (Instr.alloc ty true (.tuple #[])).run P w = .ok (pt w.heap.size 0) (w.alloc (.cells zs ty)))
    (hk : ∀ k w', w.heap.size = k → w'.heap.size = k + 1 → Mw w w' → At w' k zs.toList → K (fr n (ext l o.dst (pt k 0))) w') : o.wp P (fr n l) w K Q := by
  refine o_val (pt w.heap.size 0) (w' := w.alloc (.cells zs ty)) ?_ (hk _ _ rfl (by simp) ((Mw.refl _).alloc _ _) (At.new w zs ty))
  simp [execOp, ho, h]
theorem o_box (ty : TypeId) (x : Operand) (v : Value) (cs : Array Value) (ho : o.op = .box ty x) (hx : evl n l x = v) (h : ∀ w, (Instr.box ty v).run P w = .ok (pt w.heap.size 0) (w.alloc (.cells cs ty)))
    (hk : ∀ k w', w.heap.size = k → w'.heap.size = k + 1 → Mw w w' → At w' k cs.toList → K (fr n (ext l o.dst (pt k 0))) w') : o.wp P (fr n l) w K Q := by
  subst hx
  refine o_val (pt w.heap.size 0) (w' := w.alloc (.cells cs ty)) ?_ (hk _ _ rfl (by simp) ((Mw.refl _).alloc _ _) (At.new w cs ty))
  simp [execOp, ho, h]
theorem o_call (g : FuncId) (xs : List Operand) (ats : Array TypeId) (args : List Value) (v : Value) (ho : o.op = .call { callee := .value (.func g), args := xs.toArray, argTypes := ats }) (hx : xs.map (evl n l) = args)
    (h : ∀ args w, (callFunc g args).run P w = .ok (.enter g args) w)
    (hc : Calls P g args.toArray w fun e w' => e = .returned v ∧ Mw w w') (hk : ∀ w', Mw w w' → K (fr n (ext l o.dst v)) w') : o.wp P (fr n l) w K Q := by
  have e : (execOp (evl n l) o).run P w = .ok (.enter g args.toArray) w := by
    obtain ⟨dst, op, ty, pos, after, guard⟩ := o
    simp only at ho
    subst ho hx
    have e2 := execOp_call_go (fr n l) dst g xs.toArray ats ty pos after guard
    rw [fr_eval] at e2
    rw [e2, h]
    simp
  unfold Oper.wp; rw [fr_eval, e, Oper.upon_enter]
  refine hc.mono ?_
  rintro e w' ⟨rfl, h⟩
  show K _ _
  rw [fr_put]
  exact hk w' h
theorem o_st (ty : TypeId) (x y : Operand) (k off : Nat) (us : Array Value) (vs vs' : List Value) (hA : At w k vs) (ho : o.op = .store ty x y) (hd : o.dst = none) (hx : evl n l x = pt k off) (hy : evl n l y = .agg us)
    (hl : Nat.ble (off + us.size) vs.length = true) (hi : (P.info? ty).map (·.size) = some us.size) (h1 : us.toList.all (·.oneCell') = true) (hvs : vs' = vs.take off ++ us.toList ++ vs.drop (off + us.toList.length))
    (hk : ∀ w', St k w w' → At w' k vs' → K (fr n l) w') : o.wp P (fr n l) w K Q :=
  o_store ty x y _ _ ho hd hx hy (run_put hA ty off us (Nat.le_of_ble_eq_true hl) hi (by rw [← Array.all_toList]; exact h1)) (hk _ (St.mk' w k off us.toList) (hA.set off us.toList (by have := Nat.le_of_ble_eq_true hl; simpa using this) vs' hvs))
theorem o_st1 (ty : TypeId) (x y : Operand) (k off : Nat) (v : Value) (vs vs' : List Value) (hA : At w k vs) (ho : o.op = .store ty x y) (hd : o.dst = none) (hx : evl n l x = pt k off) (hy : evl n l y = v)
    (hl : Nat.blt off vs.length = true) (hi : (P.info? ty).map (·.size) = some 1) (hv : v.cells = #[v]) (h1 : v.oneCell' = true) (hvs : vs' = vs.take off ++ [v] ++ vs.drop (off + 1))
    (hk : ∀ w', St k w w' → At w' k vs' → K (fr n l) w') : o.wp P (fr n l) w K Q :=
  have hl' : off < vs.length := by rw [Nat.blt_eq] at hl; exact hl
  o_store ty x y _ _ ho hd hx hy (run_put1 hA ty off v hl' hi hv h1) (hk _ (St.mk' w k off [v]) (hA.set off [v] (by simp; omega) vs' hvs))
/-- In a region that draws nothing. -/
theorem l_step (hg : wnt n l ops o = true) (h : o.wp P (fr n l) w (wpList P ops Q rest) Q) : wpList P ops Q (o :: rest) (fr n l) w :=
  wpList_step fun K hK => by rw [fr_wanted, hg, if_pos rfl]; exact Oper.wp_mono (fun a w h => hK a w h) h
theorem l_skip (hg : wnt n l ops o = false) (h : wpList P ops Q rest (fr n (ext l o.dst undef)) w) : wpList P ops Q (o :: rest) (fr n l) w :=
  wpList_step fun K hK => by rw [fr_wanted, hg, fr_put]; exact hK _ _ h
theorem l_end {next : Act → World → Prop} {a : Act} (h : next a w) : wpList P ops (Exit.then next Q) [] a w := h
theorem l_endb {id : Nat} {a : Act} (h : wpList P ops Q [] a w) : wpList P ops (Exit.inBlock id Q) [] a w := h
theorem s_end {next : Act → World → Prop} {a : Act} (h : next a w) : Code.skip.wp P (Exit.then next Q) a w := wp_skip h
theorem c_cond {c : Operand} {x y : Code} (t : Bool) (hc : evl n l c = .bool t) (h : (bif t then x else y).wp P Q (fr n l) w) : (Code.cond c x y).wp P Q (fr n l) w := by
  cases t
  · exact wp_cond_false (by rw [fr_eval]; exact hc) h
  · exact wp_cond_true (by rw [fr_eval]; exact hc) h
theorem c_ret1 {fn : Func} {R : Ending → World → Prop} (x : ResultVar) (v : Value) (hf : fn.results = #[x]) (h : resv n l P w v x) (hR : R (.returned v) w) : bodyPost P fn R .ret (fr n l) w := by
  refine bodyPost_ret (v := v) ?_ rfl hR
  cases x with
  | tmp t => have := resv_tmp h; simp [results, hf, this]
  | cell a t => obtain ⟨k, h1, h2⟩ := resv_cell h; simp [results, hf, h1, h2, asAddr]
theorem c_ret2 {fn : Func} {R : Ending → World → Prop} (x y : ResultVar) (v u : Value) (hf : fn.results = #[x, y]) (h : resv n l P w v x) (g : resv n l P w u y) (hR : R (.returned (.tuple #[v, u])) w) : bodyPost P fn R .ret (fr n l) w := by
  refine bodyPost_ret (v := .tuple #[v, u]) ?_ rfl hR
  cases x with
  | tmp t =>
    have h1 := resv_tmp h
    cases y with
    | tmp t => have g1 := resv_tmp g; simp [results, hf, h1, g1]
    | cell a t => obtain ⟨k, g1, g2⟩ := resv_cell g; simp [results, hf, h1, g1, g2, asAddr]
  | cell a t =>
    obtain ⟨k, h1, h2⟩ := resv_cell h
    cases y with
    | tmp t => have g1 := resv_tmp g; simp [results, hf, h1, h2, g1, asAddr]
    | cell a t => obtain ⟨k, g1, g2⟩ := resv_cell g; simp [results, hf, h1, h2, g1, g2, asAddr]
/-- The slots of the operations, as f says. -/
def asg (f : Nat → Value) : Nat → List Oper → List (Nat × Value) → List (Nat × Value)
  | _, [], l => l
  | i, o :: r, l => asg f (i + 1) r (ext l o.dst (f i))
theorem putAll_fr (f : Nat → Value) : ∀ (r : List Oper) (i : Nat) (l : List (Nat × Value)), putAll f i r (fr n l) = fr n (asg f i r l)
  | [], _, _ => rfl
  | o :: r, i, l => by simp only [putAll, asg, fr_put]; exact putAll_fr f r (i + 1) _
/-- Does o wait for number j? -/
def depb (o : Oper) (j : Nat) : Bool := o.after.toList.any fun e => Region.binds .any e && Nat.beq e.on j
/-- One operation, whatever of the others has come up. -/
def OgS (P : Program) (ops : List Oper) (Q : Exit → Act → World → Prop) (n : Nat) (l : List (Nat × Value)) (G : (Nat → Value) → World → Prop) (R : Nat → (Nat → Value) → World → Prop) (i : Nat) (o : Oper) : Prop :=
  ∀ f w, G f w → (∀ j, depb o j = true → R j f w) → ∀ K : Act → World → Prop,
    (∀ v w', G (upd f i v) w' → R i (upd f i v) w' → (∀ j, j ≠ i → R j f w → R j (upd f i v) w') → K (fr n (ext (asg f 0 ops l) o.dst v)) w') →
    bif wnt n (asg f 0 ops l) ops.toArray o then o.wp P (fr n (asg f 0 ops l)) w K Q else K (fr n (ext (asg f 0 ops l) o.dst undef)) w
theorem r_og {id : Nat} {ol : List Oper} (G : (Nat → Value) → World → Prop) (R : Nat → (Nat → Value) → World → Prop) (hm : P.follows .mixedOrders = true)
    (hb : edgesBack .any ol.toArray = true) (hd : dstsApart ol = true) (hG : G (slots (fr n l) ol.toArray) w.drew)
    (hs : Each (OgS P ol Q n l G R) 0 ol)
    (hend : ∀ f w, G f w → (∀ i, Nat.blt i ol.length = true → R i f w) → Q .normal (fr n (asg f 0 ol l)) w) : (Code.region id ol.toArray true).wp P Q (fr n l) w := by
  refine wp_region_og G R hm hb hd hG ?_ ?_
  · refine Each.mono ?_ ol 0 hs
    intro i o h f w hG hdep K hK
    have h1 := h f w hG (fun j hj => by
      obtain ⟨e, he, hb⟩ := List.any_eq_true.1 hj
      simp only [Bool.and_eq_true] at hb
      have := hdep e (by simpa using he) hb.1
      rwa [Nat.eq_of_beq_eq_true hb.2] at this) K (fun v w' a b c => by
        have := hK v w' a b c
        simp only [putAll_fr, fr_put] at this
        exact this)
    simp only [putAll_fr, fr_wanted, fr_put]
    cases hw : wnt n (asg f 0 ol l) ol.toArray o <;> simp only [hw, cond_true, cond_false] at h1 ⊢ <;> exact h1
  · intro f w hG hR
    rw [putAll_fr]
    exact hend f w hG (fun i hi => hR i (by rw [Nat.blt_eq] at hi; exact hi))
theorem li1 {a b : Value} (h : a = b) : [a] = [b] := by rw [h]
theorem li2 {a b c d : Value} (h : a = b) (k : c = d) : [a, c] = [b, d] := by rw [h, k]
theorem li3 {a b c d e f : Value} (h : a = b) (k : c = d) (m : e = f) : [a, c, e] = [b, d, f] := by rw [h, k, m]
theorem li4 {a b c d e f g i : Value} (h : a = b) (k : c = d) (m : e = f) (p : g = i) : [a, c, e, g] = [b, d, f, i] := by rw [h, k, m, p]
end steps
end Go.Proofs.YtdcojpbgijkmgaaDoor.V
