/-
  A part of the proof.
-/
import Derived.Test.YtnffhcjmpjajlaaDoorKa7
import Derived.Test.YtnffhcjmpjajlaaDoorKa4
import Derived.Test.YtnffhcjmpjajlaaDoorKa3
import Derived.Test.YtnffhcjmpjajlaaDoorKa2
import Derived.Test.YtnffhcjmpjajlaaDoorKa1
import Derived.RegionTactic
import Derived.Test.YtnffhcjmpjajlaaDoorProg
import Derived.WalkKit
import Derived.WalkSpells
import Derived.Handy
import Derived.BigQuiet
import Derived.Deep.RegionHeld3
import Derived.Deep.MidRow
import Derived.BigCall
import Derived.ChangeKeysEq
import Derived.Shelf.Small.Bits
import Derived.Shelf.Strconv.Itoa0
import Derived.Shelf.Bits.Mul64
import Derived.Deep.CutRange
import Derived.Deep.CutBlock
import Derived.ScopeJumps
import Derived.WalkMore
import Derived.Laws.StructEq
import Derived.Lib.CutLaws
import Derived.Maps.OwnSet
import Derived.WalkArith
import Derived.StringKeys
import Derived.ProofKit
import Derived.OpenShut
import Derived.ChangeArms
import Derived.Deep.Slices
import Derived.ReadAgain
import Derived.WideKeyArgs
import Derived.Maps.AppendAt
import Derived.Lib.IndexBytes
namespace Go.Proofs.YtnffhcjmpjajlaaDoor.V
open Go.RowKit
abbrev Sp := Sum Value (List Value)
def spNew : Sp → Bool
 | .inl _ => false
 | .inr _ => true
def spDen (N : Nat) : Sp → Value → World → Prop
 | .inl v, u, _ => u = v
 | .inr zs, u, w => ∃ k, u = pt k 0 ∧ N ≤ k ∧ At w k zs
theorem spMo {N : Nat} {s : Sp} {u : Value} {w w' : World} (m : Mw w w') (h : spDen N s u w) : spDen N s u w' := by
 cases s with
 | inl v => exact h
 | inr zs => obtain ⟨k, h1, h2, h3⟩ := h; exact ⟨k, h1, h2, h3.mo m⟩
def spAt (sp : List Sp) (i : Nat) : Sp := (sp[i]?).getD (.inl undef)
def Ds (sp : List Sp) (f : Nat → Value) (w : World) : Prop :=
 (∀ j, spNew (spAt sp j) = true → ∀ k, f j = pt k 0 → k < w.heap.size) ∧ ∀ i j, spNew (spAt sp i) = true → spNew (spAt sp j) = true → i ≠ j → ∀ k, f i = pt k 0 → f j ≠ pt k 0
theorem Ds.other {sp : List Sp} {f : Nat → Value} {w w' : World} {i : Nat} {v : Value} (h : Ds sp f w) (hi : spNew (spAt sp i) = false) (hz : w.heap.size ≤ w'.heap.size) : Ds sp (upd f i v) w' := by
 have e : ∀ j, spNew (spAt sp j) = true → upd f i v j = f j := fun j hj => by
  unfold upd; rw [if_neg]; intro e; subst e; rw [hi] at hj; cases hj
 exact ⟨fun j hj k hk => Nat.lt_of_lt_of_le (h.1 j hj k (by rw [← e j hj]; exact hk)) hz, fun a b ha hb hab k hk => by rw [e b hb]; exact h.2 a b ha hb hab k (by rw [← e a ha]; exact hk)⟩
theorem pt_inj {a b : Nat} (h : pt a 0 = pt b 0) : a = b := by simpa using h
theorem Ds.fresh {sp : List Sp} {f : Nat → Value} {w w' : World} {i k : Nat} (h : Ds sp f w) (hk : w.heap.size = k) (hz : w'.heap.size = k + 1) : Ds sp (upd f i (pt k 0)) w' := by
 refine ⟨fun j hj m hm => ?_, fun a b ha hb hab m hm hn => ?_⟩
 ·unfold upd at hm
  split at hm
  ·have := pt_inj hm; omega
  ·have := h.1 j hj m hm; omega
 ·unfold upd at hm hn
  split at hm
  ·have e := pt_inj hm
   split at hn
   ·omega
   ·have := h.1 b hb m hn; omega
  ·split at hn
   ·have e := pt_inj hn; have := h.1 a ha m hm; omega
   ·exact h.2 a b ha hb hab m hm hn
def tw (ops : List Oper) : Nat → Nat → Nat → Bool
 | 0, _, _ => false
 | f + 1, i, j => match ops[i]? with
  | some o => depb o j || (List.range i).any fun k => depb o k && tw ops f k j
  | none => false
theorem exists_least0 {p : Nat → Prop} (h : ∃ m, p m) : ∃ m, p m ∧ ∀ k, p k → m ≤ k := by
 obtain ⟨m, hm⟩ := h
 induction m using Nat.strongRecOn with
 | ind m ih =>
  by_cases hh : ∃ k, k < m ∧ p k
  ·obtain ⟨k, hk, hp⟩ := hh; exact ih k hk hp
  ·exact ⟨m, hm, fun k hp => Nat.le_of_not_lt (fun hk => hh ⟨k, hk, hp⟩)⟩
def chainB (ops : List Oper) (m : Nat) (fs : List Nat) : Bool := (List.range ops.length).all fun i => Nat.blt i m || (List.range i).all fun j => fs.contains j || tw ops ops.length i j
def Shut (ops : List Oper) (listed : Array Bool) : Prop := ∀ i o, ops[i]? = some o → listed.getD i false = true → ∀ e ∈ o.after, Region.binds .any e = true → listed.getD e.on false = true
theorem tw_spec {ops : List Oper} {listed : Array Bool} (hc : Shut ops listed) : ∀ (f i j : Nat) (o : Oper), ops[i]? = some o → (∀ e ∈ o.after, Region.binds .any e = true → listed.getD e.on false = true) → tw ops f i j = true → listed.getD j false = true := by
 intro f
 induction f with
 | zero => intro i j o _ _ h; cases h
 | succ f ih =>
  intro i j o ho hd h
  have dep : ∀ k, depb o k = true → listed.getD k false = true := fun k hk => by
   obtain ⟨e, he, hb⟩ := List.any_eq_true.1 hk
   simp only [Bool.and_eq_true] at hb
   have := hd e (by simpa using he) hb.1
   rwa [Nat.eq_of_beq_eq_true hb.2] at this
  simp only [tw, ho, Bool.or_eq_true] at h
  rcases h with h | h
  ·exact dep j h
  ·obtain ⟨k, hk, hkk⟩ := List.any_eq_true.1 h
   simp only [Bool.and_eq_true] at hkk
   cases hok : ops[k]? with
   | none => cases f with
    | zero => cases hkk.2
    | succ f => simp [tw, hok] at hkk
   | some ok => exact ih k j ok hok (fun e he hb => hc k ok hok (dep k hkk.1) e he hb) hkk.2
theorem chainB_spec {ops : List Oper} {m : Nat} {fs : List Nat} (h : chainB ops m fs = true) {listed : Array Bool} (hc : Shut ops listed) {i : Nat} {o : Oper} (ho : ops[i]? = some o) (hi : m ≤ i) (hd : ∀ e ∈ o.after, Region.binds .any e = true → listed.getD e.on false = true) : ∀ j, j < i → fs.contains j = false → listed.getD j false = true := by
 intro j hj hfl
 have h1 := List.all_eq_true.1 h i (List.mem_range.2 (List.getElem?_eq_some_iff.1 ho).1)
 simp only [Bool.or_eq_true] at h1
 rcases h1 with h1 | h1
 ·rw [Nat.blt_eq] at h1; omega
 ·have h2 := List.all_eq_true.1 h1 j (List.mem_range.2 hj)
  rw [hfl, Bool.false_or] at h2
  exact tw_spec hc _ i j o ho hd h2
theorem Shut.step {ops : List Oper} {listed : Array Bool} (h : Shut ops listed) {i : Nat} {o : Oper} (ho : ops[i]? = some o) (hd : ∀ e ∈ o.after, Region.binds .any e = true → listed.getD e.on false = true) : Shut ops (listed.setIfInBounds i true) := by
 intro j oj hoj hl e he hb
 by_cases hij : i = j
 ·subst hij
  rw [ho] at hoj; cases hoj
  exact getD_set_true (hd e he hb)
 ·rw [getD_set_ne false hij] at hl
  exact getD_set_true (h j oj hoj hl e he hb)
theorem Shut.start (ops : List Oper) (n : Nat) : Shut ops (Array.replicate n false) := fun i _ _ hl => by
 exfalso
 rcases Nat.lt_or_ge i n with h' | h' <;> simp [h'] at hl
section
variable {P : Program} {ops : List Oper} {Q : Exit → Act → World → Prop} {n : Nat} {l : List (Nat × Value)}
theorem wpAny_chain {m : Nat} {fs : List Nat} (hfs : ∀ j, m ≤ j → fs.contains j = false) (hc : chainB ops m fs = true) (hb : edgesBack .any ops.toArray = true) : ∀ (d q fuel : Nat) (listed : Array Bool) (a : Act) (w : World), q + d = ops.length → m ≤ q → d ≤ fuel → listed.size = ops.length → Shut ops listed →
  (∀ j, j < ops.length → listed.getD j true = decide (j < q)) → wpList P ops.toArray Q (ops.drop q) a w → wpAny P .any ops.toArray Q fuel listed a w := by
 intro d
 induction d with
 | zero =>
  intro q fuel listed a w hq hm hf hz hsh hl h
  have hr : Region.ready .any ops.toArray listed = [] := by
   rw [List.eq_nil_iff_forall_not_mem]
   intro i hi
   obtain ⟨h0, o, ho, _⟩ := mem_ready.1 hi
   have hlt : i < ops.length := by have := (Array.getElem?_eq_some_iff.1 ho).1; simpa using this
   rw [hl i hlt] at h0
   have := of_decide_eq_false h0
   omega
  rw [List.drop_eq_nil_of_le (by omega)] at h
  exact wpAny_done hr h fuel
 | succ d ih =>
  intro q fuel listed a w hq hm hf hz hsh hl h
  have hqlt : q < ops.length := by omega
  cases fuel with
  | zero => omega
  | succ fuel =>
   have hone : ∀ i, i ∈ Region.ready .any ops.toArray listed ↔ i = q := by
    intro i
    constructor
    ·intro hi
     obtain ⟨h0, o, ho, hall⟩ := mem_ready.1 hi
     have hlt : i < ops.length := by have := (Array.getElem?_eq_some_iff.1 ho).1; simpa using this
     rw [hl i hlt] at h0
     have hge := of_decide_eq_false h0
     rcases Nat.lt_or_ge q i with hgt | hle
     ·have h1 := chainB_spec hc hsh (i := i) (o := o) (by simpa using ho) (by omega) hall q hgt (hfs q hm)
      have h2 := hl q hqlt
      have : q < listed.size := by omega
      simp [this] at h1 h2
      rw [h1] at h2; cases h2
     ·omega
    ·rintro rfl
     refine mem_ready.2 ⟨by rw [hl i hqlt]; simp, ops[i], by simp [hqlt], fun e he hbd => ?_⟩
     have hlt := edgesBack_spec hb (i := i) (o := ops[i]) (by simp [hqlt]) e he hbd
     have h2 := hl e.on (by omega)
     have : e.on < listed.size := by omega
     simp [this] at h2 ⊢
     rw [h2]; exact decide_eq_true hlt
   refine ⟨fun h0 => ?_, fun i hi => ?_⟩
   ·have := (hone q).2 rfl; rw [h0] at this; cases this
   ·have := (hone i).1 hi
    subst this
    have hdi : ∀ e ∈ (ops[i]).after, Region.binds .any e = true → listed.getD e.on false = true := by
     obtain ⟨_, o, ho, hall⟩ := mem_ready.1 hi
     have : ops[i] = o := by have := Array.getElem?_eq_some_iff.1 ho; obtain ⟨_, h⟩ := this; simpa using h
     rw [this]; exact hall
    rw [List.drop_eq_getElem_cons hqlt] at h
    have h1 : wpOp P ops.toArray Q i (wpList P ops.toArray Q (ops.drop (i + 1))) a w := by
     unfold wpOp
     have e : ops.toArray[i]? = some ops[i] := by simp [hqlt]
     rw [e]
     unfold wpList at h
     exact h
    refine wpOp_mono (fun a' w' h' => ih (i + 1) fuel _ a' w' (by omega) (by omega) (by omega) (by simpa using hz) (hsh.step (i := i) (o := ops[i]) (by simp [hqlt]) hdi) (fun j hj => ?_) h') h1
    by_cases e : i = j
    ·subst e
     have : i < listed.size := by omega
     simp [this]
    ·rw [getD_set_ne true e, hl j hj]
     congr 1
     rw [eq_iff_iff]; omega
def OgE (P : Program) (ops : List Oper) (Q : Exit → Act → World → Prop) (n : Nat) (l : List (Nat × Value)) (m : Nat) (W : World) (sp : List Sp) (i : Nat) (o : Oper) : Prop :=
 ∀ f w, Mw W w → (∀ j, depb o j = true → spDen W.heap.size (spAt sp j) (f j) w) → ∀ K : Act → World → Prop,
  (match spAt sp i with
   | .inl v => ∀ w', Mw w w' → K (fr n (ext (asg f 0 (ops.take m) l) o.dst v)) w'
   | .inr zs => ∀ k w', w.heap.size = k → w'.heap.size = k + 1 → Mw w w' → At w' k zs → K (fr n (ext (asg f 0 (ops.take m) l) o.dst (pt k 0))) w') →
  bif wnt n (asg f 0 (ops.take m) l) ops.toArray o then o.wp P (fr n (asg f 0 (ops.take m) l)) w K Q else K (fr n (ext (asg f 0 (ops.take m) l) o.dst undef)) w
def floatB (ops : List Oper) (m : Nat) (fs : List Nat) : Bool := fs.all fun i => Nat.blt i m && match ops[i]? with
 | some o => (List.range ops.length).all fun j => Nat.beq j i || Nat.blt j i || (Nat.blt j m && !fs.contains j) || match ops[j]? with
  | some oj => depb oj i || o.apart ops.toArray oj
  | none => true
 | none => false
def LateO (P : Program) (ops : List Oper) (Q : Exit → Act → World → Prop) (n : Nat) (l : List (Nat × Value)) (m : Nat) (sp : List Sp) (i : Nat) : Prop :=
 ∃ o v, ops[i]? = some o ∧ spAt sp i = .inl v ∧ (∀ u c a w, Q (.panic c) (a.put o.dst u) w → Q (.panic c) a w) ∧
  ∀ f, (∀ j, depb o j = true → ∀ u, spAt sp j = .inl u → f j = u) → wnt n (asg f 0 (ops.take m) l) ops.toArray o = true ∧ ∀ w, (execOp (evl n (asg f 0 (ops.take m) l)) o).run P w = .ok (.value v) w
theorem r_draw {id : Nat} {W : World} (m : Nat) (sp : List Sp) (fs : List Nat) (hm : P.follows .mixedOrders = true)
    (hb : edgesBack .any ops.toArray = true) (hd : dstsApart (ops.take m) = true) (hc : chainB ops m fs = true) (hl : Nat.ble m ops.length = true) (hf : floatB ops m fs = true) (hns : Region.noSelect ops.toArray = true)
    (hlate : ∀ i, i ∈ fs → LateO P ops Q n l m sp i)
    (hD : Ds sp (slots (fr n l) (ops.take m).toArray) W)
    (hs : Each (OgE P ops Q n l m W sp) 0 (ops.take m))
    (hend : ∀ f w, Mw W w → (∀ i, Nat.blt i m = true → spDen W.heap.size (spAt sp i) (f i) w) → Ds sp f w → wpList P ops.toArray Q (ops.drop m) (fr n (asg f 0 (ops.take m) l)) w) :
    (Code.region id ops.toArray true).wp P Q (fr n l) W := by
  have hml : m ≤ ops.length := Nat.le_of_ble_eq_true hl
  have hfm : ∀ i, i ∈ fs → i < m := fun i hi => by
    have := List.all_eq_true.1 hf i hi
    simp only [Bool.and_eq_true] at this
    rw [Nat.blt_eq] at this; exact this.1
  have hfs : ∀ j, m ≤ j → fs.contains j = false := fun j hj => by
    cases e : fs.contains j with
    | false => rfl
    | true => have := hfm j (by simpa using e); omega
  refine wp_region_any hm ?_
  -- all that are not late have come up: the late ones first, then the last part
  have second : ∀ (d fuel : Nat) (listed : Array Bool) (f : Nat → Value) (w : World), listed.toList.count false = (ops.length - m) + d → (ops.length - m) + d ≤ fuel → listed.size = ops.length → Shut ops listed → (∀ j, m ≤ j → j < ops.length → listed.getD j true = false) →
      (∀ j, j < m → fs.contains j = false → listed.getD j true = true) → Mw W w → Ds sp f w → (∀ i, i < m → listed.getD i false = true → spDen W.heap.size (spAt sp i) (f i) w) → wpAny P .any ops.toArray Q fuel listed (putAll f 0 (ops.take m) (fr n l)) w := by
    intro d
    induction d with
    | zero =>
      intro fuel listed f w hcnt hfu hz hsh hun hall hW hDs hR
      have hall2 : ∀ j, j < m → listed.getD j true = true := fun j hj => by
        cases e : listed.getD j true with
        | true => rfl
        | false =>
          exfalso
          have h1 : (listed.toList.drop m).count false = ops.length - m := by
            have h2 : listed.toList.drop m = List.replicate (ops.length - m) false := by
              apply List.ext_getElem
              · simp [hz]
              · intro j h3 h4
                simp at h3
                have := hun (m + j) (by omega) (by omega)
                have h5 : m + j < listed.size := by omega
                simpa [h5] using this
            rw [h2]; simp
          have h3 := List.take_append_drop m listed.toList
          have h4 : 0 < (listed.toList.take m).count false := by
            apply List.count_pos_iff.2
            have hjs : j < listed.size := by omega
            simp [hjs] at e
            rw [List.mem_iff_getElem]
            exact ⟨j, by simp; omega, by simp [e]⟩
          rw [← h3, List.count_append] at hcnt
          omega
      refine wpAny_chain hfs hc hb (ops.length - m) m _ listed _ w (by omega) (Nat.le_refl _) (by omega) hz hsh (fun j hj => ?_) ?_
      · rcases Nat.lt_or_ge j m with h | h
        · rw [hall2 j h]; simp [h]
        · rw [hun j h hj]; simp [Nat.not_lt.2 h]
      · rw [putAll_fr]
        exact hend f w hW (fun i hi => by
          have hi' : i < m := by rw [Nat.blt_eq] at hi; exact hi
          refine hR i hi' ?_
          have h1 := hall2 i hi'
          have h2 : i < listed.size := by omega
          simpa [h2] using h1) hDs
    | succ d ih =>
      intro fuel listed f w hcnt hfu hz hsh hun hall hW hDs hR
      -- a late one that has not come up: the first
      have hex : ∃ i, i < m ∧ listed.getD i true = false := by
        apply Classical.byContradiction
        intro hno
        have hall2 : ∀ j, j < m → listed.getD j true = true := fun j hj => by
          cases e : listed.getD j true with
          | true => rfl
          | false => exact absurd ⟨j, hj, e⟩ hno
        have h3 := List.take_append_drop m listed.toList
        have h4 : (listed.toList.take m).count false = 0 := by
          rw [List.count_eq_zero]
          intro hmem
          rw [List.mem_iff_getElem] at hmem
          obtain ⟨j, hj, e⟩ := hmem
          simp at hj e
          have hj1 : j < m := by omega
          have hj2 : j < listed.size := by omega
          have := hall2 j hj1
          simp [hj2] at this
          rw [this] at e; cases e
        have h5 : (listed.toList.drop m).count false ≤ ops.length - m := by
          have := List.count_le_length (a := false) (l := listed.toList.drop m)
          simp [hz] at this; exact this
        rw [← h3, List.count_append] at hcnt
        omega
      obtain ⟨i, ⟨him, hiu⟩, hmin⟩ := exists_least0 hex
      have hif : i ∈ fs := by
        cases e : fs.contains i with
        | true => simpa using e
        | false => have := hall i him e; rw [hiu] at this; cases this
      obtain ⟨o, v, ho, hv, hQ, hy⟩ := hlate i hif
      have hdep : ∀ e ∈ o.after, Region.binds .any e = true → listed.getD e.on false = true := fun e he hbd => by
        have hlt := edgesBack_spec hb (i := i) (o := o) (by simpa using ho) e he hbd
        have h1 : listed.getD e.on true = true := by
          cases ee : listed.getD e.on true with
          | true => rfl
          | false => have := hmin e.on ⟨by omega, ee⟩; omega
        have h2 : e.on < listed.size := by omega
        simpa [h2] using h1
      have hval : ∀ j, depb o j = true → ∀ u, spAt sp j = .inl u → f j = u := fun j hj u hu => by
        obtain ⟨e, he, hb'⟩ := List.any_eq_true.1 hj
        simp only [Bool.and_eq_true] at hb'
        have heon := Nat.eq_of_beq_eq_true hb'.2
        have hj' := hdep e (by simpa using he) hb'.1
        have hlt := edgesBack_spec hb (i := i) (o := o) (by simpa using ho) e (by simpa using he) hb'.1
        rw [heon] at hj' hlt
        have := hR j (by omega) hj'
        rw [hu] at this
        exact this
      obtain ⟨hw1, hw2⟩ := hy f hval
      cases fuel with
      | zero => omega
      | succ fuel =>
        refine wpAny_first (i := i) (oi := o) (v := v) (by simpa using ho) (Region.noSelect_spec hns) (hQ v) fuel listed _ w ?_ ?_ ?_ ?_
        · intro j oj hoj hji hju hno
          have hjl : j < ops.length := by have := (Array.getElem?_eq_some_iff.1 hoj).1; simpa using this
          have h1 := List.all_eq_true.1 hf i hif
          simp only [Bool.and_eq_true, ho] at h1
          have h2 := List.all_eq_true.1 h1.2 j (List.mem_range.2 hjl)
          have hoj' : ops[j]? = some oj := by simpa using hoj
          simp only [hoj', Bool.or_eq_true, Bool.and_eq_true, Bool.not_eq_true'] at h2
          rcases h2 with ((h2 | h2) | h2) | h2 | h2
          · exact absurd (Nat.eq_of_beq_eq_true h2) hji
          · rw [Nat.blt_eq] at h2
            have := hmin j ⟨by omega, hju⟩
            omega
          · have := hall j (by have := h2.1; rw [Nat.blt_eq] at this; exact this) h2.2
            rw [this] at hju; cases hju
          · obtain ⟨e, he, hb'⟩ := List.any_eq_true.1 h2
            simp only [Bool.and_eq_true] at hb'
            exact absurd (Nat.eq_of_beq_eq_true hb'.2) (hno e (by simpa using he) hb'.1)
          · exact h2
        · exact mem_ready.2 ⟨hiu, o, by simpa using ho, hdep⟩
        · rw [putAll_fr]
          exact Or.inl ⟨by rw [fr_wanted]; exact hw1, fun w => by rw [fr_eval]; exact hw2 w⟩
        · have hot : (ops.take m)[i]? = some o := by rw [List.getElem?_take_of_lt him]; exact ho
          have hp := putAll_put v (ops.take m) 0 f (fr n l) hd i o hot
          rw [Nat.zero_add] at hp
          rw [hp]
          have h1 : listed.toList[i]? = some false := by
            have h' : i < listed.size := by omega
            simp [h'] at hiu; simp [h', hiu]
          have hcs := count_set _ _ h1
          refine ih fuel _ (upd f i v) w ?_ (by omega) (by simpa using hz) (hsh.step ho hdep) (fun j h1 h2 => ?_) (fun j h1 h2 => ?_) hW (hDs.other (by rw [hv]; rfl) (Nat.le_refl _)) (fun j hj hlj => ?_)
          · simp only [Array.toList_setIfInBounds]; omega
          · rw [getD_set_ne true (by omega)]; exact hun j h1 h2
          · have hij : i ≠ j := by intro e; subst e; have : fs.contains i = true := by simpa using hif
                                   rw [this] at h2; cases h2
            rw [getD_set_ne true hij]; exact hall j h1 h2
          · by_cases e : j = i
            · subst e; rw [hv]; simp [upd, spDen]
            · rw [getD_set_ne false (Ne.symm e)] at hlj
              have := hR j hj hlj
              simpa [upd, e] using this
  have main : ∀ (fuel : Nat) (listed : Array Bool) (f : Nat → Value) (w : World), listed.toList.count false ≤ fuel → listed.size = ops.length → Shut ops listed → (∀ j, m ≤ j → j < ops.length → listed.getD j true = false) →
      Mw W w → Ds sp f w → (∀ i, i < m → listed.getD i false = true → spDen W.heap.size (spAt sp i) (f i) w) → wpAny P .any ops.toArray Q fuel listed (putAll f 0 (ops.take m) (fr n l)) w := by
    intro fuel
    induction fuel with
    | zero =>
      intro listed f w hcnt hz hsh hun hW hDs hR
      refine wpAny_chain hfs hc hb (ops.length - m) m 0 listed _ w (by omega) (Nat.le_refl _) ?_ hz hsh ?_ ?_
      · rcases Nat.lt_or_ge m ops.length with h | h
        · exfalso
          have h1 := hun m (Nat.le_refl _) h
          have h2 : m < listed.size := by omega
          have : false ∈ listed.toList := by simp [h2] at h1; rw [← h1]; simp
          have := List.count_pos_iff.2 this
          omega
        · omega
      · intro j hj
        have h2 : j < listed.size := by omega
        have h3 : listed.getD j true = true := by
          cases e : listed.getD j true with
          | true => rfl
          | false =>
            have : false ∈ listed.toList := by simp [h2] at e; rw [← e]; simp
            have := List.count_pos_iff.2 this
            omega
        rcases Nat.lt_or_ge j m with h | h
        · rw [h3]; simp [h]
        · rw [hun j h hj] at h3; cases h3
      · rw [putAll_fr]
        refine hend f w hW (fun i hi => hR i (by rw [Nat.blt_eq] at hi; exact hi) ?_) hDs
        have hi' : i < m := by rw [Nat.blt_eq] at hi; exact hi
        have h2 : i < listed.size := by omega
        cases e : listed.getD i false with
        | true => rfl
        | false =>
          have : false ∈ listed.toList := by simp [h2] at e; rw [← e]; simp
          have := List.count_pos_iff.2 this
          omega
    | succ fuel ih =>
      intro listed f w hcnt hz hsh hun hW hDs hR
      by_cases hall : ∀ j, j < m → fs.contains j = false → listed.getD j true = true
      · have hge : ops.length - m ≤ listed.toList.count false := by
          have h1 : (listed.toList.drop m).count false = ops.length - m := by
            have h2 : listed.toList.drop m = List.replicate (ops.length - m) false := by
              apply List.ext_getElem
              · simp [hz]
              · intro j h3 h4
                simp at h3
                have := hun (m + j) (by omega) (by omega)
                have h5 : m + j < listed.size := by omega
                simpa [h5] using this
            rw [h2]; simp
          have h3 := List.take_append_drop m listed.toList
          rw [← h3, List.count_append]
          omega
        exact second (listed.toList.count false - (ops.length - m)) _ listed f w (by omega) (by omega) hz hsh hun hall hW hDs hR
      · obtain ⟨u, hum, huf, hu⟩ : ∃ u, u < m ∧ fs.contains u = false ∧ listed.getD u true = false := by
          rcases Classical.not_forall.1 hall with ⟨u, h⟩
          rcases Classical.not_imp.1 h with ⟨h1, h2⟩
          rcases Classical.not_imp.1 h2 with ⟨h3, h4⟩
          exact ⟨u, h1, h3, by cases e : listed.getD u true with | true => exact absurd e h4 | false => rfl⟩
        have hne : Region.ready .any ops.toArray listed ≠ [] := fun hr => by
          have := all_listed hb hr u (by simp; omega)
          rw [hu] at this; cases this
        refine ⟨fun h0 => absurd h0 hne, fun i hi => ?_⟩
        obtain ⟨h0, o, ho, hdep⟩ := mem_ready.1 hi
        have hoi : ops[i]? = some o := by simpa using ho
        have hilt : i < ops.length := (List.getElem?_eq_some_iff.1 hoi).1
        have him : i < m := by
          rcases Nat.lt_or_ge i m with h | h
          · exact h
          · exfalso
            have h1 := chainB_spec hc hsh hoi h hdep u (by omega) huf
            have h2 : u < listed.size := by omega
            simp [h2] at h1 hu
            rw [h1] at hu; cases hu
        have hot : (ops.take m)[i]? = some o := by rw [List.getElem?_take_of_lt him]; exact hoi
        have hstep := Each.spec (ops.take m) 0 hs i o hot
        rw [Nat.zero_add] at hstep
        have hcount : ((listed.setIfInBounds i true).toList.count false) ≤ fuel := by
          have h1 : listed.toList[i]? = some false := by
            have h' : i < listed.size := by omega
            simp [h'] at h0; simp [h', h0]
          have := count_set _ _ h1
          simp only [Array.toList_setIfInBounds]
          omega
        have hun' : ∀ j, m ≤ j → j < ops.length → (listed.setIfInBounds i true).getD j true = false := fun j h1 h2 => by
          rw [getD_set_ne true (by omega)]; exact hun j h1 h2
        have next : ∀ v w', Mw w w' → Ds sp (upd f i v) w' → spDen W.heap.size (spAt sp i) v w' → wpAny P .any ops.toArray Q fuel (listed.setIfInBounds i true) (putAll (upd f i v) 0 (ops.take m) (fr n l)) w' := fun v w' hmo hds hden => by
          refine ih _ _ w' hcount (by simpa using hz) (hsh.step hoi hdep) hun' (hW.trans hmo) hds (fun j hj hlj => ?_)
          by_cases e : j = i
          · subst e; simpa [upd] using hden
          · rw [getD_set_ne false (Ne.symm e)] at hlj
            have := spMo hmo (hR j hj hlj)
            simpa [upd, e] using this
        have put : ∀ v, fr n (ext (asg f 0 (ops.take m) l) o.dst v) = putAll (upd f i v) 0 (ops.take m) (fr n l) := fun v => by
          have := putAll_put v (ops.take m) 0 f (fr n l) hd i o hot
          rw [Nat.zero_add] at this
          rw [← this, putAll_fr, fr_put]
        refine wpOp_step ho (fun K hK => ?_)
        rw [putAll_fr, fr_wanted]
        have hh := hstep f w hW (fun j hj => by
          obtain ⟨e, he, hb'⟩ := List.any_eq_true.1 hj
          simp only [Bool.and_eq_true] at hb'
          have heon := Nat.eq_of_beq_eq_true hb'.2
          have hj' := hdep e (by simpa using he) hb'.1
          have hlt := edgesBack_spec hb ho e (by simpa using he) hb'.1
          rw [heon] at hj' hlt
          exact hR j (by omega) hj') K
        have hh2 : (bif wnt n (asg f 0 (ops.take m) l) ops.toArray o then o.wp P (fr n (asg f 0 (ops.take m) l)) w K Q else K (fr n (ext (asg f 0 (ops.take m) l) o.dst undef)) w) := by
          refine hh ?_
          cases hsp : spAt sp i with
          | inl v =>
            intro w' hmo
            rw [put]
            exact hK _ _ (next v w' hmo (hDs.other (by rw [hsp]; rfl) hmo.size) (by rw [hsp]; rfl))
          | inr zs =>
            intro k w' hk hz' hmo hat
            rw [put]
            exact hK _ _ (next (pt k 0) w' hmo (hDs.fresh hk hz') (by rw [hsp]; exact ⟨k, rfl, by have := hW.size; omega, hat⟩))
        rw [fr_put]
        cases hw : wnt n (asg f 0 (ops.take m) l) ops.toArray o <;> simp only [hw, cond_true, cond_false] at hh2 ⊢ <;> exact hh2
  have h0 : putAll (slots (fr n l) (ops.take m).toArray) 0 (ops.take m) (fr n l) = fr n l := putAll_self _ _ 0 _ (fun i o ho t ht => by simp only [Nat.zero_add, slots]; rw [show (ops.take m).toArray[i]? = some o by simpa using ho]; simp [ht])
  have := main ops.length (Array.replicate ops.length false) (slots (fr n l) (ops.take m).toArray) W.drew (by simp) (by simp) (Shut.start _ _) (fun j _ hj => by simp [hj]) (Mw.refl _).drew ⟨fun j hj k hk => hD.1 j hj k hk, hD.2⟩ (fun i _ hi => by
    exfalso
    rcases Nat.lt_or_ge i ops.length with h' | h' <;> simp [h'] at hi)
  rw [h0] at this
  simpa using this
def spv (sp : List Sp) (kf : Nat → Nat) (i : Nat) : Value :=
 match spAt sp i with
 | .inl v => v
 | .inr _ => pt (kf i) 0
theorem asg_congr {f g : Nat → Value} : ∀ (r : List Oper) (i : Nat) (l : List (Nat × Value)), (∀ j, i ≤ j → j < i + r.length → f j = g j) → asg f i r l = asg g i r l
 | [], _, _, _ => rfl
 | o :: r, i, l, h => by
  unfold asg
  rw [h i (Nat.le_refl _) (by simp)]
  exact asg_congr r (i + 1) _ (fun j h1 h2 => h j (by omega) (by simp; omega))
theorem r_any {id : Nat} {W : World} (m : Nat) (sp : List Sp) (fs : List Nat) (hm : P.follows .mixedOrders = true)
  (hb : edgesBack .any ops.toArray = true) (hd : dstsApart (ops.take m) = true) (hc : chainB ops m fs = true) (hl : Nat.ble m ops.length = true) (hf : floatB ops m fs = true) (hns : Region.noSelect ops.toArray = true)
  (hlate : ∀ i, i ∈ fs → LateO P ops Q n l m sp i)
  (hD : Ds sp (slots (fr n l) (ops.take m).toArray) W)
  (hs : Each (OgE P ops Q n l m W sp) 0 (ops.take m))
  (hend : ∀ kf w, Mw W w → (∀ i zs, Nat.blt i m = true → spAt sp i = .inr zs → W.heap.size ≤ kf i ∧ At w (kf i) zs) → (∀ i j, Nat.blt i m = true → Nat.blt j m = true → spNew (spAt sp i) = true → spNew (spAt sp j) = true → i ≠ j → kf i ≠ kf j) →
   wpList P ops.toArray Q (ops.drop m) (fr n (asg (spv sp kf) 0 (ops.take m) l)) w) :
  (Code.region id ops.toArray true).wp P Q (fr n l) W := by
 refine r_draw m sp fs hm hb hd hc hl hf hns hlate hD hs (fun f w hmo hR hDs => ?_)
 have hk : ∃ kf : Nat → Nat, ∀ i zs, i < m → spAt sp i = .inr zs → f i = pt (kf i) 0 ∧ W.heap.size ≤ kf i ∧ At w (kf i) zs := by
  refine ⟨fun i => Classical.epsilon (fun k => f i = pt k 0), fun i zs hi hsp => ?_⟩
  have h1 := hR i (by rw [Nat.blt_eq]; exact hi)
  rw [hsp] at h1
  obtain ⟨k, e, h2, h3⟩ := h1
  have hex : ∃ k, f i = pt k 0 := ⟨k, e⟩
  have hc := Classical.epsilon_spec hex
  have : Classical.epsilon (fun k => f i = pt k 0) = k := pt_inj (hc.symm.trans e)
  simp only [this]
  exact ⟨e, h2, h3⟩
 obtain ⟨kf, hkf⟩ := hk
 have e : asg f 0 (ops.take m) l = asg (spv sp kf) 0 (ops.take m) l := asg_congr _ 0 l (fun j _ hj => by
  have hjm : j < m := by have := List.length_take_le m ops; omega
  unfold spv
  cases hsp : spAt sp j with
  | inl v =>
   have := hR j (by rw [Nat.blt_eq]; exact hjm)
   rw [hsp] at this
   exact this
  | inr zs => exact (hkf j zs hjm hsp).1)
 rw [e]
 refine hend kf w hmo (fun i zs hi hsp => (hkf i zs (by rw [Nat.blt_eq] at hi; exact hi) hsp).2) (fun i j hi hj hin hjn hne heq => ?_)
 have gi : ∃ zs, spAt sp i = .inr zs := by cases h : spAt sp i with | inl v => rw [h] at hin; cases hin | inr zs => exact ⟨zs, rfl⟩
 have gj : ∃ zs, spAt sp j = .inr zs := by cases h : spAt sp j with | inl v => rw [h] at hjn; cases hjn | inr zs => exact ⟨zs, rfl⟩
 obtain ⟨zi, gi⟩ := gi
 obtain ⟨zj, gj⟩ := gj
 have hi' : i < m := by rw [Nat.blt_eq] at hi; exact hi
 have hj' : j < m := by rw [Nat.blt_eq] at hj; exact hj
 have h1 := (hkf i zi hi' gi).1
 have h2 := (hkf j zj hj' gj).1
 rw [← heq] at h2
 exact hDs.2 i j hin hjn hne _ h1 h2
theorem Ds.none {sp : List Sp} {f : Nat → Value} {w : World} (h : sp.all (fun s => !spNew s) = true) : Ds sp f w := by
 have hh : ∀ j, spNew (spAt sp j) = true → False := fun j hj => by
  unfold spAt at hj
  cases e : sp[j]? with
  | none => rw [e] at hj; cases hj
  | some s =>
   rw [e] at hj
   have := List.all_eq_true.1 h s (List.mem_of_getElem? e)
   simp at this
   simp [this] at hj
 exact ⟨fun j hj => (hh j hj).elim, fun i j hi => (hh i hi).elim⟩
theorem Ds.undef {sp : List Sp} {f : Nat → Value} {w : World} (h : ∀ j, j < sp.length → spNew (spAt sp j) = true → f j = undef) : Ds sp f w := by
 have hh : ∀ j, spNew (spAt sp j) = true → ∀ k, f j ≠ pt k 0 := fun j hj k e => by
  rcases Nat.lt_or_ge j sp.length with hl | hl
  ·rw [h j hl hj] at e; cases e
  ·unfold spAt at hj; rw [List.getElem?_eq_none hl] at hj; cases hj
 exact ⟨fun j hj k hk => (hh j hj k hk).elim, fun i j hi _ _ k hk => (hh i hi k hk).elim⟩
theorem ct {b : Bool} {A B : Prop} (h : b = true) (a : A) : (bif b then A else B) := by subst h; exact a
theorem cf {b : Bool} {A B : Prop} (h : b = false) (a : B) : (bif b then A else B) := by subst h; exact a
theorem wnt_g {ops : Array Oper} {o : Oper} {j d : Nat} {want b r : Bool} (hg : o.guard = some (j, want)) (hd : (ops[j]?).bind (·.dst) = some d) (hn : Nat.blt d n = true) (hv : look l d = .bool b) (hr : (b == want) = r) : wnt n l ops o = r := by
 unfold wnt
 simp only [hg, hd, hn, cond_true, hv]
 subst hr
 cases b <;> cases want <;> rfl
theorem n_then {Q : Exit → Act → World → Prop} {next : Act → World → Prop} {a : Act} {w : World} (h : next a w) : Exit.then next Q .normal a w := h
theorem n_blk {Q : Exit → Act → World → Prop} {id : Nat} {a : Act} {w : World} (h : Q .normal a w) : Exit.inBlock id Q .normal a w := h
theorem x_then {Q : Exit → Act → World → Prop} {next : Act → World → Prop} {id : Nat} {a : Act} {w : World} (h : Q (.exit id) a w) : Exit.then next Q (.exit id) a w := h
theorem x_blk {Q : Exit → Act → World → Prop} {id : Nat} {a : Act} {w : World} (h : Q .normal a w) : Exit.inBlock id Q (.exit id) a w := by simp only [Exit.inBlock, if_true]; exact h
theorem r_then {Q : Exit → Act → World → Prop} {next : Act → World → Prop} {a : Act} {w : World} (h : Q .ret a w) : Exit.then next Q .ret a w := h
theorem r_blk {Q : Exit → Act → World → Prop} {id : Nat} {a : Act} {w : World} (h : Q .ret a w) : Exit.inBlock id Q .ret a w := h
variable {o : Oper} {w : World} {K : Act → World → Prop}
theorem o_mv (x : Operand) (p : Value) (ho : ∀ ρ, execOp ρ o = pure (.value (ρ x))) (hx : evl n l x = p) (hk : K (fr n (ext l o.dst p)) w) : o.wp P (fr n l) w K Q := by
 refine o_val p ?_ hk
 rw [ho, hx]; rfl
theorem o_un (F : Value → Sem Value) (x : Operand) (p v : Value) (ho : ∀ ρ, execOp ρ o = (do pure (.value (← F (ρ x))))) (hx : evl n l x = p) (h : (F p).run P w = .ok v w) (hk : K (fr n (ext l o.dst v)) w) : o.wp P (fr n l) w K Q := by
 refine o_val v ?_ hk
 rw [ho, hx]; simp [h]
theorem o_bin (F : Value → Value → Sem Value) (x y : Operand) (p q v : Value) (ho : ∀ ρ, execOp ρ o = (do pure (.value (← F (ρ x) (ρ y))))) (hx : evl n l x = p) (hy : evl n l y = q) (h : (F p q).run P w = .ok v w) (hk : K (fr n (ext l o.dst v)) w) : o.wp P (fr n l) w K Q := by
 refine o_val v ?_ hk
 rw [ho, hx, hy]; simp [h]
theorem o_build (t : TypeId) (xs : List (Nat × Operand)) (ps : List (Nat × Value)) (v : Value) (ho : o.op = .build t xs.toArray) (hx : xs.map (fun p => (p.1, evl n l p.2)) = ps) (h : (Instr.build t ps.toArray).run P w = .ok v w) (hk : K (fr n (ext l o.dst v)) w) : o.wp P (fr n l) w K Q := by
 refine o_val v ?_ hk
 subst hx
 simp only [execOp, ho, List.map_toArray]
 simp [h]
theorem o_pick (c x y : Operand) (t : Bool) (v : Value) (ho : ∀ ρ, execOp ρ o = (do pure (.value (if ← asBool (ρ c) then ρ x else ρ y)))) (hc : evl n l c = .bool t) (hv : evl n l (bif t then x else y) = v) (hk : K (fr n (ext l o.dst v)) w) : o.wp P (fr n l) w K Q := by
 refine o_val v ?_ hk
 rw [ho, hc]
 cases t <;> simp at hv <;> simp [asBool, hv]
end
end Go.Proofs.YtnffhcjmpjajlaaDoor.V

