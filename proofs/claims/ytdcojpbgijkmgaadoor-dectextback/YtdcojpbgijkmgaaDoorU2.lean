/-
  A part of the proof.
-/
import Derived.Test.YtdcojpbgijkmgaaDoorOpq
import Derived.Test.YtdcojpbgijkmgaaDoorMulTo
import Derived.Test.YtdcojpbgijkmgaaDoorResc
import Derived.Test.YtdcojpbgijkmgaaDoorNf
import Derived.Test.YtdcojpbgijkmgaaDoorTen
import Derived.Test.YtdcojpbgijkmgaaDoorDec3b
import Derived.Test.YtdcojpbgijkmgaaDoorText
import Derived.Test.YtdcojpbgijkmgaaDoorDiv
import Derived.Test.YtdcojpbgijkmgaaDoorAlc
import Derived.Test.YtdcojpbgijkmgaaDoorEqs
import Derived.Test.YtdcojpbgijkmgaaDoorU1
/-
  A region that draws its order: what each operation of its first part yields, said once for each; the last part a chain.
-/
namespace Go.Proofs.YtdcojpbgijkmgaaDoor.V
open Go.RowKit
/-- What an operation yields: a value, or the address of a new block with such cells. -/
abbrev Sp := Sum Value (List Value)
def spNew : Sp → Bool
  | .inl _ => false
  | .inr _ => true
def spDen (N : Nat) : Sp → Value → World → Prop
  | .inl v, u, _ => u = v
  | .inr zs, u, w => ∃ k, u = pt k 0 ∧ N ≤ k ∧ At w k zs
theorem spMo {N : Nat} {s : Sp} {u : Value} {w w' : World} (m : Mw w w') (h : spDen N s u w) : spDen N s u w' := by
  cases s with
  | inl v => exact h
  | inr zs => obtain ⟨k, h1, h2, h3⟩ := h; exact ⟨k, h1, h2, h3.mo m⟩
def spAt (sp : List Sp) (i : Nat) : Sp := (sp[i]?).getD (.inl undef)
/-- New blocks are apart. -/
def Ds (sp : List Sp) (f : Nat → Value) (w : World) : Prop :=
  (∀ j, spNew (spAt sp j) = true → ∀ k, f j = pt k 0 → k < w.heap.size) ∧ ∀ i j, spNew (spAt sp i) = true → spNew (spAt sp j) = true → i ≠ j → ∀ k, f i = pt k 0 → f j ≠ pt k 0
theorem Ds.other {sp : List Sp} {f : Nat → Value} {w w' : World} {i : Nat} {v : Value} (h : Ds sp f w) (hi : spNew (spAt sp i) = false) (hz : w.heap.size ≤ w'.heap.size) : Ds sp (upd f i v) w' := by
  have e : ∀ j, spNew (spAt sp j) = true → upd f i v j = f j := fun j hj => by
    unfold upd; rw [if_neg]; intro e; subst e; rw [hi] at hj; cases hj
  exact ⟨fun j hj k hk => Nat.lt_of_lt_of_le (h.1 j hj k (by rw [← e j hj]; exact hk)) hz, fun a b ha hb hab k hk => by rw [e b hb]; exact h.2 a b ha hb hab k (by rw [← e a ha]; exact hk)⟩
theorem pt_inj {a b : Nat} (h : pt a 0 = pt b 0) : a = b := by simpa using h
theorem Ds.fresh {sp : List Sp} {f : Nat → Value} {w w' : World} {i k : Nat} (h : Ds sp f w) (hk : w.heap.size = k) (hz : w'.heap.size = k + 1) : Ds sp (upd f i (pt k 0)) w' := by
  refine ⟨fun j hj m hm => ?_, fun a b ha hb hab m hm hn => ?_⟩
  · unfold upd at hm
    split at hm
    · have := pt_inj hm; omega
    · have := h.1 j hj m hm; omega
  · unfold upd at hm hn
    split at hm
    · have e := pt_inj hm
      split at hn
      · omega
      · have := h.1 b hb m hn; omega
    · split at hn
      · have e := pt_inj hn; have := h.1 a ha m hm; omega
      · exact h.2 a b ha hb hab m hm hn
/-- Does number i wait for number j, by one step or more? -/
def tw (ops : List Oper) : Nat → Nat → Nat → Bool
  | 0, _, _ => false
  | f + 1, i, j => match ops[i]? with
    | some o => depb o j || (List.range i).any fun k => depb o k && tw ops f k j
    | none => false
theorem exists_least0 {p : Nat → Prop} (h : ∃ m, p m) : ∃ m, p m ∧ ∀ k, p k → m ≤ k := by
  obtain ⟨m, hm⟩ := h
  induction m using Nat.strongRecOn with
  | ind m ih =>
    by_cases hh : ∃ k, k < m ∧ p k
    · obtain ⟨k, hk, hp⟩ := hh; exact ih k hk hp
    · exact ⟨m, hm, fun k hp => Nat.le_of_not_lt (fun hk => hh ⟨k, hk, hp⟩)⟩
/-- From number m on each waits for all ahead of it. -/
def chainB (ops : List Oper) (m : Nat) (fs : List Nat) : Bool := (List.range ops.length).all fun i => Nat.blt i m || (List.range i).all fun j => fs.contains j || tw ops ops.length i j
/-- What has come up had all that it waits for. -/
def Shut (ops : List Oper) (listed : Array Bool) : Prop := ∀ i o, ops[i]? = some o → listed.getD i false = true → ∀ e ∈ o.after, Region.binds .any e = true → listed.getD e.on false = true
theorem tw_spec {ops : List Oper} {listed : Array Bool} (hc : Shut ops listed) : ∀ (f i j : Nat) (o : Oper), ops[i]? = some o → (∀ e ∈ o.after, Region.binds .any e = true → listed.getD e.on false = true) → tw ops f i j = true → listed.getD j false = true := by
  intro f
  induction f with
  | zero => intro i j o _ _ h; cases h
  | succ f ih =>
    intro i j o ho hd h
    have dep : ∀ k, depb o k = true → listed.getD k false = true := fun k hk => by
      obtain ⟨e, he, hb⟩ := List.any_eq_true.1 hk
      simp only [Bool.and_eq_true] at hb
      have := hd e (by simpa using he) hb.1
      rwa [Nat.eq_of_beq_eq_true hb.2] at this
    simp only [tw, ho, Bool.or_eq_true] at h
    rcases h with h | h
    · exact dep j h
    · obtain ⟨k, hk, hkk⟩ := List.any_eq_true.1 h
      simp only [Bool.and_eq_true] at hkk
      cases hok : ops[k]? with
      | none => cases f with
        | zero => cases hkk.2
        | succ f => simp [tw, hok] at hkk
      | some ok => exact ih k j ok hok (fun e he hb => hc k ok hok (dep k hkk.1) e he hb) hkk.2
theorem chainB_spec {ops : List Oper} {m : Nat} {fs : List Nat} (h : chainB ops m fs = true) {listed : Array Bool} (hc : Shut ops listed) {i : Nat} {o : Oper} (ho : ops[i]? = some o) (hi : m ≤ i) (hd : ∀ e ∈ o.after, Region.binds .any e = true → listed.getD e.on false = true) : ∀ j, j < i → fs.contains j = false → listed.getD j false = true := by
  intro j hj hfl
  have h1 := List.all_eq_true.1 h i (List.mem_range.2 (List.getElem?_eq_some_iff.1 ho).1)
  simp only [Bool.or_eq_true] at h1
  rcases h1 with h1 | h1
  · rw [Nat.blt_eq] at h1; omega
  · have h2 := List.all_eq_true.1 h1 j (List.mem_range.2 hj)
    rw [hfl, Bool.false_or] at h2
    exact tw_spec hc _ i j o ho hd h2
theorem Shut.step {ops : List Oper} {listed : Array Bool} (h : Shut ops listed) {i : Nat} {o : Oper} (ho : ops[i]? = some o) (hd : ∀ e ∈ o.after, Region.binds .any e = true → listed.getD e.on false = true) : Shut ops (listed.setIfInBounds i true) := by
  intro j oj hoj hl e he hb
  by_cases hij : i = j
  · subst hij
    rw [ho] at hoj; cases hoj
    exact getD_set_true (hd e he hb)
  · rw [getD_set_ne false hij] at hl
    exact getD_set_true (h j oj hoj hl e he hb)
theorem Shut.start (ops : List Oper) (n : Nat) : Shut ops (Array.replicate n false) := fun i _ _ hl => by
  exfalso
  rcases Nat.lt_or_ge i n with h' | h' <;> simp [h'] at hl
section
variable {P : Program} {ops : List Oper} {Q : Exit → Act → World → Prop} {n : Nat} {l : List (Nat × Value)}
/-- The last part. -/
theorem wpAny_chain {m : Nat} {fs : List Nat} (hfs : ∀ j, m ≤ j → fs.contains j = false) (hc : chainB ops m fs = true) (hb : edgesBack .any ops.toArray = true) : ∀ (d q fuel : Nat) (listed : Array Bool) (a : Act) (w : World), q + d = ops.length → m ≤ q → d ≤ fuel → listed.size = ops.length → Shut ops listed →
    (∀ j, j < ops.length → listed.getD j true = decide (j < q)) → wpList P ops.toArray Q (ops.drop q) a w → wpAny P .any ops.toArray Q fuel listed a w := by
  intro d
  induction d with
  | zero =>
    intro q fuel listed a w hq hm hf hz hsh hl h
    have hr : Region.ready .any ops.toArray listed = [] := by
      rw [List.eq_nil_iff_forall_not_mem]
      intro i hi
      obtain ⟨h0, o, ho, _⟩ := mem_ready.1 hi
      have hlt : i < ops.length := by have := (Array.getElem?_eq_some_iff.1 ho).1; simpa using this
      rw [hl i hlt] at h0
      have := of_decide_eq_false h0
      omega
    rw [List.drop_eq_nil_of_le (by omega)] at h
    exact wpAny_done hr h fuel
  | succ d ih =>
    intro q fuel listed a w hq hm hf hz hsh hl h
    have hqlt : q < ops.length := by omega
    cases fuel with
    | zero => omega
    | succ fuel =>
      have hone : ∀ i, i ∈ Region.ready .any ops.toArray listed ↔ i = q := by
        intro i
        constructor
        · intro hi
          obtain ⟨h0, o, ho, hall⟩ := mem_ready.1 hi
          have hlt : i < ops.length := by have := (Array.getElem?_eq_some_iff.1 ho).1; simpa using this
          rw [hl i hlt] at h0
          have hge := of_decide_eq_false h0
          rcases Nat.lt_or_ge q i with hgt | hle
          · have h1 := chainB_spec hc hsh (i := i) (o := o) (by simpa using ho) (by omega) hall q hgt (hfs q hm)
            have h2 := hl q hqlt
            have : q < listed.size := by omega
            simp [this] at h1 h2
            rw [h1] at h2; cases h2
          · omega
        · rintro rfl
          refine mem_ready.2 ⟨by rw [hl i hqlt]; simp, ops[i], by simp [hqlt], fun e he hbd => ?_⟩
          have hlt := edgesBack_spec hb (i := i) (o := ops[i]) (by simp [hqlt]) e he hbd
          have h2 := hl e.on (by omega)
          have : e.on < listed.size := by omega
          simp [this] at h2 ⊢
          rw [h2]; exact decide_eq_true hlt
      refine ⟨fun h0 => ?_, fun i hi => ?_⟩
      · have := (hone q).2 rfl; rw [h0] at this; cases this
      · have := (hone i).1 hi
        subst this
        have hdi : ∀ e ∈ (ops[i]).after, Region.binds .any e = true → listed.getD e.on false = true := by
          obtain ⟨_, o, ho, hall⟩ := mem_ready.1 hi
          have : ops[i] = o := by have := Array.getElem?_eq_some_iff.1 ho; obtain ⟨_, h⟩ := this; simpa using h
          rw [this]; exact hall
        rw [List.drop_eq_getElem_cons hqlt] at h
        have h1 : wpOp P ops.toArray Q i (wpList P ops.toArray Q (ops.drop (i + 1))) a w := by
          unfold wpOp
          have e : ops.toArray[i]? = some ops[i] := by simp [hqlt]
          rw [e]
          unfold wpList at h
          exact h
        refine wpOp_mono (fun a' w' h' => ih (i + 1) fuel _ a' w' (by omega) (by omega) (by omega) (by simpa using hz) (hsh.step (i := i) (o := ops[i]) (by simp [hqlt]) hdi) (fun j hj => ?_) h') h1
        by_cases e : i = j
        · subst e
          have : i < listed.size := by omega
          simp [this]
        · rw [getD_set_ne true e, hl j hj]
          congr 1
          rw [eq_iff_iff]; omega
/-- One operation that yields a value. -/
def OgE (P : Program) (ops : List Oper) (Q : Exit → Act → World → Prop) (n : Nat) (l : List (Nat × Value)) (m : Nat) (W : World) (sp : List Sp) (i : Nat) (o : Oper) : Prop :=
  ∀ f w, Mw W w → (∀ j, depb o j = true → spDen W.heap.size (spAt sp j) (f j) w) → ∀ K : Act → World → Prop,
    (match spAt sp i with
      | .inl v => ∀ w', Mw w w' → K (fr n (ext (asg f 0 (ops.take m) l) o.dst v)) w'
      | .inr zs => ∀ k w', w.heap.size = k → w'.heap.size = k + 1 → Mw w w' → At w' k zs → K (fr n (ext (asg f 0 (ops.take m) l) o.dst (pt k 0))) w') →
    bif wnt n (asg f 0 (ops.take m) l) ops.toArray o then o.wp P (fr n (asg f 0 (ops.take m) l)) w K Q else K (fr n (ext (asg f 0 (ops.take m) l) o.dst undef)) w
/-- Those that may come up late: each is apart from all that may come behind. -/
def floatB (ops : List Oper) (m : Nat) (fs : List Nat) : Bool := fs.all fun i => Nat.blt i m && match ops[i]? with
  | some o => (List.range ops.length).all fun j => Nat.beq j i || (Nat.blt j m && !fs.contains j) || match ops[j]? with
    | some oj => depb oj i || o.apart ops.toArray oj
    | none => true
  | none => false
/-- What a late one yields, in whatever world. -/
def LateO (P : Program) (ops : List Oper) (Q : Exit → Act → World → Prop) (n : Nat) (l : List (Nat × Value)) (m : Nat) (sp : List Sp) (i : Nat) : Prop :=
  ∃ o v, ops[i]? = some o ∧ spAt sp i = .inl v ∧ (∀ u c a w, Q (.panic c) (a.put o.dst u) w → Q (.panic c) a w) ∧
    ∀ f, (∀ j, depb o j = true → ∀ u, spAt sp j = .inl u → f j = u) → wnt n (asg f 0 (ops.take m) l) ops.toArray o = true ∧ ∀ w, (execOp (evl n (asg f 0 (ops.take m) l)) o).run P w = .ok (.value v) w
theorem r_draw {id : Nat} {W : World} (m : Nat) (sp : List Sp) (fs : List Nat) (hm : P.follows .mixedOrders = true)
    (hb : edgesBack .any ops.toArray = true) (hd : dstsApart (ops.take m) = true) (hc : chainB ops m fs = true) (hl : Nat.ble m ops.length = true) (hf : floatB ops m fs = true) (hns : Region.noSelect ops.toArray = true)
    (hlate : ∀ i, i ∈ fs → LateO P ops Q n l m sp i)
    (hD : Ds sp (slots (fr n l) (ops.take m).toArray) W)
    (hs : Each (OgE P ops Q n l m W sp) 0 (ops.take m))
    (hend : ∀ f w, Mw W w → (∀ i, Nat.blt i m = true → spDen W.heap.size (spAt sp i) (f i) w) → Ds sp f w → wpList P ops.toArray Q (ops.drop m) (fr n (asg f 0 (ops.take m) l)) w) :
    (Code.region id ops.toArray true).wp P Q (fr n l) W := by
  have hml : m ≤ ops.length := Nat.le_of_ble_eq_true hl
  have hfm : ∀ i, i ∈ fs → i < m := fun i hi => by
    have := List.all_eq_true.1 hf i hi
    simp only [Bool.and_eq_true] at this
    rw [Nat.blt_eq] at this; exact this.1
  have hfs : ∀ j, m ≤ j → fs.contains j = false := fun j hj => by
    cases e : fs.contains j with
    | false => rfl
    | true => have := hfm j (by simpa using e); omega
  refine wp_region_any hm ?_
  -- all that are not late have come up: the late ones first, then the last part
  have second : ∀ (d fuel : Nat) (listed : Array Bool) (f : Nat → Value) (w : World), listed.toList.count false = (ops.length - m) + d → (ops.length - m) + d ≤ fuel → listed.size = ops.length → Shut ops listed → (∀ j, m ≤ j → j < ops.length → listed.getD j true = false) →
      (∀ j, j < m → fs.contains j = false → listed.getD j true = true) → Mw W w → Ds sp f w → (∀ i, i < m → listed.getD i false = true → spDen W.heap.size (spAt sp i) (f i) w) → wpAny P .any ops.toArray Q fuel listed (putAll f 0 (ops.take m) (fr n l)) w := by
    intro d
    induction d with
    | zero =>
      intro fuel listed f w hcnt hfu hz hsh hun hall hW hDs hR
      have hall2 : ∀ j, j < m → listed.getD j true = true := fun j hj => by
        cases e : listed.getD j true with
        | true => rfl
        | false =>
          exfalso
          have h1 : (listed.toList.drop m).count false = ops.length - m := by
            have h2 : listed.toList.drop m = List.replicate (ops.length - m) false := by
              apply List.ext_getElem
              · simp [hz]
              · intro j h3 h4
                simp at h3
                have := hun (m + j) (by omega) (by omega)
                have h5 : m + j < listed.size := by omega
                simpa [h5] using this
            rw [h2]; simp
          have h3 := List.take_append_drop m listed.toList
          have h4 : 0 < (listed.toList.take m).count false := by
            apply List.count_pos_iff.2
            have hjs : j < listed.size := by omega
            simp [hjs] at e
            rw [List.mem_iff_getElem]
            exact ⟨j, by simp; omega, by simp [e]⟩
          rw [← h3, List.count_append] at hcnt
          omega
      refine wpAny_chain hfs hc hb (ops.length - m) m _ listed _ w (by omega) (Nat.le_refl _) (by omega) hz hsh (fun j hj => ?_) ?_
      · rcases Nat.lt_or_ge j m with h | h
        · rw [hall2 j h]; simp [h]
        · rw [hun j h hj]; simp [Nat.not_lt.2 h]
      · rw [putAll_fr]
        exact hend f w hW (fun i hi => by
          have hi' : i < m := by rw [Nat.blt_eq] at hi; exact hi
          refine hR i hi' ?_
          have h1 := hall2 i hi'
          have h2 : i < listed.size := by omega
          simpa [h2] using h1) hDs
    | succ d ih =>
      intro fuel listed f w hcnt hfu hz hsh hun hall hW hDs hR
      -- a late one that has not come up: the first
      have hex : ∃ i, i < m ∧ listed.getD i true = false := by
        apply Classical.byContradiction
        intro hno
        have hall2 : ∀ j, j < m → listed.getD j true = true := fun j hj => by
          cases e : listed.getD j true with
          | true => rfl
          | false => exact absurd ⟨j, hj, e⟩ hno
        have h3 := List.take_append_drop m listed.toList
        have h4 : (listed.toList.take m).count false = 0 := by
          rw [List.count_eq_zero]
          intro hmem
          rw [List.mem_iff_getElem] at hmem
          obtain ⟨j, hj, e⟩ := hmem
          simp at hj e
          have hj1 : j < m := by omega
          have hj2 : j < listed.size := by omega
          have := hall2 j hj1
          simp [hj2] at this
          rw [this] at e; cases e
        have h5 : (listed.toList.drop m).count false ≤ ops.length - m := by
          have := List.count_le_length (a := false) (l := listed.toList.drop m)
          simp [hz] at this; exact this
        rw [← h3, List.count_append] at hcnt
        omega
      obtain ⟨i, ⟨him, hiu⟩, hmin⟩ := exists_least0 hex
      have hif : i ∈ fs := by
        cases e : fs.contains i with
        | true => simpa using e
        | false => have := hall i him e; rw [hiu] at this; cases this
      obtain ⟨o, v, ho, hv, hQ, hy⟩ := hlate i hif
      have hdep : ∀ e ∈ o.after, Region.binds .any e = true → listed.getD e.on false = true := fun e he hbd => by
        have hlt := edgesBack_spec hb (i := i) (o := o) (by simpa using ho) e he hbd
        have h1 : listed.getD e.on true = true := by
          cases ee : listed.getD e.on true with
          | true => rfl
          | false => have := hmin e.on ⟨by omega, ee⟩; omega
        have h2 : e.on < listed.size := by omega
        simpa [h2] using h1
      have hval : ∀ j, depb o j = true → ∀ u, spAt sp j = .inl u → f j = u := fun j hj u hu => by
        obtain ⟨e, he, hb'⟩ := List.any_eq_true.1 hj
        simp only [Bool.and_eq_true] at hb'
        have heon := Nat.eq_of_beq_eq_true hb'.2
        have hj' := hdep e (by simpa using he) hb'.1
        have hlt := edgesBack_spec hb (i := i) (o := o) (by simpa using ho) e (by simpa using he) hb'.1
        rw [heon] at hj' hlt
        have := hR j (by omega) hj'
        rw [hu] at this
        exact this
      obtain ⟨hw1, hw2⟩ := hy f hval
      cases fuel with
      | zero => omega
      | succ fuel =>
        refine wpAny_first (i := i) (oi := o) (v := v) (by simpa using ho) (Region.noSelect_spec hns) (hQ v) fuel listed _ w ?_ ?_ ?_ ?_
        · intro j oj hoj hji hju hno
          have hjl : j < ops.length := by have := (Array.getElem?_eq_some_iff.1 hoj).1; simpa using this
          have h1 := List.all_eq_true.1 hf i hif
          simp only [Bool.and_eq_true, ho] at h1
          have h2 := List.all_eq_true.1 h1.2 j (List.mem_range.2 hjl)
          have hoj' : ops[j]? = some oj := by simpa using hoj
          simp only [hoj', Bool.or_eq_true, Bool.and_eq_true, Bool.not_eq_true'] at h2
          rcases h2 with (h2 | h2) | h2 | h2
          · exact absurd (Nat.eq_of_beq_eq_true h2) hji
          · have := hall j (by have := h2.1; rw [Nat.blt_eq] at this; exact this) h2.2
            rw [this] at hju; cases hju
          · obtain ⟨e, he, hb'⟩ := List.any_eq_true.1 h2
            simp only [Bool.and_eq_true] at hb'
            exact absurd (Nat.eq_of_beq_eq_true hb'.2) (hno e (by simpa using he) hb'.1)
          · exact h2
        · exact mem_ready.2 ⟨hiu, o, by simpa using ho, hdep⟩
        · rw [putAll_fr]
          exact Or.inl ⟨by rw [fr_wanted]; exact hw1, fun w => by rw [fr_eval]; exact hw2 w⟩
        · have hot : (ops.take m)[i]? = some o := by rw [List.getElem?_take_of_lt him]; exact ho
          have hp := putAll_put v (ops.take m) 0 f (fr n l) hd i o hot
          rw [Nat.zero_add] at hp
          rw [hp]
          have h1 : listed.toList[i]? = some false := by
            have h' : i < listed.size := by omega
            simp [h'] at hiu; simp [h', hiu]
          have hcs := count_set _ _ h1
          refine ih fuel _ (upd f i v) w ?_ (by omega) (by simpa using hz) (hsh.step ho hdep) (fun j h1 h2 => ?_) (fun j h1 h2 => ?_) hW (hDs.other (by rw [hv]; rfl) (Nat.le_refl _)) (fun j hj hlj => ?_)
          · simp only [Array.toList_setIfInBounds]; omega
          · rw [getD_set_ne true (by omega)]; exact hun j h1 h2
          · have hij : i ≠ j := by intro e; subst e; have : fs.contains i = true := by simpa using hif
                                   rw [this] at h2; cases h2
            rw [getD_set_ne true hij]; exact hall j h1 h2
          · by_cases e : j = i
            · subst e; rw [hv]; simp [upd, spDen]
            · rw [getD_set_ne false (Ne.symm e)] at hlj
              have := hR j hj hlj
              simpa [upd, e] using this
  have main : ∀ (fuel : Nat) (listed : Array Bool) (f : Nat → Value) (w : World), listed.toList.count false ≤ fuel → listed.size = ops.length → Shut ops listed → (∀ j, m ≤ j → j < ops.length → listed.getD j true = false) →
      Mw W w → Ds sp f w → (∀ i, i < m → listed.getD i false = true → spDen W.heap.size (spAt sp i) (f i) w) → wpAny P .any ops.toArray Q fuel listed (putAll f 0 (ops.take m) (fr n l)) w := by
    intro fuel
    induction fuel with
    | zero =>
      intro listed f w hcnt hz hsh hun hW hDs hR
      refine wpAny_chain hfs hc hb (ops.length - m) m 0 listed _ w (by omega) (Nat.le_refl _) ?_ hz hsh ?_ ?_
      · rcases Nat.lt_or_ge m ops.length with h | h
        · exfalso
          have h1 := hun m (Nat.le_refl _) h
          have h2 : m < listed.size := by omega
          have : false ∈ listed.toList := by simp [h2] at h1; rw [← h1]; simp
          have := List.count_pos_iff.2 this
          omega
        · omega
      · intro j hj
        have h2 : j < listed.size := by omega
        have h3 : listed.getD j true = true := by
          cases e : listed.getD j true with
          | true => rfl
          | false =>
            have : false ∈ listed.toList := by simp [h2] at e; rw [← e]; simp
            have := List.count_pos_iff.2 this
            omega
        rcases Nat.lt_or_ge j m with h | h
        · rw [h3]; simp [h]
        · rw [hun j h hj] at h3; cases h3
      · rw [putAll_fr]
        refine hend f w hW (fun i hi => hR i (by rw [Nat.blt_eq] at hi; exact hi) ?_) hDs
        have hi' : i < m := by rw [Nat.blt_eq] at hi; exact hi
        have h2 : i < listed.size := by omega
        cases e : listed.getD i false with
        | true => rfl
        | false =>
          have : false ∈ listed.toList := by simp [h2] at e; rw [← e]; simp
          have := List.count_pos_iff.2 this
          omega
    | succ fuel ih =>
      intro listed f w hcnt hz hsh hun hW hDs hR
      by_cases hall : ∀ j, j < m → fs.contains j = false → listed.getD j true = true
      · have hge : ops.length - m ≤ listed.toList.count false := by
          have h1 : (listed.toList.drop m).count false = ops.length - m := by
            have h2 : listed.toList.drop m = List.replicate (ops.length - m) false := by
              apply List.ext_getElem
              · simp [hz]
              · intro j h3 h4
                simp at h3
                have := hun (m + j) (by omega) (by omega)
                have h5 : m + j < listed.size := by omega
                simpa [h5] using this
            rw [h2]; simp
          have h3 := List.take_append_drop m listed.toList
          rw [← h3, List.count_append]
          omega
        exact second (listed.toList.count false - (ops.length - m)) _ listed f w (by omega) (by omega) hz hsh hun hall hW hDs hR
      · obtain ⟨u, hum, huf, hu⟩ : ∃ u, u < m ∧ fs.contains u = false ∧ listed.getD u true = false := by
          rcases Classical.not_forall.1 hall with ⟨u, h⟩
          rcases Classical.not_imp.1 h with ⟨h1, h2⟩
          rcases Classical.not_imp.1 h2 with ⟨h3, h4⟩
          exact ⟨u, h1, h3, by cases e : listed.getD u true with | true => exact absurd e h4 | false => rfl⟩
        have hne : Region.ready .any ops.toArray listed ≠ [] := fun hr => by
          have := all_listed hb hr u (by simp; omega)
          rw [hu] at this; cases this
        refine ⟨fun h0 => absurd h0 hne, fun i hi => ?_⟩
        obtain ⟨h0, o, ho, hdep⟩ := mem_ready.1 hi
        have hoi : ops[i]? = some o := by simpa using ho
        have hilt : i < ops.length := (List.getElem?_eq_some_iff.1 hoi).1
        have him : i < m := by
          rcases Nat.lt_or_ge i m with h | h
          · exact h
          · exfalso
            have h1 := chainB_spec hc hsh hoi h hdep u (by omega) huf
            have h2 : u < listed.size := by omega
            simp [h2] at h1 hu
            rw [h1] at hu; cases hu
        have hot : (ops.take m)[i]? = some o := by rw [List.getElem?_take_of_lt him]; exact hoi
        have hstep := Each.spec (ops.take m) 0 hs i o hot
        rw [Nat.zero_add] at hstep
        have hcount : ((listed.setIfInBounds i true).toList.count false) ≤ fuel := by
          have h1 : listed.toList[i]? = some false := by
            have h' : i < listed.size := by omega
            simp [h'] at h0; simp [h', h0]
          have := count_set _ _ h1
          simp only [Array.toList_setIfInBounds]
          omega
        have hun' : ∀ j, m ≤ j → j < ops.length → (listed.setIfInBounds i true).getD j true = false := fun j h1 h2 => by
          rw [getD_set_ne true (by omega)]; exact hun j h1 h2
        have next : ∀ v w', Mw w w' → Ds sp (upd f i v) w' → spDen W.heap.size (spAt sp i) v w' → wpAny P .any ops.toArray Q fuel (listed.setIfInBounds i true) (putAll (upd f i v) 0 (ops.take m) (fr n l)) w' := fun v w' hmo hds hden => by
          refine ih _ _ w' hcount (by simpa using hz) (hsh.step hoi hdep) hun' (hW.trans hmo) hds (fun j hj hlj => ?_)
          by_cases e : j = i
          · subst e; simpa [upd] using hden
          · rw [getD_set_ne false (Ne.symm e)] at hlj
            have := spMo hmo (hR j hj hlj)
            simpa [upd, e] using this
        have put : ∀ v, fr n (ext (asg f 0 (ops.take m) l) o.dst v) = putAll (upd f i v) 0 (ops.take m) (fr n l) := fun v => by
          have := putAll_put v (ops.take m) 0 f (fr n l) hd i o hot
          rw [Nat.zero_add] at this
          rw [← this, putAll_fr, fr_put]
        refine wpOp_step ho (fun K hK => ?_)
        rw [putAll_fr, fr_wanted]
        have hh := hstep f w hW (fun j hj => by
          obtain ⟨e, he, hb'⟩ := List.any_eq_true.1 hj
          simp only [Bool.and_eq_true] at hb'
          have heon := Nat.eq_of_beq_eq_true hb'.2
          have hj' := hdep e (by simpa using he) hb'.1
          have hlt := edgesBack_spec hb ho e (by simpa using he) hb'.1
          rw [heon] at hj' hlt
          exact hR j (by omega) hj') K
        have hh2 : (bif wnt n (asg f 0 (ops.take m) l) ops.toArray o then o.wp P (fr n (asg f 0 (ops.take m) l)) w K Q else K (fr n (ext (asg f 0 (ops.take m) l) o.dst undef)) w) := by
          refine hh ?_
          cases hsp : spAt sp i with
          | inl v =>
            intro w' hmo
            rw [put]
            exact hK _ _ (next v w' hmo (hDs.other (by rw [hsp]; rfl) hmo.size) (by rw [hsp]; rfl))
          | inr zs =>
            intro k w' hk hz' hmo hat
            rw [put]
            exact hK _ _ (next (pt k 0) w' hmo (hDs.fresh hk hz') (by rw [hsp]; exact ⟨k, rfl, by have := hW.size; omega, hat⟩))
        rw [fr_put]
        cases hw : wnt n (asg f 0 (ops.take m) l) ops.toArray o <;> simp only [hw, cond_true, cond_false] at hh2 ⊢ <;> exact hh2
  have h0 : putAll (slots (fr n l) (ops.take m).toArray) 0 (ops.take m) (fr n l) = fr n l := putAll_self _ _ 0 _ (fun i o ho t ht => by simp only [Nat.zero_add, slots]; rw [show (ops.take m).toArray[i]? = some o by simpa using ho]; simp [ht])
  have := main ops.length (Array.replicate ops.length false) (slots (fr n l) (ops.take m).toArray) W.drew (by simp) (by simp) (Shut.start _ _) (fun j _ hj => by simp [hj]) (Mw.refl _).drew ⟨fun j hj k hk => hD.1 j hj k hk, hD.2⟩ (fun i _ hi => by
    exfalso
    rcases Nat.lt_or_ge i ops.length with h' | h' <;> simp [h'] at hi)
  rw [h0] at this
  simpa using this
/-- What each slot holds behind the first part. -/
def spv (sp : List Sp) (kf : Nat → Nat) (i : Nat) : Value :=
  match spAt sp i with
  | .inl v => v
  | .inr _ => pt (kf i) 0
theorem asg_congr {f g : Nat → Value} : ∀ (r : List Oper) (i : Nat) (l : List (Nat × Value)), (∀ j, i ≤ j → j < i + r.length → f j = g j) → asg f i r l = asg g i r l
  | [], _, _, _ => rfl
  | o :: r, i, l, h => by
    unfold asg
    rw [h i (Nat.le_refl _) (by simp)]
    exact asg_congr r (i + 1) _ (fun j h1 h2 => h j (by omega) (by simp; omega))
theorem r_any {id : Nat} {W : World} (m : Nat) (sp : List Sp) (fs : List Nat) (hm : P.follows .mixedOrders = true)
    (hb : edgesBack .any ops.toArray = true) (hd : dstsApart (ops.take m) = true) (hc : chainB ops m fs = true) (hl : Nat.ble m ops.length = true) (hf : floatB ops m fs = true) (hns : Region.noSelect ops.toArray = true)
    (hlate : ∀ i, i ∈ fs → LateO P ops Q n l m sp i)
    (hD : Ds sp (slots (fr n l) (ops.take m).toArray) W)
    (hs : Each (OgE P ops Q n l m W sp) 0 (ops.take m))
    (hend : ∀ kf w, Mw W w → (∀ i zs, Nat.blt i m = true → spAt sp i = .inr zs → W.heap.size ≤ kf i ∧ At w (kf i) zs) → (∀ i j, Nat.blt i m = true → Nat.blt j m = true → spNew (spAt sp i) = true → spNew (spAt sp j) = true → i ≠ j → kf i ≠ kf j) →
      wpList P ops.toArray Q (ops.drop m) (fr n (asg (spv sp kf) 0 (ops.take m) l)) w) :
    (Code.region id ops.toArray true).wp P Q (fr n l) W := by
  refine r_draw m sp fs hm hb hd hc hl hf hns hlate hD hs (fun f w hmo hR hDs => ?_)
  have hk : ∃ kf : Nat → Nat, ∀ i zs, i < m → spAt sp i = .inr zs → f i = pt (kf i) 0 ∧ W.heap.size ≤ kf i ∧ At w (kf i) zs := by
    refine ⟨fun i => Classical.epsilon (fun k => f i = pt k 0), fun i zs hi hsp => ?_⟩
    have h1 := hR i (by rw [Nat.blt_eq]; exact hi)
    rw [hsp] at h1
    obtain ⟨k, e, h2, h3⟩ := h1
    have hex : ∃ k, f i = pt k 0 := ⟨k, e⟩
    have hc := Classical.epsilon_spec hex
    have : Classical.epsilon (fun k => f i = pt k 0) = k := pt_inj (hc.symm.trans e)
    simp only [this]
    exact ⟨e, h2, h3⟩
  obtain ⟨kf, hkf⟩ := hk
  have e : asg f 0 (ops.take m) l = asg (spv sp kf) 0 (ops.take m) l := asg_congr _ 0 l (fun j _ hj => by
    have hjm : j < m := by have := List.length_take_le m ops; omega
    unfold spv
    cases hsp : spAt sp j with
    | inl v =>
      have := hR j (by rw [Nat.blt_eq]; exact hjm)
      rw [hsp] at this
      exact this
    | inr zs => exact (hkf j zs hjm hsp).1)
  rw [e]
  refine hend kf w hmo (fun i zs hi hsp => (hkf i zs (by rw [Nat.blt_eq] at hi; exact hi) hsp).2) (fun i j hi hj hin hjn hne heq => ?_)
  have gi : ∃ zs, spAt sp i = .inr zs := by cases h : spAt sp i with | inl v => rw [h] at hin; cases hin | inr zs => exact ⟨zs, rfl⟩
  have gj : ∃ zs, spAt sp j = .inr zs := by cases h : spAt sp j with | inl v => rw [h] at hjn; cases hjn | inr zs => exact ⟨zs, rfl⟩
  obtain ⟨zi, gi⟩ := gi
  obtain ⟨zj, gj⟩ := gj
  have hi' : i < m := by rw [Nat.blt_eq] at hi; exact hi
  have hj' : j < m := by rw [Nat.blt_eq] at hj; exact hj
  have h1 := (hkf i zi hi' gi).1
  have h2 := (hkf j zj hj' gj).1
  rw [← heq] at h2
  exact hDs.2 i j hin hjn hne _ h1 h2
theorem Ds.none {sp : List Sp} {f : Nat → Value} {w : World} (h : sp.all (fun s => !spNew s) = true) : Ds sp f w := by
  have hh : ∀ j, spNew (spAt sp j) = true → False := fun j hj => by
    unfold spAt at hj
    cases e : sp[j]? with
    | none => rw [e] at hj; cases hj
    | some s =>
      rw [e] at hj
      have := List.all_eq_true.1 h s (List.mem_of_getElem? e)
      simp at this
      simp [this] at hj
  exact ⟨fun j hj => (hh j hj).elim, fun i j hi => (hh i hi).elim⟩
theorem Ds.undef {sp : List Sp} {f : Nat → Value} {w : World} (h : ∀ j, j < sp.length → spNew (spAt sp j) = true → f j = undef) : Ds sp f w := by
  have hh : ∀ j, spNew (spAt sp j) = true → ∀ k, f j ≠ pt k 0 := fun j hj k e => by
    rcases Nat.lt_or_ge j sp.length with hl | hl
    · rw [h j hl hj] at e; cases e
    · unfold spAt at hj; rw [List.getElem?_eq_none hl] at hj; cases hj
  exact ⟨fun j hj k hk => (hh j hj k hk).elim, fun i j hi _ _ k hk => (hh i hi k hk).elim⟩
theorem ct {b : Bool} {A B : Prop} (h : b = true) (a : A) : (bif b then A else B) := by subst h; exact a
theorem cf {b : Bool} {A B : Prop} (h : b = false) (a : B) : (bif b then A else B) := by subst h; exact a
theorem wnt_g {ops : Array Oper} {o : Oper} {j d : Nat} {want b r : Bool} (hg : o.guard = some (j, want)) (hd : (ops[j]?).bind (·.dst) = some d) (hn : Nat.blt d n = true) (hv : look l d = .bool b) (hr : (b == want) = r) : wnt n l ops o = r := by
  unfold wnt
  simp only [hg, hd, hn, cond_true, hv]
  subst hr
  cases b <;> cases want <;> rfl
theorem n_then {Q : Exit → Act → World → Prop} {next : Act → World → Prop} {a : Act} {w : World} (h : next a w) : Exit.then next Q .normal a w := h
theorem n_blk {Q : Exit → Act → World → Prop} {id : Nat} {a : Act} {w : World} (h : Q .normal a w) : Exit.inBlock id Q .normal a w := h
theorem x_then {Q : Exit → Act → World → Prop} {next : Act → World → Prop} {id : Nat} {a : Act} {w : World} (h : Q (.exit id) a w) : Exit.then next Q (.exit id) a w := h
theorem x_blk {Q : Exit → Act → World → Prop} {id : Nat} {a : Act} {w : World} (h : Q .normal a w) : Exit.inBlock id Q (.exit id) a w := by simp only [Exit.inBlock, if_true]; exact h
theorem x_out {Q : Exit → Act → World → Prop} {id i : Nat} {a : Act} {w : World} (hne : Nat.beq i id = false) (h : Q (.exit i) a w) : Exit.inBlock id Q (.exit i) a w := by
  simp only [Exit.inBlock]
  rw [if_neg (fun e => by subst e; simp at hne)]
  exact h
theorem r_then {Q : Exit → Act → World → Prop} {next : Act → World → Prop} {a : Act} {w : World} (h : Q .ret a w) : Exit.then next Q .ret a w := h
theorem r_blk {Q : Exit → Act → World → Prop} {id : Nat} {a : Act} {w : World} (h : Q .ret a w) : Exit.inBlock id Q .ret a w := h
variable {o : Oper} {w : World} {K : Act → World → Prop}
theorem o_mv (x : Operand) (p : Value) (ho : ∀ ρ, execOp ρ o = pure (.value (ρ x))) (hx : evl n l x = p) (hk : K (fr n (ext l o.dst p)) w) : o.wp P (fr n l) w K Q := by
  refine o_val p ?_ hk
  rw [ho, hx]; rfl
theorem o_un (F : Value → Sem Value) (x : Operand) (p v : Value) (ho : ∀ ρ, execOp ρ o = (do pure (.value (← F (ρ x))))) (hx : evl n l x = p) (h : (F p).run P w = .ok v w) (hk : K (fr n (ext l o.dst v)) w) : o.wp P (fr n l) w K Q := by
  refine o_val v ?_ hk
  rw [ho, hx]; simp [h]
theorem o_bin (F : Value → Value → Sem Value) (x y : Operand) (p q v : Value) (ho : ∀ ρ, execOp ρ o = (do pure (.value (← F (ρ x) (ρ y))))) (hx : evl n l x = p) (hy : evl n l y = q) (h : (F p q).run P w = .ok v w) (hk : K (fr n (ext l o.dst v)) w) : o.wp P (fr n l) w K Q := by
  refine o_val v ?_ hk
  rw [ho, hx, hy]; simp [h]
theorem o_build (t : TypeId) (xs : List (Nat × Operand)) (ps : List (Nat × Value)) (v : Value) (ho : o.op = .build t xs.toArray) (hx : xs.map (fun p => (p.1, evl n l p.2)) = ps) (h : (Instr.build t ps.toArray).run P w = .ok v w) (hk : K (fr n (ext l o.dst v)) w) : o.wp P (fr n l) w K Q := by
  refine o_val v ?_ hk
  subst hx
  simp only [execOp, ho, List.map_toArray]
  simp [h]
theorem o_pick (c x y : Operand) (t : Bool) (v : Value) (ho : ∀ ρ, execOp ρ o = (do pure (.value (if ← asBool (ρ c) then ρ x else ρ y)))) (hc : evl n l c = .bool t) (hv : evl n l (bif t then x else y) = v) (hk : K (fr n (ext l o.dst v)) w) : o.wp P (fr n l) w K Q := by
  refine o_val v ?_ hk
  rw [ho, hc]
  cases t <;> simp at hv <;> simp [asBool, hv]
theorem o_var (x : Operand) (v : Value) {w' : World} (F : Value → Sem Value) (p : Value) (ho : ∀ ρ, execOp ρ o = (do pure (.value (← F (ρ x))))) (hx : evl n l x = p) (h : (F p).run P w = .ok v w') (hk : K (fr n (ext l o.dst v)) w') : o.wp P (fr n l) w K Q := by
  refine o_val v ?_ hk
  rw [ho, hx]; simp [h]
theorem lp1 {i : Nat} {a b : Value} (h : a = b) : [(i, a)] = [(i, b)] := by rw [h]
theorem lp2 {i j : Nat} {a b c d : Value} (h : a = b) (k : c = d) : [(i, a), (j, c)] = [(i, b), (j, d)] := by rw [h, k]
theorem lp3 {i j q : Nat} {a b c d e f : Value} (h : a = b) (k : c = d) (m : e = f) : [(i, a), (j, c), (q, e)] = [(i, b), (j, d), (q, f)] := by rw [h, k, m]
end
end Go.Proofs.YtdcojpbgijkmgaaDoor.V
/-
  The laws of the steps over propositions that nothing unfolds by itself.
-/
namespace Go.Proofs.YtdcojpbgijkmgaaDoor.V
open Go.RowKit
/-- The least number with a property. -/
theorem exists_least {p : Nat → Prop} (h : ∃ m, p m) : ∃ m, p m ∧ ∀ k, p k → m ≤ k := by
  obtain ⟨m, hm⟩ := h
  induction m using Nat.strongRecOn with
  | ind m ih =>
    by_cases hh : ∃ k, k < m ∧ p k
    · obtain ⟨k, hk, hp⟩ := hh; exact ih k hk hp
    · exact ⟨m, hm, fun k hp => Nat.le_of_not_lt (fun hk => hh ⟨k, hk, hp⟩)⟩
def least (p : Nat → Prop) (m : Nat) : Prop := p m ∧ ∀ k, p k → m ≤ k
theorem least_ok {p : Nat → Prop} (h : ∃ m, p m) : least p (Classical.epsilon (least p)) := Classical.epsilon_spec (exists_least h)
structure WC (P : Program) (c : Code) (Q : Exit → Act → World → Prop) (n : Nat) (l : List (Nat × Value)) (w : World) : Prop where
  out : c.wp P Q (fr n l) w
structure WL (P : Program) (ops : Array Oper) (Q : Exit → Act → World → Prop) (r : List Oper) (n : Nat) (l : List (Nat × Value)) (w : World) : Prop where
  out : wpList P ops Q r (fr n l) w
structure WX (Q : Exit → Act → World → Prop) (e : Exit) (n : Nat) (l : List (Nat × Value)) (w : World) : Prop where
  out : Q e (fr n l) w
structure WO (P : Program) (o : Oper) (n : Nat) (l : List (Nat × Value)) (w : World) (K : Act → World → Prop) (Q : Exit → Act → World → Prop) : Prop where
  out : o.wp P (fr n l) w K Q
section
variable {P : Program} {o : Oper} {n : Nat} {l : List (Nat × Value)} {w : World} {ops : Array Oper} {rest : List Oper} {Q : Exit → Act → World → Prop} {K : Act → World → Prop}
theorem w_enter {f : FuncId} {fn : Func} {c : Code} {args : Array Value} {R : Ending → World → Prop} (n : Nat) (hf : P.funcs[f]? = some fn) (hn : fn.ntmps = n) (hb : fn.body = some c)
    (ha : Nat.ble args.size n = true) (h : WC P c (bodyPost P fn R) n (argl 0 args.toList) w) : Calls P f args w R := f_enter n hf hn hb ha h.out
theorem w_seq {x y : Code} (h : WC P x (Exit.then (y.wp P Q) Q) n l w) : WC P (Code.seq x y) Q n l w := ⟨wp_seq h.out⟩
theorem w_block {id : Nat} {c : Code} (h : WC P c (Exit.inBlock id Q) n l w) : WC P (Code.block id c) Q n l w := ⟨wp_block h.out⟩
theorem w_skip (h : WX Q .normal n l w) : WC P .skip Q n l w := ⟨wp_skip h.out⟩
theorem w_label {i : Nat} (h : WX Q .normal n l w) : WC P (.label i) Q n l w := ⟨wp_label h.out⟩
theorem w_ret (h : WX Q .ret n l w) : WC P .ret Q n l w := ⟨wp_ret h.out⟩
theorem w_exit {id : Nat} (h : WX Q (.exit id) n l w) : WC P (.exit id) Q n l w := ⟨wp_exit h.out⟩
theorem w_condT {c : Operand} {x y : Code} (hc : evl n l c = .bool true) (h : WC P x Q n l w) : WC P (Code.cond c x y) Q n l w := ⟨c_cond true hc h.out⟩
theorem w_condF {c : Operand} {x y : Code} (hc : evl n l c = .bool false) (h : WC P y Q n l w) : WC P (Code.cond c x y) Q n l w := ⟨c_cond false hc h.out⟩
theorem w_reg {id : Nat} {ol : List Oper} (h : WL P ol.toArray Q ol n l w) : WC P (Code.region id ol.toArray false) Q n l w := ⟨wp_region_lit h.out⟩
theorem w_nil (h : WX Q .normal n l w) : WL P ops Q [] n l w := ⟨wpList_nil h.out⟩
theorem xn_then {y : Code} {Q' : Exit → Act → World → Prop} (h : WC P y Q n l w) : WX (Exit.then (y.wp P Q) Q') .normal n l w := ⟨n_then h.out⟩
theorem xn_blk {id : Nat} (h : WX Q .normal n l w) : WX (Exit.inBlock id Q) .normal n l w := ⟨n_blk h.out⟩
theorem xx_then {next : Act → World → Prop} {id : Nat} (h : WX Q (.exit id) n l w) : WX (Exit.then next Q) (.exit id) n l w := ⟨x_then h.out⟩
theorem xx_blk {id : Nat} (h : WX Q .normal n l w) : WX (Exit.inBlock id Q) (.exit id) n l w := ⟨x_blk h.out⟩
theorem xx_out {id i : Nat} (hne : Nat.beq i id = false) (h : WX Q (.exit i) n l w) : WX (Exit.inBlock id Q) (.exit i) n l w := ⟨x_out hne h.out⟩
theorem xr_then {next : Act → World → Prop} (h : WX Q .ret n l w) : WX (Exit.then next Q) .ret n l w := ⟨r_then h.out⟩
theorem xr_blk {id : Nat} (h : WX Q .ret n l w) : WX (Exit.inBlock id Q) .ret n l w := ⟨r_blk h.out⟩
theorem w_ret1 {fn : Func} {R : Ending → World → Prop} (x : ResultVar) (v : Value) (hf : fn.results = #[x]) (h : resv n l P w v x) (hR : R (.returned v) w) : WX (bodyPost P fn R) .ret n l w := ⟨c_ret1 x v hf h hR⟩
theorem w_ret2 {fn : Func} {R : Ending → World → Prop} (x y : ResultVar) (v u : Value) (hf : fn.results = #[x, y]) (h : resv n l P w v x) (g : resv n l P w u y) (hR : R (.returned (.tuple #[v, u])) w) : WX (bodyPost P fn R) .ret n l w := ⟨c_ret2 x y v u hf h g hR⟩
/-- A loop: what holds ahead of each round, of the frame's list and the world, with a number that falls. -/
theorem w_loop {c : Code} (I : Nat → List (Nat × Value) → World → Prop) (m : Nat) (h0 : I m l w)
    (round : ∀ m l w, I m l w → WC P c (Exit.then (fun a w' => ∃ m' l', m' < m ∧ a = fr n l' ∧ I m' l' w') Q) n l w) : WC P (Code.loop c) Q n l w := by
  refine ⟨?_⟩
  have key : ∀ m : Nat, ∀ l w, I m l w → (Code.loop c).wp P Q (fr n l) w := by
    intro m0 l0 w0 hI0
    refine wp_loop (fun a w => ∃ m l, a = fr n l ∧ I m l w) (fun a w => Classical.epsilon (least (fun m => ∃ l, a = fr n l ∧ I m l w))) ⟨m0, l0, rfl, hI0⟩ ?_
    rintro a w ⟨m, l, rfl, hI⟩
    obtain ⟨l2, e2, hI2⟩ := (least_ok (p := fun m => ∃ l', fr n l = fr n l' ∧ I m l' w) ⟨m, l, rfl, hI⟩).1
    rw [e2]
    refine Code.wp_mono ?_ (round _ l2 w hI2).out
    intro e a' w' hq
    cases e with
    | normal =>
      obtain ⟨m', l', hlt, rfl, hI'⟩ := hq
      refine ⟨⟨m', l', rfl, hI'⟩, Nat.lt_of_le_of_lt ((least_ok (p := fun m => ∃ l'', fr n l' = fr n l'' ∧ I m l'' w') ⟨m', l', rfl, hI'⟩).2 m' ⟨l', rfl, hI'⟩) ?_⟩
      rw [← e2]; exact hlt
    | _ => exact hq
  exact key m l w h0
theorem xn_loop {I : Nat → List (Nat × Value) → World → Prop} {m : Nat} (m' : Nat) (hlt : m' < m) (h : I m' l w) : WX (Exit.then (fun a w' => ∃ m' l', m' < m ∧ a = fr n l' ∧ I m' l' w') Q) .normal n l w := ⟨⟨m', l, hlt, rfl, h⟩⟩
theorem wl_val (v : Value) (h : (execOp (evl n l) o).run P w = .ok (.value v) w) (hg : wnt n l ops o = true) (hk : WL P ops Q rest n (ext l o.dst v) w) : WL P ops Q (o :: rest) n l w :=
  ⟨l_step hg (o_val v h hk.out)⟩
theorem wo_val (v : Value) (h : (execOp (evl n l) o).run P w = .ok (.value v) w) (hk : K (fr n (ext l o.dst v)) w) : WO P o n l w K Q := ⟨o_val v h hk⟩
theorem wl_mv (x : Operand) (p : Value) (ho : ∀ ρ, execOp ρ o = pure (.value (ρ x))) (hx : evl n l x = p) (hg : wnt n l ops o = true) (hk : WL P ops Q rest n (ext l o.dst p) w) : WL P ops Q (o :: rest) n l w :=
  ⟨l_step hg (o_mv x p ho hx hk.out)⟩
theorem wo_mv (x : Operand) (p : Value) (ho : ∀ ρ, execOp ρ o = pure (.value (ρ x))) (hx : evl n l x = p) (hk : K (fr n (ext l o.dst p)) w) : WO P o n l w K Q := ⟨o_mv x p ho hx hk⟩
theorem wl_un (F : Value → Sem Value) (x : Operand) (p v : Value) (ho : ∀ ρ, execOp ρ o = (do pure (.value (← F (ρ x))))) (hx : evl n l x = p) (h : (F p).run P w = .ok v w) (hg : wnt n l ops o = true) (hk : WL P ops Q rest n (ext l o.dst v) w) : WL P ops Q (o :: rest) n l w :=
  ⟨l_step hg (o_un F x p v ho hx h hk.out)⟩
theorem wo_un (F : Value → Sem Value) (x : Operand) (p v : Value) (ho : ∀ ρ, execOp ρ o = (do pure (.value (← F (ρ x))))) (hx : evl n l x = p) (h : (F p).run P w = .ok v w) (hk : K (fr n (ext l o.dst v)) w) : WO P o n l w K Q := ⟨o_un F x p v ho hx h hk⟩
theorem wl_bin (F : Value → Value → Sem Value) (x y : Operand) (p q v : Value) (ho : ∀ ρ, execOp ρ o = (do pure (.value (← F (ρ x) (ρ y))))) (hx : evl n l x = p) (hy : evl n l y = q) (h : (F p q).run P w = .ok v w) (hg : wnt n l ops o = true) (hk : WL P ops Q rest n (ext l o.dst v) w) : WL P ops Q (o :: rest) n l w :=
  ⟨l_step hg (o_bin F x y p q v ho hx hy h hk.out)⟩
theorem wo_bin (F : Value → Value → Sem Value) (x y : Operand) (p q v : Value) (ho : ∀ ρ, execOp ρ o = (do pure (.value (← F (ρ x) (ρ y))))) (hx : evl n l x = p) (hy : evl n l y = q) (h : (F p q).run P w = .ok v w) (hk : K (fr n (ext l o.dst v)) w) : WO P o n l w K Q := ⟨o_bin F x y p q v ho hx hy h hk⟩
theorem wl_pick (c x y : Operand) (t : Bool) (v : Value) (ho : ∀ ρ, execOp ρ o = (do pure (.value (if ← asBool (ρ c) then ρ x else ρ y)))) (hc : evl n l c = .bool t) (hv : evl n l (bif t then x else y) = v) (hg : wnt n l ops o = true) (hk : WL P ops Q rest n (ext l o.dst v) w) : WL P ops Q (o :: rest) n l w :=
  ⟨l_step hg (o_pick c x y t v ho hc hv hk.out)⟩
theorem wo_pick (c x y : Operand) (t : Bool) (v : Value) (ho : ∀ ρ, execOp ρ o = (do pure (.value (if ← asBool (ρ c) then ρ x else ρ y)))) (hc : evl n l c = .bool t) (hv : evl n l (bif t then x else y) = v) (hk : K (fr n (ext l o.dst v)) w) : WO P o n l w K Q := ⟨o_pick c x y t v ho hc hv hk⟩
theorem wl_build (t : TypeId) (xs : List (Nat × Operand)) (ps : List (Nat × Value)) (v : Value) (ho : o.op = .build t xs.toArray) (hx : xs.map (fun p => (p.1, evl n l p.2)) = ps) (h : (Instr.build t ps.toArray).run P w = .ok v w) (hg : wnt n l ops o = true) (hk : WL P ops Q rest n (ext l o.dst v) w) : WL P ops Q (o :: rest) n l w :=
  ⟨l_step hg (o_build t xs ps v ho hx h hk.out)⟩
theorem wo_build (t : TypeId) (xs : List (Nat × Operand)) (ps : List (Nat × Value)) (v : Value) (ho : o.op = .build t xs.toArray) (hx : xs.map (fun p => (p.1, evl n l p.2)) = ps) (h : (Instr.build t ps.toArray).run P w = .ok v w) (hk : K (fr n (ext l o.dst v)) w) : WO P o n l w K Q := ⟨o_build t xs ps v ho hx h hk⟩
theorem wl_load (ty : TypeId) (x : Operand) (p v : Value) (ho : o.op = .load ty x) (hx : evl n l x = p) (h : (Instr.loadAt ty p).run P w = .ok v w) (hg : wnt n l ops o = true) (hk : WL P ops Q rest n (ext l o.dst v) w) : WL P ops Q (o :: rest) n l w :=
  ⟨l_step hg (o_load ty x p v ho hx h hk.out)⟩
theorem wo_load (ty : TypeId) (x : Operand) (p v : Value) (ho : o.op = .load ty x) (hx : evl n l x = p) (h : (Instr.loadAt ty p).run P w = .ok v w) (hk : K (fr n (ext l o.dst v)) w) : WO P o n l w K Q := ⟨o_load ty x p v ho hx h hk⟩
theorem wl_alloc (ty : TypeId) (zs : Array Value) (ho : o.op = .alloc ty) (h : ∀ w, (Instr.alloc ty true (.tuple #[])).run P w = .ok (pt w.heap.size 0) (w.alloc (.cells zs ty))) (hg : wnt n l ops o = true) (hk : ∀ k w', w.heap.size = k → w'.heap.size = k + 1 → Mw w w' → At w' k zs.toList → WL P ops Q rest n (ext l o.dst (pt k 0)) w') : WL P ops Q (o :: rest) n l w :=
  ⟨l_step hg (o_alloc ty zs ho h (fun k w' a b c d => (hk k w' a b c d).out))⟩
theorem wo_alloc (ty : TypeId) (zs : Array Value) (ho : o.op = .alloc ty) (h : ∀ w, (Instr.alloc ty true (.tuple #[])).run P w = .ok (pt w.heap.size 0) (w.alloc (.cells zs ty))) (hk : ∀ k w', w.heap.size = k → w'.heap.size = k + 1 → Mw w w' → At w' k zs.toList → K (fr n (ext l o.dst (pt k 0))) w') : WO P o n l w K Q := ⟨o_alloc ty zs ho h (fun k w' a b c d => (hk k w' a b c d))⟩
theorem wl_box (ty : TypeId) (x : Operand) (v : Value) (cs : Array Value) (ho : o.op = .box ty x) (hx : evl n l x = v) (h : ∀ w, (Instr.box ty v).run P w = .ok (pt w.heap.size 0) (w.alloc (.cells cs ty))) (hg : wnt n l ops o = true) (hk : ∀ k w', w.heap.size = k → w'.heap.size = k + 1 → Mw w w' → At w' k cs.toList → WL P ops Q rest n (ext l o.dst (pt k 0)) w') : WL P ops Q (o :: rest) n l w :=
  ⟨l_step hg (o_box ty x v cs ho hx h (fun k w' a b c d => (hk k w' a b c d).out))⟩
theorem wo_box (ty : TypeId) (x : Operand) (v : Value) (cs : Array Value) (ho : o.op = .box ty x) (hx : evl n l x = v) (h : ∀ w, (Instr.box ty v).run P w = .ok (pt w.heap.size 0) (w.alloc (.cells cs ty))) (hk : ∀ k w', w.heap.size = k → w'.heap.size = k + 1 → Mw w w' → At w' k cs.toList → K (fr n (ext l o.dst (pt k 0))) w') : WO P o n l w K Q := ⟨o_box ty x v cs ho hx h (fun k w' a b c d => (hk k w' a b c d))⟩
theorem wl_call (g : FuncId) (xs : List Operand) (ats : Array TypeId) (args : List Value) (v : Value) (ho : o.op = .call { callee := .value (.func g), args := xs.toArray, argTypes := ats }) (hx : xs.map (evl n l) = args) (h : ∀ args w, (callFunc g args).run P w = .ok (.enter g args) w) (hc : Calls P g args.toArray w fun e w' => e = .returned v ∧ Mw w w') (hg : wnt n l ops o = true) (hk : ∀ w', Mw w w' → WL P ops Q rest n (ext l o.dst v) w') : WL P ops Q (o :: rest) n l w :=
  ⟨l_step hg (o_call g xs ats args v ho hx h hc (fun w' m => (hk w' m).out))⟩
theorem wo_call (g : FuncId) (xs : List Operand) (ats : Array TypeId) (args : List Value) (v : Value) (ho : o.op = .call { callee := .value (.func g), args := xs.toArray, argTypes := ats }) (hx : xs.map (evl n l) = args) (h : ∀ args w, (callFunc g args).run P w = .ok (.enter g args) w) (hc : Calls P g args.toArray w fun e w' => e = .returned v ∧ Mw w w') (hk : ∀ w', Mw w w' → K (fr n (ext l o.dst v)) w') : WO P o n l w K Q := ⟨o_call g xs ats args v ho hx h hc (fun w' m => (hk w' m))⟩
theorem wl_skip (hg : wnt n l ops o = false) (h : WL P ops Q rest n (ext l o.dst undef) w) : WL P ops Q (o :: rest) n l w := ⟨l_skip hg h.out⟩
theorem wl_st (ty : TypeId) (x y : Operand) (k off : Nat) (us : Array Value) (vs vs' : List Value) (hA : At w k vs) (ho : o.op = .store ty x y) (hd : o.dst = none) (hx : evl n l x = pt k off) (hy : evl n l y = .agg us)
    (hl : Nat.ble (off + us.size) vs.length = true) (hi : (P.info? ty).map (·.size) = some us.size) (h1 : us.toList.all (·.oneCell') = true) (hvs : vs' = vs.take off ++ us.toList ++ vs.drop (off + us.toList.length)) (hg : wnt n l ops o = true)
    (hk : ∀ w', St k w w' → At w' k vs' → WL P ops Q rest n l w') : WL P ops Q (o :: rest) n l w :=
  ⟨l_step hg (o_st ty x y k off us vs vs' hA ho hd hx hy hl hi h1 hvs (fun w' a b => (hk w' a b).out))⟩
theorem wl_st1 (ty : TypeId) (x y : Operand) (k off : Nat) (v : Value) (vs vs' : List Value) (hA : At w k vs) (ho : o.op = .store ty x y) (hd : o.dst = none) (hx : evl n l x = pt k off) (hy : evl n l y = v)
    (hl : Nat.blt off vs.length = true) (hi : (P.info? ty).map (·.size) = some 1) (hv : v.cells = #[v]) (h1 : v.oneCell' = true) (hvs : vs' = vs.take off ++ [v] ++ vs.drop (off + 1)) (hg : wnt n l ops o = true)
    (hk : ∀ w', St k w w' → At w' k vs' → WL P ops Q rest n l w') : WL P ops Q (o :: rest) n l w :=
  ⟨l_step hg (o_st1 ty x y k off v vs vs' hA ho hd hx hy hl hi hv h1 hvs (fun w' a b => (hk w' a b).out))⟩
/-- Is it run, or passed by? -/
structure Go1 (P : Program) (ops : List Oper) (Q : Exit → Act → World → Prop) (n : Nat) (l : List (Nat × Value)) (w : World) (K : Act → World → Prop) (o : Oper) : Prop where
  out : (wnt n l ops.toArray o = true ∧ WO P o n l w K Q) ∨ (wnt n l ops.toArray o = false ∧ K (fr n (ext l o.dst undef)) w)
theorem go_run {ol : List Oper} (hg : wnt n l ol.toArray o = true) (h : WO P o n l w K Q) : Go1 P ol Q n l w K o := ⟨Or.inl ⟨hg, h⟩⟩
theorem go_pass {ol : List Oper} (hg : wnt n l ol.toArray o = false) (h : K (fr n (ext l o.dst undef)) w) : Go1 P ol Q n l w K o := ⟨Or.inr ⟨hg, h⟩⟩
structure OgW (P : Program) (ops : List Oper) (Q : Exit → Act → World → Prop) (n : Nat) (l : List (Nat × Value)) (m : Nat) (W : World) (sp : List Sp) (i : Nat) (o : Oper) : Prop where
  out : ∀ f w, Mw W w → (∀ j, depb o j = true → spDen W.heap.size (spAt sp j) (f j) w) → ∀ K : Act → World → Prop,
    (match spAt sp i with
      | .inl v => ∀ w', Mw w w' → K (fr n (ext (asg f 0 (ops.take m) l) o.dst v)) w'
      | .inr zs => ∀ k w', w.heap.size = k → w'.heap.size = k + 1 → Mw w w' → At w' k zs → K (fr n (ext (asg f 0 (ops.take m) l) o.dst (pt k 0))) w') →
    Go1 P ops Q n (asg f 0 (ops.take m) l) w K o
theorem og_eq {ol : List Oper} {m : Nat} {W : World} {sp : List Sp} {i : Nat} (v : Value) (hs : spAt sp i = .inl v)
    (h : ∀ f w, Mw W w → (∀ j, depb o j = true → spDen W.heap.size (spAt sp j) (f j) w) → ∀ K : Act → World → Prop, (∀ w', Mw w w' → K (fr n (ext (asg f 0 (ol.take m) l) o.dst v)) w') → Go1 P ol Q n (asg f 0 (ol.take m) l) w K o) : OgW P ol Q n l m W sp i o :=
  ⟨fun f w hm hd K hK => h f w hm hd K (by rw [hs] at hK; exact hK)⟩
theorem og_new {ol : List Oper} {m : Nat} {W : World} {sp : List Sp} {i : Nat} (zs : List Value) (hs : spAt sp i = .inr zs)
    (h : ∀ f w, Mw W w → (∀ j, depb o j = true → spDen W.heap.size (spAt sp j) (f j) w) → ∀ K : Act → World → Prop, (∀ k w', w.heap.size = k → w'.heap.size = k + 1 → Mw w w' → At w' k zs → K (fr n (ext (asg f 0 (ol.take m) l) o.dst (pt k 0))) w') → Go1 P ol Q n (asg f 0 (ol.take m) l) w K o) : OgW P ol Q n l m W sp i o :=
  ⟨fun f w hm hd K hK => h f w hm hd K (by rw [hs] at hK; exact hK)⟩
/-- Something of each operation, with its number. -/
theorem ea_nil {F : Nat → Oper → Prop} {i : Nat} : Each F i [] := trivial
theorem ea_cons {F : Nat → Oper → Prop} {i : Nat} {o : Oper} {r : List Oper} (h : F i o) (k : Each F (i + 1) r) : Each F i (o :: r) := ⟨h, k⟩
/-- What lies in the slots, by the list. -/
def slo (n : Nat) (l : List (Nat × Value)) (ops : List Oper) (i : Nat) : Value :=
  match (ops[i]?).bind (·.dst) with
  | some d => bif Nat.blt d n then look l d else undef
  | none => undef
theorem slo_eq (ops : List Oper) : slots (fr n l) ops.toArray = slo n l ops := by
  funext i
  unfold slots slo
  simp only [List.getElem?_toArray]
  cases (ops[i]?).bind (·.dst) with
  | none => rfl
  | some d => exact fr_getD n l d
def isPt : Value → Bool
  | .pointer (some _) => true
  | _ => false
theorem Ds.start {sp : List Sp} {f : Nat → Value} (h : (List.range sp.length).all (fun j => !spNew (spAt sp j) || !isPt (f j)) = true) : Ds sp f w := by
  have hh : ∀ j, spNew (spAt sp j) = true → ∀ k, f j ≠ pt k 0 := fun j hj k e => by
    rcases Nat.lt_or_ge j sp.length with hl | hl
    · have := List.all_eq_true.1 h j (List.mem_range.2 hl)
      simp [hj, e, isPt] at this
    · unfold spAt at hj; rw [List.getElem?_eq_none hl] at hj; cases hj
  exact ⟨fun j hj k hk => (hh j hj k hk).elim, fun i j hi _ _ k hk => (hh i hi k hk).elim⟩
theorem la_mv (x : Operand) (p : Value) (ho : ∀ ρ, execOp ρ o = pure (.value (ρ x))) (hx : evl n l x = p) : ∀ w, (execOp (evl n l) o).run P w = .ok (.value p) w := fun w => by rw [ho, hx]; rfl
theorem la_un (F : Value → Sem Value) (x : Operand) (p v : Value) (ho : ∀ ρ, execOp ρ o = (do pure (.value (← F (ρ x))))) (hx : evl n l x = p) (h : ∀ w, (F p).run P w = .ok v w) : ∀ w, (execOp (evl n l) o).run P w = .ok (.value v) w := fun w => by
  rw [ho, hx]; simp [h]
theorem late_nil {ol : List Oper} {m : Nat} {sp : List Sp} : ∀ i, i ∈ ([] : List Nat) → LateO P ol Q n l m sp i := fun i h => absurd h (by simp)
theorem late_cons {ol : List Oper} {m : Nat} {sp : List Sp} {j : Nat} {r : List Nat} (h : LateO P ol Q n l m sp j) (k : ∀ i, i ∈ r → LateO P ol Q n l m sp i) : ∀ i, i ∈ j :: r → LateO P ol Q n l m sp i := fun i hi => by
  rcases List.mem_cons.1 hi with rfl | hi
  · exact h
  · exact k i hi
theorem w_any {id : Nat} {ol : List Oper} (m : Nat) (sp : List Sp) (fs : List Nat) (hm : P.follows .mixedOrders = true)
    (hb : edgesBack .any ol.toArray = true) (hd : dstsApart (ol.take m) = true) (hc : chainB ol m fs = true) (hl : Nat.ble m ol.length = true) (hf : floatB ol m fs = true) (hns : Region.noSelect ol.toArray = true)
    (hlate : ∀ i, i ∈ fs → LateO P ol Q n l m sp i)
    (hD : Ds sp (slo n l (ol.take m)) w)
    (hs : Each (OgW P ol Q n l m w sp) 0 (ol.take m))
    (hend : ∀ kf w', Mw w w' → (∀ i zs, Nat.blt i m = true → spAt sp i = .inr zs → w.heap.size ≤ kf i ∧ At w' (kf i) zs) → (∀ i j, Nat.blt i m = true → Nat.blt j m = true → spNew (spAt sp i) = true → spNew (spAt sp j) = true → i ≠ j → kf i ≠ kf j) →
      WL P ol.toArray Q (ol.drop m) n (asg (spv sp kf) 0 (ol.take m) l) w') : WC P (Code.region id ol.toArray true) Q n l w := by
  refine ⟨r_any m sp fs hm hb hd hc hl hf hns hlate (by rw [slo_eq]; exact hD) (Each.mono ?_ _ 0 hs) (fun kf w' a b c => (hend kf w' a b c).out)⟩
  intro i o h f w' hmo hdep K hK
  rcases (h.out f w' hmo hdep K hK).out with ⟨hg, h⟩ | ⟨hg, h⟩
  · exact ct hg h.out
  · exact cf hg h
end
end Go.Proofs.YtdcojpbgijkmgaaDoor.V
/-
  withPoint: digits with a point ahead of the last of them.
-/
namespace Go.Proofs.YtdcojpbgijkmgaaDoor
open Go.RowKit Go.Lib
/-- Digits with as many 0s ahead that one stands ahead of the point. -/
def leadz (l : List UInt8) (k : Nat) : List UInt8 := List.replicate (k + 1 - l.length) 48 ++ l
/-- Digits with a point ahead of the last k. -/
def wpt (l : List UInt8) (k : Nat) : List UInt8 := if k = 0 then l else (leadz l k).take ((leadz l k).length - k) ++ 46 :: (leadz l k).drop ((leadz l k).length - k)
set_option maxHeartbeats 1000000 in
theorem withPoint_0 (s : ByteArray) (w : World) : Calls Tryd.prog 22 #[.string s, .int .i64 0] w fun e w' => e = .returned (.string s) ∧ V.Mw w w' := by
  go_enter Tryd.func22, Tryd.ntmps22
  go_wp2
  go_ret
  exact ⟨rfl, V.Mw.refl _⟩
set_option maxHeartbeats 1000000 in
theorem withPoint_a (s : ByteArray) (k j : Nat) (w : World) (hk0 : ((k : Int) == 0) = false) (hk : k ≤ 1000) (hs : s.size ≤ 1000) (hj : s.size = k + j) (hj0 : 0 < j) :
    Calls Tryd.prog 22 #[.string s, .int .i64 (k : Int)] w fun e w' => e = .returned (.string (s.extract 0 j ++ ⟨#[46]⟩ ++ s.extract j s.size)) ∧ V.Mw w w' := by
  have q1 : IntKind.i64.wrap ((k : Int) + 1) = (k : Int) + 1 := by rw [IntKind.wrap_i64]; omega
  have q2 : IntKind.i64.wrap ((k : Int) + 1 - (s.size : Int)) = (k : Int) + 1 - (s.size : Int) := by rw [IntKind.wrap_i64]; omega
  have q3 : ¬ (0 < (k : Int) + 1 - (s.size : Int)) := by omega
  have q4 : IntKind.i64.wrap ((s.size : Int) - (k : Int)) = (j : Int) := by rw [IntKind.wrap_i64]; omega
  have q5 : (0 : Int) ≤ (j : Int) := by omega
  have q6 : (j : Int) ≤ (s.size : Int) := by omega
  have r1 : wrap64 ((k : Int) + 1) = (k : Int) + 1 := by unfold wrap64; omega
  have r2 : wrap64 ((k : Int) + 1 - (s.size : Int)) = (k : Int) + 1 - (s.size : Int) := by unfold wrap64; omega
  have r4 : wrap64 ((s.size : Int) - (k : Int)) = (j : Int) := by unfold wrap64; omega
  have hk1 : (k : Int) ≠ 0 := by intro h; rw [h] at hk0; cases hk0
  clear hj
  go_enter Tryd.func22, Tryd.ntmps22
  go_wp2
  go_region
  go_wp2
  go_ret
  exact ⟨rfl, (V.Mw.refl _).drew⟩
set_option maxHeartbeats 1000000 in
theorem withPoint_b (s z t : ByteArray) (k d : Nat) (w : World) (hz : z = ⟨(Lib.repeatL [48] d).toArray⟩) (ht : t = z ++ s) (hk0 : ((k : Int) == 0) = false) (hk : k ≤ 1000) (hs : s.size ≤ 1000) (hd : k + 1 = s.size + d) (hd0 : 0 < d) (hts : t.size = k + 1) :
    Calls Tryd.prog 22 #[.string s, .int .i64 (k : Int)] w fun e w' => e = .returned (.string (t.extract 0 1 ++ ⟨#[46]⟩ ++ t.extract 1 t.size)) ∧ V.Mw w w' := by
  have q1 : IntKind.i64.wrap ((k : Int) + 1) = (k : Int) + 1 := by rw [IntKind.wrap_i64]; omega
  have q2 : IntKind.i64.wrap ((k : Int) + 1 - (s.size : Int)) = (d : Int) := by rw [IntKind.wrap_i64]; omega
  have q3 : (0 : Int) < (d : Int) := by omega
  have q4 : IntKind.i64.wrap ((t.size : Int) - (k : Int)) = 1 := by rw [hts, IntKind.wrap_i64]; omega
  have q6 : (1 : Int) ≤ (t.size : Int) := by omega
  have r1 : wrap64 ((k : Int) + 1) = (k : Int) + 1 := by unfold wrap64; omega
  have r2 : wrap64 ((k : Int) + 1 - (s.size : Int)) = (d : Int) := by unfold wrap64; omega
  have r4 : wrap64 ((t.size : Int) - (k : Int)) = 1 := by rw [hts]; unfold wrap64; omega
  have hk1 : (k : Int) ≠ 0 := by intro h; rw [h] at hk0; cases hk0
  have hrep : ∀ w, Calls Tryd.prog 45 #[.string ⟨#[48]⟩, .int .i64 (d : Int)] w fun e w' => e = .returned (.string z) ∧ V.Mw w w' := fun w => by
    rw [hz]; exact Tryd.strings_Repeat ⟨#[48]⟩ d w (by omega) (by show 1 * d ≤ _; omega)
  have ha : z ++ s = t := ht.symm
  have hsz : z.size + s.size = t.size := by rw [ht]; simp
  have hts2 : t.size ≤ 1001 := by omega
  clear hd hts hz ht
  go_enter Tryd.func22, Tryd.ntmps22
  go_wp2_with (go_at_call 45; refine (hrep _).mono ?_; rintro e w' ⟨rfl, hb⟩)
  go_region
  go_wp2
  go_ret
  exact ⟨rfl, V.Mw.drew hb⟩
end Go.Proofs.YtdcojpbgijkmgaaDoor
/-
  withPoint as a function of lists; strings.Cut, withoutZeros, isDecimal.
-/
namespace Go.Proofs.YtdcojpbgijkmgaaDoor
open Go.RowKit Go.Lib
theorem tx_of (x : ByteArray) : Value.string x = tx (by8 x) := rfl
theorem by8_app (a b : ByteArray) : by8 (a ++ b) = by8 a ++ by8 b := by simp [by8]
theorem by8_ext (a : ByteArray) (i j : Nat) : by8 (a.extract i j) = ((by8 a).drop i).take (j - i) := by simp [by8, ByteArray.data_extract]
theorem by8_len (a : ByteArray) : (by8 a).length = a.size := (Lib.size_eq a).symm
theorem rep_l (d : Nat) : Lib.repeatL [48] d = List.replicate d (48 : UInt8) := by
  have := Lib.repeatL_replicate 48 1 d; simpa using this
theorem withPoint_n (s : ByteArray) (k : Nat) (w : World) (hk : k ≤ 1000) (hs : s.size ≤ 1000) :
    Calls Tryd.prog 22 #[.string s, .int .i64 (k : Int)] w fun e w' => e = .returned (tx (wpt (by8 s) k)) ∧ V.Mw w w' := by
  by_cases h0 : k = 0
  · subst h0; exact withPoint_0 s w
  · have hk0 : ((k : Int) == 0) = false := beq_eq_false_iff_ne.2 (by omega)
    unfold wpt leadz
    rw [if_neg h0, by8_len]
    by_cases h1 : s.size < k + 1
    · obtain ⟨d, hd⟩ : ∃ d, k + 1 = s.size + d := ⟨k + 1 - s.size, by omega⟩
      have e1 : k + 1 - s.size = d := by omega
      have hz : by8 (⟨(Lib.repeatL [48] d).toArray⟩ : ByteArray) = List.replicate d 48 := by simp [by8, rep_l]
      have hts : ((⟨(Lib.repeatL [48] d).toArray⟩ : ByteArray) ++ s).size = k + 1 := by
        rw [← by8_len, by8_app, List.length_append, by8_len s, hz, List.length_replicate]; omega
      refine (withPoint_b s _ _ k d w rfl rfl hk0 hk hs hd (by omega) hts).mono fun e w' ⟨he, hm⟩ => ⟨?_, hm⟩
      rw [he, tx_of, by8_app, by8_app, by8_ext, by8_ext, by8_app, hts, hz, e1]
      have hl : (List.replicate d (48 : UInt8) ++ by8 s).length = k + 1 := by rw [List.length_append, List.length_replicate, by8_len]; omega
      have hl1 : k + 1 - k = 1 := by omega
      rw [hl, hl1]
      have ht : ((List.replicate d (48 : UInt8) ++ by8 s).drop 1).take (k + 1 - 1) = (List.replicate d (48 : UInt8) ++ by8 s).drop 1 := List.take_of_length_le (by rw [List.length_drop, hl]; omega)
      rw [ht]
      simp [by8]
    · obtain ⟨j, hj⟩ : ∃ j, s.size = k + j := ⟨s.size - k, by omega⟩
      refine (withPoint_a s k j w hk0 hk hs hj (by omega)).mono fun e w' ⟨he, hm⟩ => ⟨?_, hm⟩
      have e1 : k + 1 - s.size = 0 := by omega
      have e2 : s.size - k = j := by omega
      rw [he, tx_of, by8_app, by8_app, by8_ext, by8_ext, e1]
      have ht : ((by8 s).drop j).take (s.size - j) = (by8 s).drop j := List.take_of_length_le (by rw [List.length_drop, by8_len]; omega)
      have hl : (List.replicate 0 (48 : UInt8) ++ by8 s).length = s.size := by rw [List.length_append, List.length_replicate, by8_len]; omega
      rw [ht, hl, e2]
      simp [by8]
theorem cut_n (s : ByteArray) (c : UInt8) (w : World) (hs : s.size ≤ maxLen) : Calls Tryd.prog 28 #[.string s, .string ⟨#[c]⟩] w fun e w' =>
    e = .returned (.tuple #[tx (Lib.cut (by8 s) [c]).1, tx (Lib.cut (by8 s) [c]).2.1, .bool (Lib.cut (by8 s) [c]).2.2]) ∧ Mo w w' := by
  have h := cut51 s c
  generalize (Lib.cut (by8 s) [c]).1 = x1 at *
  generalize (Lib.cut (by8 s) [c]).2.1 = x2 at *
  generalize (Lib.cut (by8 s) [c]).2.2 = x3 at *
  go_enter Tryd.func28, Tryd.ntmps28
  go_wp2_with (go_at_call 51; refine (h _ hs).mono ?_; rintro e w' ⟨rfl, hm⟩)
  go_ret3
  exact ⟨rfl, hm⟩
/-- Without the 0s ahead; 0, if nothing else is there. -/
def woz (l : List UInt8) : List UInt8 := if l.dropWhile (· == 48) = [] then [48] else l.dropWhile (· == 48)
theorem withoutZeros_n (s : ByteArray) (w : World) : Calls Tryd.prog 30 #[.string s] w fun e w' => e = .returned (tx (woz (by8 s))) ∧ Mo w w' := by
  have h := Tryd.strings_TrimLeft_one s 48 (by decide)
  unfold woz
  have e : Lib.trimLeftB s.data.toList 48 = (by8 s).dropWhile (· == 48) := rfl
  rw [e] at h
  generalize (by8 s).dropWhile (· == 48) = y at *
  clear e
  cases y with
  | nil =>
    go_enter Tryd.func30, Tryd.ntmps30
    go_wp2_with (go_at_call 54; refine (h _).mono ?_; rintro e w' ⟨rfl, rfl⟩)
    go_ret
    exact ⟨rfl, Mo.refl _⟩
  | cons a r =>
    rw [if_neg (by simp)]
    unfold tx
    have hne : (⟨(a :: r).toArray⟩ : ByteArray).toList.isEmpty = false := by rw [ByteArray.toList_eq]; rfl
    generalize (⟨(a :: r).toArray⟩ : ByteArray) = q at *
    go_enter Tryd.func30, Tryd.ntmps30
    go_wp2_with (go_at_call 54; refine (h _).mono ?_; rintro e w' ⟨rfl, rfl⟩)
    go_ret
    exact ⟨rfl, Mo.refl _⟩
end Go.Proofs.YtdcojpbgijkmgaaDoor
/-
  This program's types: how many cells they have; a builtin.
-/
namespace Go.Proofs.YtdcojpbgijkmgaaDoor
theorem sz3 : (Tryd.prog.info? 3).map (·.size) = some 1 := by kernel_rfl
theorem sz4 : (Tryd.prog.info? 4).map (·.size) = some 1 := by kernel_rfl
theorem sz24 : (Tryd.prog.info? 24).map (·.size) = some 4 := by kernel_rfl
theorem sz40 : (Tryd.prog.info? 26).map (·.size) = some 6 := by kernel_rfl
theorem sz81 : (Tryd.prog.info? 64).map (·.size) = some 8 := by kernel_rfl
theorem max_run (ρ : Operand → Value) (x y : Operand) (a b : Int) (hx : ρ x = .int .i64 a) (hy : ρ y = .int .i64 b) (dst : Option Tmp) (type : TypeId) (pos : String) (after : Array Edge) (guard : Option (Nat × Bool)) (w : World) : (execOp ρ { dst, op := .call { callee := .builtin .max, args := #[x, y], argTypes := #[3, 3] }, type, pos, after, guard }).run Tryd.prog w = .ok (.value (.int .i64 (max a b))) w := by
  simp [go_sem, hx, hy]
end Go.Proofs.YtdcojpbgijkmgaaDoor
/-
  decimal.OfInt and cmp.Compare: the walks.
-/
namespace Go.Proofs.YtdcojpbgijkmgaaDoor
open Go.RowKit
theorem nan_n (a : Int) (w : World) : Calls Tryd.prog 60 #[.int .i64 a] w fun e w' => e = .returned (.bool false) ∧ Mo w w' := by
  go_enter Tryd.func60, Tryd.ntmps60
  go_wp2
  go_ret
  exact ⟨by simp, Mo.refl _⟩
set_option maxHeartbeats 4000000 in
theorem compare_n (a b : Int) (w : World) : Calls Tryd.prog 40 #[.int .i64 a, .int .i64 b] w fun e w' => e = .returned (.int .i64 (cm a b)) ∧ Mo w w' := by
  have hc : (a < b ∧ cm a b = -1) ∨ (¬ a < b ∧ b < a ∧ cm a b = 1) ∨ (¬ a < b ∧ ¬ b < a ∧ cm a b = 0) := by
    unfold cm
    by_cases h : a < b
    · exact Or.inl ⟨h, if_pos h⟩
    · by_cases h2 : b < a
      · exact Or.inr (Or.inl ⟨h, h2, by rw [if_neg h, if_pos h2]⟩)
      · exact Or.inr (Or.inr ⟨h, h2, by rw [if_neg h, if_neg h2]⟩)
  rcases hc with ⟨h1, h2⟩ | ⟨h1, h2, h3⟩ | ⟨h1, h2, h3⟩
  · have d1 : decide (a < b) = true := decide_eq_true h1
    rw [h2]
    clear h1 h2
    go_enter Tryd.func40, Tryd.ntmps40
    go_wp2_with fail
    refine (nan_n a _).mono ?_
    rintro e w1 ⟨rfl, hm1⟩
    have mz : Mo w w1 := Mo.trans (by repeat (first | with_reducible exact Mo.refl _ | with_reducible apply Mo.drew | with_reducible apply Mo.alloc)) hm1
    have M := mz
    clear hm1 mz
    go_wp2_with fail
    refine (nan_n b _).mono ?_
    rintro e w2 ⟨rfl, hm2⟩
    have mz : Mo w1 w2 := Mo.trans (by repeat (first | with_reducible exact Mo.refl _ | with_reducible apply Mo.drew | with_reducible apply Mo.alloc)) hm2
    have M := M.trans mz
    clear hm2 mz
    go_wp2
    go_ret
    exact ⟨rfl, M⟩
  · have d1 : decide (a < b) = false := decide_eq_false h1
    have d2 : decide (a > b) = true := decide_eq_true h2
    rw [h3]
    clear h1 h2 h3
    go_enter Tryd.func40, Tryd.ntmps40
    go_wp2_with fail
    refine (nan_n a _).mono ?_
    rintro e w1 ⟨rfl, hm1⟩
    have mz : Mo w w1 := Mo.trans (by repeat (first | with_reducible exact Mo.refl _ | with_reducible apply Mo.drew | with_reducible apply Mo.alloc)) hm1
    have M := mz
    clear hm1 mz
    go_wp2_with fail
    refine (nan_n b _).mono ?_
    rintro e w2 ⟨rfl, hm2⟩
    have mz : Mo w1 w2 := Mo.trans (by repeat (first | with_reducible exact Mo.refl _ | with_reducible apply Mo.drew | with_reducible apply Mo.alloc)) hm2
    have M := M.trans mz
    clear hm2 mz
    go_wp2
    go_ret
    exact ⟨rfl, M⟩
  · have d1 : decide (a < b) = false := decide_eq_false h1
    have d2 : decide (a > b) = false := decide_eq_false h2
    rw [h3]
    clear h1 h2 h3
    go_enter Tryd.func40, Tryd.ntmps40
    go_wp2_with fail
    refine (nan_n a _).mono ?_
    rintro e w1 ⟨rfl, hm1⟩
    have mz : Mo w w1 := Mo.trans (by repeat (first | with_reducible exact Mo.refl _ | with_reducible apply Mo.drew | with_reducible apply Mo.alloc)) hm1
    have M := mz
    clear hm1 mz
    go_wp2_with fail
    refine (nan_n b _).mono ?_
    rintro e w2 ⟨rfl, hm2⟩
    have mz : Mo w1 w2 := Mo.trans (by repeat (first | with_reducible exact Mo.refl _ | with_reducible apply Mo.drew | with_reducible apply Mo.alloc)) hm2
    have M := M.trans mz
    clear hm2 mz
    go_wp2
    go_ret
    exact ⟨rfl, M⟩
end Go.Proofs.YtdcojpbgijkmgaaDoor
/-
  decimal.Cmp: the walk.
-/
namespace Go.Proofs.YtdcojpbgijkmgaaDoor
open Go.RowKit
theorem lifted_bd {n : Int} {i : Nat} (h0 : 0 ≤ n) (h : n < MM) (hi : i ≤ 77) : 0 ≤ n * 10 ^ i ∧ n * 10 ^ i < MM * MM := by
  obtain ⟨t0, t1⟩ := ten_bd i hi
  refine ⟨Int.mul_nonneg h0 (by omega), ?_⟩
  have a : n * 10 ^ i ≤ n * MM := Int.mul_le_mul_of_nonneg_left (by omega) h0
  have b : n * MM < MM * MM := Int.mul_lt_mul_of_pos_right h (by decide)
  omega
set_option maxHeartbeats 4000000 in
theorem dcmp_no (b c : Bool) (n m s t : Int) (w : World) (hn0 : 0 ≤ n) (hn : n < MM) (hm0 : 0 ≤ m) (hm : m < MM) (h : ¬ (ck b n s = 0 ∧ ck c m t = 0)) :
    Calls Tryd.prog 20 #[dc b n s, dc c m t] w fun e w' => e = .returned (.int .i64 0) ∧ Mo w w' := by
  go_enter Tryd.func20, Tryd.ntmps20
  go_wp2_with fail
  refine (both_no b n s c m t _ hn0 hn hm0 hm h).mono ?_
  rintro e w1 ⟨rfl, hm1⟩
  have mz : Mo w w1 := Mo.trans (by repeat (first | with_reducible exact Mo.refl _ | with_reducible apply Mo.drew | with_reducible apply Mo.alloc)) hm1
  have M := mz
  have Qa : AtD w1 (w.heap.size) b n s := AtD.mo ⟨by simp [go_sem], fun o => by simp [go_sem], by simp <;> omega⟩ hm1
  have Qb : AtD w1 (w.heap.size + 1) c m t := AtD.mo ⟨by simp [go_sem], fun o => by simp [go_sem], by simp <;> omega⟩ hm1
  clear hm1 mz
  have Oa := Qa
  obtain ⟨⟨ca0, ca1, ca2, ca3, ca4, ca5⟩, fa, sa⟩ := Oa
  have fa := fun o => fa o
  have sxa : w.heap.size < w1.heap.size + 1 := by omega
  have sya : w.heap.size < w1.heap.size + 1 + 1 := by omega
  have Ob := Qb
  obtain ⟨⟨cb0, cb1, cb2, cb3, cb4, cb5⟩, fb, sb⟩ := Ob
  have fb := fun o => fb o
  have sxb : w.heap.size + 1 < w1.heap.size + 1 := by omega
  have syb : w.heap.size + 1 < w1.heap.size + 1 + 1 := by omega
  go_wp2
  go_ret
  exact ⟨rfl, M⟩
set_option maxHeartbeats 4000000 in
theorem dcmp_ne (b c : Bool) (n m s t : Int) (w : World) (hn0 : 0 ≤ n) (hn : n < MM) (hm0 : 0 ≤ m) (hm : m < MM) (h1 : ck b n s = 0) (h2 : ck c m t = 0) (ho : cm (sg b n) (sg c m) ≠ 0) :
    Calls Tryd.prog 20 #[dc b n s, dc c m t] w fun e w' => e = .returned (.int .i64 (cm (sg b n) (sg c m))) ∧ Mo w w' := by
  have hO : (cm (sg b n) (sg c m) == 0) = false := by simp [ho]
  have hO2 : (cm (sg b n) (sg c m) != 0) = true := by simp [ho]
  clear ho
  go_enter Tryd.func20, Tryd.ntmps20
  go_wp2_with fail
  refine (both_ok b n s c m t _ hn0 hn hm0 hm h1 h2).mono ?_
  rintro e w1 ⟨rfl, hm1⟩
  have mz : Mo w w1 := Mo.trans (by repeat (first | with_reducible exact Mo.refl _ | with_reducible apply Mo.drew | with_reducible apply Mo.alloc)) hm1
  have M := mz
  have Qa : AtD w1 (w.heap.size) b n s := AtD.mo ⟨by simp [go_sem], fun o => by simp [go_sem], by simp <;> omega⟩ hm1
  have Qb : AtD w1 (w.heap.size + 1) c m t := AtD.mo ⟨by simp [go_sem], fun o => by simp [go_sem], by simp <;> omega⟩ hm1
  clear hm1 mz
  have Oa := Qa
  obtain ⟨⟨ca0, ca1, ca2, ca3, ca4, ca5⟩, fa, sa⟩ := Oa
  have fa := fun o => fa o
  have sxa : w.heap.size < w1.heap.size + 1 := by omega
  have sya : w.heap.size < w1.heap.size + 1 + 1 := by omega
  have Ob := Qb
  obtain ⟨⟨cb0, cb1, cb2, cb3, cb4, cb5⟩, fb, sb⟩ := Ob
  have fb := fun o => fb o
  have sxb : w.heap.size + 1 < w1.heap.size + 1 := by omega
  have syb : w.heap.size + 1 < w1.heap.size + 1 + 1 := by omega
  go_upto_region 3 with fail
  go_cut [5] from 12 to 16 (fun s5 wx => s5 = .int .i64 (cm (sg b n) (sg c m)) ∧ Mo w wx ∧ AtD wx w.heap.size b n s ∧ AtD wx (w.heap.size + 1) c m t)
  case first =>
    go_region_held3 (fun w' => w'.cell? ⟨w.heap.size, 0, none⟩ = some (.bool b) ∧ w'.cell? ⟨w.heap.size, 1, none⟩ = some (.int .u64 (l0 n)) ∧ w'.cell? ⟨w.heap.size, 2, none⟩ = some (.int .u64 (l1 n)) ∧ w'.cell? ⟨w.heap.size, 3, none⟩ = some (.int .u64 (l2 n)) ∧ w'.cell? ⟨w.heap.size, 4, none⟩ = some (.int .u64 (l3 n)) ∧ w'.cell? ⟨w.heap.size, 5, none⟩ = some (.int .i64 s) ∧ w'.cell? ⟨w.heap.size + 1, 0, none⟩ = some (.bool c) ∧ w'.cell? ⟨w.heap.size + 1, 1, none⟩ = some (.int .u64 (l0 m)) ∧ w'.cell? ⟨w.heap.size + 1, 2, none⟩ = some (.int .u64 (l1 m)) ∧ w'.cell? ⟨w.heap.size + 1, 3, none⟩ = some (.int .u64 (l2 m)) ∧ w'.cell? ⟨w.heap.size + 1, 4, none⟩ = some (.int .u64 (l3 m)) ∧ w'.cell? ⟨w.heap.size + 1, 5, none⟩ = some (.int .i64 t)) (simp [go_sem, *])
      (first | (go_at_call 40; refine (compare_n _ _ _).mono ?_; rintro e w5 ⟨rfl, hm5⟩; have m5 : Mo w4 w5 := Mo.trans (by repeat (first | with_reducible exact Mo.refl _ | with_reducible apply Mo.drew | with_reducible apply Mo.alloc)) hm5; have m6 := (m3.trans m4).trans m5; obtain ⟨⟨i0, i1, i2, i3, i4, i5⟩, _, is⟩ := Qa.mo m6; obtain ⟨⟨j0, j1, j2, j3, j4, j5⟩, _, js⟩ := Qb.mo m6) | (go_at_call 41; have m33 := m3; refine (sign_n c m t _ hm0 hm).mono ?_; rintro e w4 ⟨rfl, hm4⟩; have m4 : Mo w3 w4 := Mo.trans (by repeat (first | with_reducible exact Mo.refl _ | with_reducible apply Mo.drew | with_reducible apply Mo.alloc)) hm4; obtain ⟨⟨g0, g1, g2, g3, g4, g5⟩, _, gs⟩ := Qa.mo (m3.trans m4); obtain ⟨⟨k0, k1, k2, k3, k4, k5⟩, _, ks⟩ := Qb.mo (m3.trans m4)) | (go_at_call 41; refine (sign_n b n s _ hn0 hn).mono ?_; rintro e w3 ⟨rfl, hm3⟩; have m3 : Mo w1 w3 := Mo.trans (by repeat (first | with_reducible exact Mo.refl _ | with_reducible apply Mo.drew | with_reducible apply Mo.alloc)) hm3; obtain ⟨⟨e0, e1, e2, e3, e4, e5⟩, _, es⟩ := Qa.mo m3; obtain ⟨⟨f0, f1, f2, f3, f4, f5⟩, _, fs⟩ := Qb.mo m3))
    all_goals
      go_wp2
      go_meet
      case rel => exact ⟨rfl, M.trans m6, Qa.mo m6, Qb.mo m6⟩
  case rest =>
    clear ca0 ca1 ca2 ca3 ca4 ca5 fa sa sxa sya cb0 cb1 cb2 cb3 cb4 cb5 fb sb sxb syb Qa Qb M
    obtain ⟨rfl, M, Qa, Qb⟩ := hcut
    have Oa := Qa
    obtain ⟨⟨ca0, ca1, ca2, ca3, ca4, ca5⟩, fa, sa⟩ := Oa
    have fa := fun o => fa o
    have sxa : w.heap.size < wc.heap.size + 1 := by omega
    have sya : w.heap.size < wc.heap.size + 1 + 1 := by omega
    have Ob := Qb
    obtain ⟨⟨cb0, cb1, cb2, cb3, cb4, cb5⟩, fb, sb⟩ := Ob
    have fb := fun o => fb o
    have sxb : w.heap.size + 1 < wc.heap.size + 1 := by omega
    have syb : w.heap.size + 1 < wc.heap.size + 1 + 1 := by omega
    go_wp2
    go_ret
    exact ⟨rfl, M⟩
set_option maxHeartbeats 4000000 in
theorem dcmp_pos (b c : Bool) (n m s t : Int) (w : World) (hn0 : 0 ≤ n) (hn : n < MM) (hm0 : 0 ≤ m) (hm : m < MM) (h1 : ck b n s = 0) (h2 : ck c m t = 0) (S : Int) (i j : Nat) (hS : max s t = S) (hi : S - s = (i : Int)) (hj : S - t = (j : Int)) (hi7 : i ≤ 18) (hj7 : j ≤ 18) (hb : b = false) (ho : cm (sg b n) (sg c m) = 0) :
    Calls Tryd.prog 20 #[dc b n s, dc c m t] w fun e w' => e = .returned (.int .i64 (cm (n * 10 ^ i) (m * 10 ^ j))) ∧ Mo w w' := by
  subst hb
  subst hS
  have bX := lifted_bd hn0 hn (show i ≤ 77 by omega)
  have bY := lifted_bd hm0 hm (show j ≤ 77 by omega)
  have HI : Hid _ := hi
  have HJ : Hid _ := hj
  clear hi hj
  have hO : (cm (sg false n) (sg c m) == 0) = true := by simp [ho]
  have hO2 : (cm (sg false n) (sg c m) != 0) = false := by simp [ho]
  clear ho
  go_enter Tryd.func20, Tryd.ntmps20
  go_wp2_with fail
  refine (both_ok false n s c m t _ hn0 hn hm0 hm h1 h2).mono ?_
  rintro e w1 ⟨rfl, hm1⟩
  have mz : Mo w w1 := Mo.trans (by repeat (first | with_reducible exact Mo.refl _ | with_reducible apply Mo.drew | with_reducible apply Mo.alloc)) hm1
  have M := mz
  have Qa : AtD w1 (w.heap.size) false n s := AtD.mo ⟨by simp [go_sem], fun o => by simp [go_sem], by simp <;> omega⟩ hm1
  have Qb : AtD w1 (w.heap.size + 1) c m t := AtD.mo ⟨by simp [go_sem], fun o => by simp [go_sem], by simp <;> omega⟩ hm1
  clear hm1 mz
  have Oa := Qa
  obtain ⟨⟨ca0, ca1, ca2, ca3, ca4, ca5⟩, fa, sa⟩ := Oa
  have fa := fun o => fa o
  have sxa : w.heap.size < w1.heap.size + 1 := by omega
  have sya : w.heap.size < w1.heap.size + 1 + 1 := by omega
  have Ob := Qb
  obtain ⟨⟨cb0, cb1, cb2, cb3, cb4, cb5⟩, fb, sb⟩ := Ob
  have fb := fun o => fb o
  have sxb : w.heap.size + 1 < w1.heap.size + 1 := by omega
  have syb : w.heap.size + 1 < w1.heap.size + 1 + 1 := by omega
  go_upto_region 3 with fail
  go_cut [5] from 12 to 16 (fun s5 wx => s5 = .int .i64 (cm (sg false n) (sg c m)) ∧ Mo w wx ∧ AtD wx w.heap.size false n s ∧ AtD wx (w.heap.size + 1) c m t)
  case first =>
    go_region_held3 (fun w' => w'.cell? ⟨w.heap.size, 0, none⟩ = some (.bool false) ∧ w'.cell? ⟨w.heap.size, 1, none⟩ = some (.int .u64 (l0 n)) ∧ w'.cell? ⟨w.heap.size, 2, none⟩ = some (.int .u64 (l1 n)) ∧ w'.cell? ⟨w.heap.size, 3, none⟩ = some (.int .u64 (l2 n)) ∧ w'.cell? ⟨w.heap.size, 4, none⟩ = some (.int .u64 (l3 n)) ∧ w'.cell? ⟨w.heap.size, 5, none⟩ = some (.int .i64 s) ∧ w'.cell? ⟨w.heap.size + 1, 0, none⟩ = some (.bool c) ∧ w'.cell? ⟨w.heap.size + 1, 1, none⟩ = some (.int .u64 (l0 m)) ∧ w'.cell? ⟨w.heap.size + 1, 2, none⟩ = some (.int .u64 (l1 m)) ∧ w'.cell? ⟨w.heap.size + 1, 3, none⟩ = some (.int .u64 (l2 m)) ∧ w'.cell? ⟨w.heap.size + 1, 4, none⟩ = some (.int .u64 (l3 m)) ∧ w'.cell? ⟨w.heap.size + 1, 5, none⟩ = some (.int .i64 t)) (simp [go_sem, *])
      (first | (go_at_call 40; refine (compare_n _ _ _).mono ?_; rintro e w5 ⟨rfl, hm5⟩; have m5 : Mo w4 w5 := Mo.trans (by repeat (first | with_reducible exact Mo.refl _ | with_reducible apply Mo.drew | with_reducible apply Mo.alloc)) hm5; have m6 := (m3.trans m4).trans m5; obtain ⟨⟨i0, i1, i2, i3, i4, i5⟩, _, is⟩ := Qa.mo m6; obtain ⟨⟨j0, j1, j2, j3, j4, j5⟩, _, js⟩ := Qb.mo m6) | (go_at_call 41; have m33 := m3; refine (sign_n c m t _ hm0 hm).mono ?_; rintro e w4 ⟨rfl, hm4⟩; have m4 : Mo w3 w4 := Mo.trans (by repeat (first | with_reducible exact Mo.refl _ | with_reducible apply Mo.drew | with_reducible apply Mo.alloc)) hm4; obtain ⟨⟨g0, g1, g2, g3, g4, g5⟩, _, gs⟩ := Qa.mo (m3.trans m4); obtain ⟨⟨k0, k1, k2, k3, k4, k5⟩, _, ks⟩ := Qb.mo (m3.trans m4)) | (go_at_call 41; refine (sign_n false n s _ hn0 hn).mono ?_; rintro e w3 ⟨rfl, hm3⟩; have m3 : Mo w1 w3 := Mo.trans (by repeat (first | with_reducible exact Mo.refl _ | with_reducible apply Mo.drew | with_reducible apply Mo.alloc)) hm3; obtain ⟨⟨e0, e1, e2, e3, e4, e5⟩, _, es⟩ := Qa.mo m3; obtain ⟨⟨f0, f1, f2, f3, f4, f5⟩, _, fs⟩ := Qb.mo m3))
    all_goals
      go_wp2
      go_meet
      case rel => exact ⟨rfl, M.trans m6, Qa.mo m6, Qb.mo m6⟩
  case rest =>
    clear ca0 ca1 ca2 ca3 ca4 ca5 fa sa sxa sya cb0 cb1 cb2 cb3 cb4 cb5 fb sb sxb syb Qa Qb M
    obtain ⟨rfl, M, Qa, Qb⟩ := hcut
    have Oa := Qa
    obtain ⟨⟨ca0, ca1, ca2, ca3, ca4, ca5⟩, fa, sa⟩ := Oa
    have fa := fun o => fa o
    have sxa : w.heap.size < wc.heap.size + 1 := by omega
    have sya : w.heap.size < wc.heap.size + 1 + 1 := by omega
    have Ob := Qb
    obtain ⟨⟨cb0, cb1, cb2, cb3, cb4, cb5⟩, fb, sb⟩ := Ob
    have fb := fun o => fb o
    have sxb : w.heap.size + 1 < wc.heap.size + 1 := by omega
    have syb : w.heap.size + 1 < wc.heap.size + 1 + 1 := by omega
    go_upto_region 7 with fail
    go_cut [7] from 25 to 31 (fun s7 wx => s7 = .int .i64 (cm (n * 10 ^ i) (m * 10 ^ j)) ∧ Mo w wx ∧ AtD wx w.heap.size false n s)
    case first =>
      go_region_held3 (fun w' => w'.cell? ⟨w.heap.size, 0, none⟩ = some (.bool false) ∧ w'.cell? ⟨w.heap.size, 1, none⟩ = some (.int .u64 (l0 n)) ∧ w'.cell? ⟨w.heap.size, 2, none⟩ = some (.int .u64 (l1 n)) ∧ w'.cell? ⟨w.heap.size, 3, none⟩ = some (.int .u64 (l2 n)) ∧ w'.cell? ⟨w.heap.size, 4, none⟩ = some (.int .u64 (l3 n)) ∧ w'.cell? ⟨w.heap.size, 5, none⟩ = some (.int .i64 s) ∧ w'.cell? ⟨w.heap.size + 1, 0, none⟩ = some (.bool c) ∧ w'.cell? ⟨w.heap.size + 1, 1, none⟩ = some (.int .u64 (l0 m)) ∧ w'.cell? ⟨w.heap.size + 1, 2, none⟩ = some (.int .u64 (l1 m)) ∧ w'.cell? ⟨w.heap.size + 1, 3, none⟩ = some (.int .u64 (l2 m)) ∧ w'.cell? ⟨w.heap.size + 1, 4, none⟩ = some (.int .u64 (l3 m)) ∧ w'.cell? ⟨w.heap.size + 1, 5, none⟩ = some (.int .i64 t)) (simp [go_sem, *])
        (first | (go_at_call 42; refine (cmpDouble_x _ _ _ bX.1 bX.2 bY.1 bY.2).mono ?_; rintro e w9 ⟨rfl, hm9⟩; have m9 : Mo w8 w9 := Mo.trans (by repeat (first | with_reducible exact Mo.refl _ | with_reducible apply Mo.drew | with_reducible apply Mo.alloc)) hm9; have m10 := (m7.trans m8).trans m9; obtain ⟨⟨i0, i1, i2, i3, i4, i5⟩, _, is⟩ := Qa.mo m10; obtain ⟨⟨j0, j1, j2, j3, j4, j5⟩, _, js⟩ := Qb.mo m10) | (go_at_call 43; have m77 := m7; refine (lift_x _ _ _ _ j _ hm0 hm HJ.out (by omega)).mono ?_; rintro e w8 ⟨rfl, hm8⟩; have m8 : Mo w7 w8 := Mo.trans (by repeat (first | with_reducible exact Mo.refl _ | with_reducible apply Mo.drew | with_reducible apply Mo.alloc)) hm8; obtain ⟨⟨g0, g1, g2, g3, g4, g5⟩, _, gs⟩ := Qa.mo (m7.trans m8); obtain ⟨⟨k0, k1, k2, k3, k4, k5⟩, _, ks⟩ := Qb.mo (m7.trans m8)) | (go_at_call 43; refine (lift_x _ _ _ _ i _ hn0 hn HI.out (by omega)).mono ?_; rintro e w7 ⟨rfl, hm7⟩; have m7 : Mo wc w7 := Mo.trans (by repeat (first | with_reducible exact Mo.refl _ | with_reducible apply Mo.drew | with_reducible apply Mo.alloc)) hm7; obtain ⟨⟨e0, e1, e2, e3, e4, e5⟩, _, es⟩ := Qa.mo m7; obtain ⟨⟨f0, f1, f2, f3, f4, f5⟩, _, fs⟩ := Qb.mo m7))
      all_goals
        go_wp2
        go_meet
        case rel => exact ⟨rfl, M.trans m10, Qa.mo m10⟩
    case rest =>
      clear ca0 ca1 ca2 ca3 ca4 ca5 fa sa sxa sya cb0 cb1 cb2 cb3 cb4 cb5 fb sb sxb syb Qa Qb M
      obtain ⟨rfl, M, Qa⟩ := hcut
      have Oa := Qa
      obtain ⟨⟨ca0, ca1, ca2, ca3, ca4, ca5⟩, fa, sa⟩ := Oa
      have fa := fun o => fa o
      have sxa : w.heap.size < wc.heap.size + 1 := by omega
      have sya : w.heap.size < wc.heap.size + 1 + 1 := by omega
      go_wp2
      go_ret
      exact ⟨rfl, M⟩
set_option maxHeartbeats 4000000 in
theorem dcmp_neg (b c : Bool) (n m s t : Int) (w : World) (hn0 : 0 ≤ n) (hn : n < MM) (hm0 : 0 ≤ m) (hm : m < MM) (h1 : ck b n s = 0) (h2 : ck c m t = 0) (S : Int) (i j : Nat) (hS : max s t = S) (hi : S - s = (i : Int)) (hj : S - t = (j : Int)) (hi7 : i ≤ 18) (hj7 : j ≤ 18) (hb : b = true) (ho : cm (sg b n) (sg c m) = 0) :
    Calls Tryd.prog 20 #[dc b n s, dc c m t] w fun e w' => e = .returned (.int .i64 (-(cm (n * 10 ^ i) (m * 10 ^ j)))) ∧ Mo w w' := by
  subst hb
  subst hS
  have bX := lifted_bd hn0 hn (show i ≤ 77 by omega)
  have bY := lifted_bd hm0 hm (show j ≤ 77 by omega)
  have HI : Hid _ := hi
  have HJ : Hid _ := hj
  clear hi hj
  have wn : IntKind.i64.wrap (-(cm (n * 10 ^ i) (m * 10 ^ j))) = -(cm (n * 10 ^ i) (m * 10 ^ j)) := by unfold cm; split <;> (try split) <;> decide
  have hO : (cm (sg true n) (sg c m) == 0) = true := by simp [ho]
  have hO2 : (cm (sg true n) (sg c m) != 0) = false := by simp [ho]
  clear ho
  go_enter Tryd.func20, Tryd.ntmps20
  go_wp2_with fail
  refine (both_ok true n s c m t _ hn0 hn hm0 hm h1 h2).mono ?_
  rintro e w1 ⟨rfl, hm1⟩
  have mz : Mo w w1 := Mo.trans (by repeat (first | with_reducible exact Mo.refl _ | with_reducible apply Mo.drew | with_reducible apply Mo.alloc)) hm1
  have M := mz
  have Qa : AtD w1 (w.heap.size) true n s := AtD.mo ⟨by simp [go_sem], fun o => by simp [go_sem], by simp <;> omega⟩ hm1
  have Qb : AtD w1 (w.heap.size + 1) c m t := AtD.mo ⟨by simp [go_sem], fun o => by simp [go_sem], by simp <;> omega⟩ hm1
  clear hm1 mz
  have Oa := Qa
  obtain ⟨⟨ca0, ca1, ca2, ca3, ca4, ca5⟩, fa, sa⟩ := Oa
  have fa := fun o => fa o
  have sxa : w.heap.size < w1.heap.size + 1 := by omega
  have sya : w.heap.size < w1.heap.size + 1 + 1 := by omega
  have Ob := Qb
  obtain ⟨⟨cb0, cb1, cb2, cb3, cb4, cb5⟩, fb, sb⟩ := Ob
  have fb := fun o => fb o
  have sxb : w.heap.size + 1 < w1.heap.size + 1 := by omega
  have syb : w.heap.size + 1 < w1.heap.size + 1 + 1 := by omega
  go_upto_region 3 with fail
  go_cut [5] from 12 to 16 (fun s5 wx => s5 = .int .i64 (cm (sg true n) (sg c m)) ∧ Mo w wx ∧ AtD wx w.heap.size true n s ∧ AtD wx (w.heap.size + 1) c m t)
  case first =>
    go_region_held3 (fun w' => w'.cell? ⟨w.heap.size, 0, none⟩ = some (.bool true) ∧ w'.cell? ⟨w.heap.size, 1, none⟩ = some (.int .u64 (l0 n)) ∧ w'.cell? ⟨w.heap.size, 2, none⟩ = some (.int .u64 (l1 n)) ∧ w'.cell? ⟨w.heap.size, 3, none⟩ = some (.int .u64 (l2 n)) ∧ w'.cell? ⟨w.heap.size, 4, none⟩ = some (.int .u64 (l3 n)) ∧ w'.cell? ⟨w.heap.size, 5, none⟩ = some (.int .i64 s) ∧ w'.cell? ⟨w.heap.size + 1, 0, none⟩ = some (.bool c) ∧ w'.cell? ⟨w.heap.size + 1, 1, none⟩ = some (.int .u64 (l0 m)) ∧ w'.cell? ⟨w.heap.size + 1, 2, none⟩ = some (.int .u64 (l1 m)) ∧ w'.cell? ⟨w.heap.size + 1, 3, none⟩ = some (.int .u64 (l2 m)) ∧ w'.cell? ⟨w.heap.size + 1, 4, none⟩ = some (.int .u64 (l3 m)) ∧ w'.cell? ⟨w.heap.size + 1, 5, none⟩ = some (.int .i64 t)) (simp [go_sem, *])
      (first | (go_at_call 40; refine (compare_n _ _ _).mono ?_; rintro e w5 ⟨rfl, hm5⟩; have m5 : Mo w4 w5 := Mo.trans (by repeat (first | with_reducible exact Mo.refl _ | with_reducible apply Mo.drew | with_reducible apply Mo.alloc)) hm5; have m6 := (m3.trans m4).trans m5; obtain ⟨⟨i0, i1, i2, i3, i4, i5⟩, _, is⟩ := Qa.mo m6; obtain ⟨⟨j0, j1, j2, j3, j4, j5⟩, _, js⟩ := Qb.mo m6) | (go_at_call 41; have m33 := m3; refine (sign_n c m t _ hm0 hm).mono ?_; rintro e w4 ⟨rfl, hm4⟩; have m4 : Mo w3 w4 := Mo.trans (by repeat (first | with_reducible exact Mo.refl _ | with_reducible apply Mo.drew | with_reducible apply Mo.alloc)) hm4; obtain ⟨⟨g0, g1, g2, g3, g4, g5⟩, _, gs⟩ := Qa.mo (m3.trans m4); obtain ⟨⟨k0, k1, k2, k3, k4, k5⟩, _, ks⟩ := Qb.mo (m3.trans m4)) | (go_at_call 41; refine (sign_n true n s _ hn0 hn).mono ?_; rintro e w3 ⟨rfl, hm3⟩; have m3 : Mo w1 w3 := Mo.trans (by repeat (first | with_reducible exact Mo.refl _ | with_reducible apply Mo.drew | with_reducible apply Mo.alloc)) hm3; obtain ⟨⟨e0, e1, e2, e3, e4, e5⟩, _, es⟩ := Qa.mo m3; obtain ⟨⟨f0, f1, f2, f3, f4, f5⟩, _, fs⟩ := Qb.mo m3))
    all_goals
      go_wp2
      go_meet
      case rel => exact ⟨rfl, M.trans m6, Qa.mo m6, Qb.mo m6⟩
  case rest =>
    clear ca0 ca1 ca2 ca3 ca4 ca5 fa sa sxa sya cb0 cb1 cb2 cb3 cb4 cb5 fb sb sxb syb Qa Qb M
    obtain ⟨rfl, M, Qa, Qb⟩ := hcut
    have Oa := Qa
    obtain ⟨⟨ca0, ca1, ca2, ca3, ca4, ca5⟩, fa, sa⟩ := Oa
    have fa := fun o => fa o
    have sxa : w.heap.size < wc.heap.size + 1 := by omega
    have sya : w.heap.size < wc.heap.size + 1 + 1 := by omega
    have Ob := Qb
    obtain ⟨⟨cb0, cb1, cb2, cb3, cb4, cb5⟩, fb, sb⟩ := Ob
    have fb := fun o => fb o
    have sxb : w.heap.size + 1 < wc.heap.size + 1 := by omega
    have syb : w.heap.size + 1 < wc.heap.size + 1 + 1 := by omega
    go_upto_region 7 with fail
    go_cut [7] from 25 to 31 (fun s7 wx => s7 = .int .i64 (cm (n * 10 ^ i) (m * 10 ^ j)) ∧ Mo w wx ∧ AtD wx w.heap.size true n s)
    case first =>
      go_region_held3 (fun w' => w'.cell? ⟨w.heap.size, 0, none⟩ = some (.bool true) ∧ w'.cell? ⟨w.heap.size, 1, none⟩ = some (.int .u64 (l0 n)) ∧ w'.cell? ⟨w.heap.size, 2, none⟩ = some (.int .u64 (l1 n)) ∧ w'.cell? ⟨w.heap.size, 3, none⟩ = some (.int .u64 (l2 n)) ∧ w'.cell? ⟨w.heap.size, 4, none⟩ = some (.int .u64 (l3 n)) ∧ w'.cell? ⟨w.heap.size, 5, none⟩ = some (.int .i64 s) ∧ w'.cell? ⟨w.heap.size + 1, 0, none⟩ = some (.bool c) ∧ w'.cell? ⟨w.heap.size + 1, 1, none⟩ = some (.int .u64 (l0 m)) ∧ w'.cell? ⟨w.heap.size + 1, 2, none⟩ = some (.int .u64 (l1 m)) ∧ w'.cell? ⟨w.heap.size + 1, 3, none⟩ = some (.int .u64 (l2 m)) ∧ w'.cell? ⟨w.heap.size + 1, 4, none⟩ = some (.int .u64 (l3 m)) ∧ w'.cell? ⟨w.heap.size + 1, 5, none⟩ = some (.int .i64 t)) (simp [go_sem, *])
        (first | (go_at_call 42; refine (cmpDouble_x _ _ _ bX.1 bX.2 bY.1 bY.2).mono ?_; rintro e w9 ⟨rfl, hm9⟩; have m9 : Mo w8 w9 := Mo.trans (by repeat (first | with_reducible exact Mo.refl _ | with_reducible apply Mo.drew | with_reducible apply Mo.alloc)) hm9; have m10 := (m7.trans m8).trans m9; obtain ⟨⟨i0, i1, i2, i3, i4, i5⟩, _, is⟩ := Qa.mo m10; obtain ⟨⟨j0, j1, j2, j3, j4, j5⟩, _, js⟩ := Qb.mo m10) | (go_at_call 43; have m77 := m7; refine (lift_x _ _ _ _ j _ hm0 hm HJ.out (by omega)).mono ?_; rintro e w8 ⟨rfl, hm8⟩; have m8 : Mo w7 w8 := Mo.trans (by repeat (first | with_reducible exact Mo.refl _ | with_reducible apply Mo.drew | with_reducible apply Mo.alloc)) hm8; obtain ⟨⟨g0, g1, g2, g3, g4, g5⟩, _, gs⟩ := Qa.mo (m7.trans m8); obtain ⟨⟨k0, k1, k2, k3, k4, k5⟩, _, ks⟩ := Qb.mo (m7.trans m8)) | (go_at_call 43; refine (lift_x _ _ _ _ i _ hn0 hn HI.out (by omega)).mono ?_; rintro e w7 ⟨rfl, hm7⟩; have m7 : Mo wc w7 := Mo.trans (by repeat (first | with_reducible exact Mo.refl _ | with_reducible apply Mo.drew | with_reducible apply Mo.alloc)) hm7; obtain ⟨⟨e0, e1, e2, e3, e4, e5⟩, _, es⟩ := Qa.mo m7; obtain ⟨⟨f0, f1, f2, f3, f4, f5⟩, _, fs⟩ := Qb.mo m7))
      all_goals
        go_wp2
        go_meet
        case rel => exact ⟨rfl, M.trans m10, Qa.mo m10⟩
    case rest =>
      clear ca0 ca1 ca2 ca3 ca4 ca5 fa sa sxa sya cb0 cb1 cb2 cb3 cb4 cb5 fb sb sxb syb Qa Qb M
      obtain ⟨rfl, M, Qa⟩ := hcut
      have Oa := Qa
      obtain ⟨⟨ca0, ca1, ca2, ca3, ca4, ca5⟩, fa, sa⟩ := Oa
      have fa := fun o => fa o
      have sxa : w.heap.size < wc.heap.size + 1 := by omega
      have sya : w.heap.size < wc.heap.size + 1 + 1 := by omega
      go_wp2
      go_ret
      exact ⟨rfl, M⟩
end Go.Proofs.YtdcojpbgijkmgaaDoor
/-
  decimal's functions by whole numbers: what they answer at numbers that may be.
-/
namespace Go.Proofs.YtdcojpbgijkmgaaDoor
open Go.RowKit
/-- Ten to the k. -/
def pw (k : Int) : Int := 10 ^ k.toNat
theorem pw_pos (k : Int) : 0 < pw k := Int.pow_pos (by decide)
theorem pw_zero : pw 0 = 1 := rfl
theorem pw_nat (k : Nat) : pw (k : Int) = 10 ^ k := rfl
/-- The sum of two numbers, in the last digits of the greater scale. -/
def addV (u s v t : Int) : Int := u * pw (max s t - s) + v * pw (max s t - t)
theorem ab_c (v : Int) : (v < 0 ∧ ab v = -v) ∨ (0 ≤ v ∧ ab v = v) := by
  unfold ab; by_cases h : v < 0
  · exact Or.inl ⟨h, if_pos h⟩
  · exact Or.inr ⟨by omega, if_neg h⟩
theorem ab_mul {u x : Int} (hx : 0 < x) : ab u * x = ab (u * x) := by
  unfold ab
  by_cases h : u < 0
  · rw [if_pos h, if_pos (Int.mul_neg_of_neg_of_pos h hx), Int.neg_mul]
  · rw [if_neg h, if_neg (by have := Int.mul_nonneg (Int.not_lt.1 h) (Int.le_of_lt hx); omega)]
theorem neg_mul_iff {u x : Int} (hx : 0 < x) : decide (u * x < 0) = decide (u < 0) := by
  by_cases h : u < 0
  · rw [decide_eq_true h, decide_eq_true (Int.mul_neg_of_neg_of_pos h hx)]
  · have := Int.mul_nonneg (Int.not_lt.1 h) (Int.le_of_lt hx)
    rw [decide_eq_false h, decide_eq_false (by omega)]
theorem lifted_sm {n : Int} {i : Nat} (h0 : 0 ≤ n) (h : n < MM) (hi : i ≤ 18) : n * 10 ^ i < 1000000000000000000 * MM := by
  have h1 : (10 : Nat) ^ i ≤ 10 ^ 18 := Nat.pow_le_pow_right (by decide) hi
  have h3 : ((10 ^ i : Nat) : Int) = (10 : Int) ^ i := by rw [Int.natCast_pow]; rfl
  have h4 : (10 : Int) ^ i ≤ 1000000000000000000 := by rw [← h3]; omega
  have a : n * 10 ^ i ≤ n * 1000000000000000000 := Int.mul_le_mul_of_nonneg_left h4 h0
  unfold MM at *
  omega
theorem one6 (b : Bool) (n s : Int) : [Value.bool b, .int .u64 (l0 n), .int .u64 (l1 n), .int .u64 (l2 n), .int .u64 (l3 n), .int .i64 s].all (·.oneCell') = true := rfl
end Go.Proofs.YtdcojpbgijkmgaaDoor
/-
  decimal by whole numbers: what else its functions answer.
-/
namespace Go.Proofs.YtdcojpbgijkmgaaDoor
open Go.RowKit
theorem dz_neg (v t : Int) : dc (!decide (v < 0) && !decide (ab v = 0)) (ab v) t = dz (-v) t := by
  have c := ab_c v
  have d := ab_c (-v)
  have e1 : ab v = ab (-v) := by omega
  have e2 : (!decide (v < 0) && !decide (ab v = 0)) = decide (-v < 0) := by
    rw [Bool.eq_iff_iff]; simp; omega
  rw [e2, e1]
theorem ab_neg (v : Int) : ab (-v) = ab v := by have c := ab_c v; have d := ab_c (-v); omega
theorem fz_yes {V S : Int} (h : ab V < MM) : fz V S = .tuple #[dz V S, .int .i64 0] := by unfold fz; rw [if_pos h]
theorem fz_no {V S : Int} (h : ¬ ab V < MM) : fz V S = er 7 := by unfold fz; rw [if_neg h]
theorem cmp_z (u s v t : Int) (w : World) (hu : ab u < MM) (hv : ab v < MM) (hs : sc s = true) (ht : sc t = true) :
    Calls Tryd.prog 20 #[dz u s, dz v t] w fun e w' => e = .returned (.int .i64 (cm (u * pw (max s t - s)) (v * pw (max s t - t)))) ∧ Mo w w' := by
  obtain ⟨s0, s1⟩ := sc_iff.1 hs
  obtain ⟨t0, t1⟩ := sc_iff.1 ht
  obtain ⟨S, hS⟩ : ∃ S, max s t = S := ⟨_, rfl⟩
  obtain ⟨i, hi⟩ : ∃ i : Nat, S - s = (i : Int) := ⟨(S - s).toNat, by omega⟩
  obtain ⟨j, hj⟩ : ∃ j : Nat, S - t = (j : Int) := ⟨(S - t).toNat, by omega⟩
  rw [hS, hi, hj, pw_nat, pw_nat]
  have pi : (0 : Int) < 10 ^ i := Int.pow_pos (by decide)
  have pj : (0 : Int) < 10 ^ j := Int.pow_pos (by decide)
  have eX := ab_mul (u := u) pi
  have eY := ab_mul (u := v) pj
  have nX := neg_mul_iff (u := u) pi
  have nY := neg_mul_iff (u := v) pj
  have zX : u * 10 ^ i = 0 ↔ ab u = 0 := by
    have c := ab_c u
    constructor
    · intro h; rcases Int.mul_eq_zero.1 h with h | h <;> omega
    · intro h; rw [show u = 0 by omega]; simp
  have zY : v * 10 ^ j = 0 ↔ ab v = 0 := by
    have c := ab_c v
    constructor
    · intro h; rcases Int.mul_eq_zero.1 h with h | h <;> omega
    · intro h; rw [show v = 0 by omega]; simp
  have sX : sg (decide (u < 0)) (ab u) = if u * 10 ^ i = 0 then 0 else if u * 10 ^ i < 0 then -1 else 1 := by
    unfold sg; rw [← nX]; by_cases h : u * 10 ^ i = 0 <;> simp [h, zX.1] <;> simp [zX.symm, h]
  have sY : sg (decide (v < 0)) (ab v) = if v * 10 ^ j = 0 then 0 else if v * 10 ^ j < 0 then -1 else 1 := by
    unfold sg; rw [← nY]; by_cases h : v * 10 ^ j = 0 <;> simp [h, zY.1] <;> simp [zY.symm, h]
  generalize hA : u * 10 ^ i = A at *
  generalize hB : v * 10 ^ j = B at *
  have cA := ab_c A
  have cB := ab_c B
  by_cases ho : cm (sg (decide (u < 0)) (ab u)) (sg (decide (v < 0)) (ab v)) = 0
  · have hsg : sg (decide (u < 0)) (ab u) = sg (decide (v < 0)) (ab v) := by unfold cm at ho; split at ho <;> (try split at ho) <;> omega
    rw [sX, sY] at hsg
    have hneg : (A < 0 ↔ B < 0) := by split at hsg <;> split at hsg <;> (try split at hsg) <;> (try split at hsg) <;> omega
    by_cases hb : u < 0
    · have hA0 : A < 0 := by have := nX; simp [hb] at this; exact this
      have := dcmp_neg (decide (u < 0)) (decide (v < 0)) (ab u) (ab v) s t w (ab_nn u) hu (ab_nn v) hv (ck_dz hs) (ck_dz ht) S i j hS hi hj (by omega) (by omega) (decide_eq_true hb) ho
      rw [eX, eY] at this
      have e : -(cm (ab A) (ab B)) = cm A B := by unfold cm; split <;> (try split) <;> (try split) <;> (try split) <;> omega
      rw [e] at this
      exact this
    · have hA0 : ¬ A < 0 := by have := nX; simp [hb] at this; omega
      have := dcmp_pos (decide (u < 0)) (decide (v < 0)) (ab u) (ab v) s t w (ab_nn u) hu (ab_nn v) hv (ck_dz hs) (ck_dz ht) S i j hS hi hj (by omega) (by omega) (decide_eq_false hb) ho
      rw [eX, eY] at this
      have e : cm (ab A) (ab B) = cm A B := by rw [show ab A = A by omega, show ab B = B by omega]
      rw [e] at this
      exact this
  · have := dcmp_ne (decide (u < 0)) (decide (v < 0)) (ab u) (ab v) s t w (ab_nn u) hu (ab_nn v) hv (ck_dz hs) (ck_dz ht) ho
    have e : cm (sg (decide (u < 0)) (ab u)) (sg (decide (v < 0)) (ab v)) = cm A B := by
      rw [sX, sY] at ho ⊢
      unfold cm at *
      by_cases a0 : A = 0 <;> by_cases b0 : B = 0 <;> by_cases a1 : A < 0 <;> by_cases b1 : B < 0 <;> simp [a0, b0, a1, b1] at ho ⊢ <;> (try split) <;> (try split) <;> omega
    rw [e] at this
    exact this
/-- A number rounded to another scale. -/
def rsV (u s S p : Int) : Int := if S < s then sv (decide (u < 0)) (ro (decide (u < 0)) (ab u) (s - S).toNat p) else u * pw (S - s)
theorem rescale_z (u s S p : Int) (w : World) (hu : ab u < MM) (hs : sc s = true) (hS : sc S = true) (hp1 : 1 ≤ p) (hp5 : p ≤ 5) :
    Calls Tryd.prog 34 #[dz u s, .int .i64 S, .int .i64 p] w fun e w' => e = .returned (fz (rsV u s S p) S) ∧ Mo w w' := by
  obtain ⟨s0, s1⟩ := sc_iff.1 hs
  obtain ⟨S0, S1⟩ := sc_iff.1 hS
  have h1M : (1 : Int) < MM := by decide
  have c1 : ck false 1 0 = 0 := by decide
  have hx : (decide (u < 0) != false) = decide (u < 0) := by simp
  unfold rsV
  by_cases hlt : S < s
  · rw [if_pos hlt]
    obtain ⟨f, hf⟩ : ∃ f : Nat, s - S = (f : Int) := ⟨(s - S).toNat, by omega⟩
    rw [hf, Int.toNat_natCast]
    have r0 := ro_nn (b := decide (u < 0)) (k := f) (p := p) (ab_nn u)
    by_cases hr : ro (decide (u < 0)) (ab u) f p < MM
    · rw [fz_yes (by rw [ab_sv r0]; exact hr)]
      refine rescale_ok _ _ s S p _ w (fun w => ?_)
      have := mulTo_dn_room (decide (u < 0)) false (ab u) 1 s 0 S p w (ab_nn u) hu (by decide) h1M (ck_dz hs) c1 hS hp1 hp5 f (by omega) (by omega) (by omega) ⟨s0, s1⟩ (by decide) (by rw [hx, Int.mul_one]; exact hr)
      rw [hx, Int.mul_one] at this
      exact this
    · rw [fz_no (by rw [ab_sv r0]; exact hr)]
      refine rescale_er _ _ s S p _ w (fun w => ?_)
      exact mulTo_dn_full (decide (u < 0)) false (ab u) 1 s 0 S p w (ab_nn u) hu (by decide) h1M (ck_dz hs) c1 hS hp1 hp5 f (by omega) (by omega) (by omega) ⟨s0, s1⟩ (by decide) (by rw [hx, Int.mul_one]; omega)
  · rw [if_neg hlt]
    obtain ⟨g, hg⟩ : ∃ g : Nat, S - s = (g : Int) := ⟨(S - s).toNat, by omega⟩
    rw [hg, pw_nat]
    have pg : (0 : Int) < 10 ^ g := Int.pow_pos (by decide)
    have eX := ab_mul (u := u) pg
    have hsv : sv (decide (u < 0)) (ab u * 10 ^ g) = u * 10 ^ g := by
      rw [eX]
      have nX := neg_mul_iff (u := u) pg
      rw [← nX]
      have c := ab_c (u * 10 ^ g)
      unfold sv
      rcases c with ⟨a, b⟩ | ⟨a, b⟩
      · rw [decide_eq_true a, b]; simp
      · rw [decide_eq_false (by omega), b]; simp
    by_cases hr : ab u * 10 ^ g < MM
    · rw [fz_yes (by rw [← eX]; exact hr)]
      refine rescale_ok _ _ s S p _ w (fun w => ?_)
      have := mulTo_up_room (decide (u < 0)) false (ab u) 1 s 0 S p w (ab_nn u) hu (by decide) h1M (ck_dz hs) c1 hS hp1 hp5 g (by omega) (by omega) ⟨s0, s1⟩ (by decide) (by rw [Int.mul_one]; exact hu) (by rw [Int.mul_one]; exact hr)
      rw [hx, Int.mul_one, hsv] at this
      exact this
    · rw [fz_no (by rw [← eX]; exact hr)]
      refine rescale_er _ _ s S p _ w (fun w => ?_)
      exact mulTo_up_full (decide (u < 0)) false (ab u) 1 s 0 S p w (ab_nn u) hu (by decide) h1M (ck_dz hs) c1 hS hp1 hp5 g (by omega) (by omega) ⟨s0, s1⟩ (by decide) (by rw [Int.mul_one]; exact hu) (by rw [Int.mul_one]; omega)
theorem rescale_e1 (b : Bool) (n s S p : Int) (w : World) (hn0 : 0 ≤ n) (hn : n < MM) (h : ck b n s ≠ 0) :
    Calls Tryd.prog 34 #[dc b n s, .int .i64 S, .int .i64 p] w fun e w' => e = .returned (er 20) ∧ Mo w w' :=
  rescale_er b n s S p 20 w (fun w => mulTo_e1 b false n 1 s 0 S p w hn0 hn (by decide) (by decide) (fun hh => h hh.1))
theorem rescale_e2 (b : Bool) (n s S p : Int) (w : World) (hn0 : 0 ≤ n) (hn : n < MM) (h : ck b n s = 0) (hS : sc S = false) :
    Calls Tryd.prog 34 #[dc b n s, .int .i64 S, .int .i64 p] w fun e w' => e = .returned (er 21) ∧ Mo w w' :=
  rescale_er b n s S p 21 w (fun w => mulTo_e2 b false n 1 s 0 S p w hn0 hn (by decide) (by decide) h (by decide) hS)
theorem rescale_e3 (b : Bool) (n s S p : Int) (w : World) (hn0 : 0 ≤ n) (hn : n < MM) (h : ck b n s = 0) (hS : sc S = true) (hp : p < 1 ∨ 5 < p) :
    Calls Tryd.prog 34 #[dc b n s, .int .i64 S, .int .i64 p] w fun e w' => e = .returned (er 22) ∧ Mo w w' :=
  rescale_er b n s S p 22 w (fun w => mulTo_e3 b false n 1 s 0 S p w hn0 hn (by decide) (by decide) h (by decide) hS hp)
end Go.Proofs.YtdcojpbgijkmgaaDoor
/-
  exciselaw02.begun answers true.
-/
namespace Go.Proofs.YtdcojpbgijkmgaaDoor
open Go.RowKit
theorem bg4 (w : World) : Calls Tryd.prog 34 #[dc true 75 2, .int .i64 1, .int .i64 1] w fun e w' => e = .returned (.tuple #[dc true 8 1, .int .i64 0]) ∧ Mo w w' := by
  have h := rescale_z (-75) 2 1 1 w (by decide) rfl rfl (by decide) (by decide)
  rw [show rsV (-75) 2 1 1 = -8 from by decide, fz_yes (by decide)] at h
  exact h
theorem guard_run {op : BinOp} {ty : TypeId} {a b : Array Value} {w : World} (x y : Operand) (hg : Tryd.prog.eqGuardType Tryd.prog.depth ty = false) : (eqGuard op ty x y (.agg a) (.agg b)).run Tryd.prog w = .ok () w := by
  unfold eqGuard
  cases op <;> simp [hg]
theorem eqa_run {ty : TypeId} {a b : Array Value} {r : Bool} {w : World} (hg : Tryd.prog.eqGuardType Tryd.prog.depth ty = false) (q : (Op.equalIn 10000 ty (.agg a) (.agg b)).run Tryd.prog w = .ok r w) (x y : Operand) :
    (do eqGuard .eql ty x y (.agg a) (.agg b); binOp .eql ty (.agg a) (.agg b)).run Tryd.prog w = .ok (.bool r) w := by
  have e : binOp .eql ty (.agg a) (.agg b) = (do pure (.bool (← Op.equalIn 10000 ty (.agg a) (.agg b)))) := rfl
  rw [Sem.run_bind, guard_run x y hg, e, Result.andThen_ok, Sem.run_bind, q]; rfl
theorem nea_run {ty : TypeId} {a b : Array Value} {r : Bool} {w : World} (hg : Tryd.prog.eqGuardType Tryd.prog.depth ty = false) (q : (Op.equalIn 10000 ty (.agg a) (.agg b)).run Tryd.prog w = .ok r w) (x y : Operand) :
    (do eqGuard .neq ty x y (.agg a) (.agg b); binOp .neq ty (.agg a) (.agg b)).run Tryd.prog w = .ok (.bool (!r)) w := by
  have e : binOp .neq ty (.agg a) (.agg b) = (do pure (.bool (!(← Op.equalIn 10000 ty (.agg a) (.agg b))))) := rfl
  rw [Sem.run_bind, guard_run x y hg, e, Result.andThen_ok, Sem.run_bind, q]; rfl
theorem gt40 : Tryd.prog.eqGuardType Tryd.prog.depth 26 = false := by kernel_rfl
theorem gt24 : Tryd.prog.eqGuardType Tryd.prog.depth 24 = false := by kernel_rfl
/-- == of two decimals. -/
theorem eqd_run {b c : Bool} {n0 n1 n2 n3 m0 m1 m2 m3 s t : Int} {r : Bool} (h : (b == c && (n0 == m0 && (n1 == m1 && (n2 == m2 && (n3 == m3 && s == t))))) = r) (x y : Operand) (w : World) :
    (do eqGuard .eql 26 x y (.agg #[.bool b, .int .u64 n0, .int .u64 n1, .int .u64 n2, .int .u64 n3, .int .i64 s]) (.agg #[.bool c, .int .u64 m0, .int .u64 m1, .int .u64 m2, .int .u64 m3, .int .i64 t]); binOp .eql 26 (.agg #[.bool b, .int .u64 n0, .int .u64 n1, .int .u64 n2, .int .u64 n3, .int .i64 s]) (.agg #[.bool c, .int .u64 m0, .int .u64 m1, .int .u64 m2, .int .u64 m3, .int .i64 t])).run Tryd.prog w = .ok (.bool r) w :=
  eqa_run gt40 (by rw [← h]; exact eq40 b c n0 n1 n2 n3 m0 m1 m2 m3 s t w) x y
theorem ned_run {b c : Bool} {n0 n1 n2 n3 m0 m1 m2 m3 s t : Int} {r : Bool} (h : (b == c && (n0 == m0 && (n1 == m1 && (n2 == m2 && (n3 == m3 && s == t))))) = r) (x y : Operand) (w : World) :
    (do eqGuard .neq 26 x y (.agg #[.bool b, .int .u64 n0, .int .u64 n1, .int .u64 n2, .int .u64 n3, .int .i64 s]) (.agg #[.bool c, .int .u64 m0, .int .u64 m1, .int .u64 m2, .int .u64 m3, .int .i64 t]); binOp .neq 26 (.agg #[.bool b, .int .u64 n0, .int .u64 n1, .int .u64 n2, .int .u64 n3, .int .i64 s]) (.agg #[.bool c, .int .u64 m0, .int .u64 m1, .int .u64 m2, .int .u64 m3, .int .i64 t])).run Tryd.prog w = .ok (.bool (!r)) w :=
  nea_run gt40 (by rw [← h]; exact eq40 b c n0 n1 n2 n3 m0 m1 m2 m3 s t w) x y
theorem eqn_run {n0 n1 n2 n3 m0 m1 m2 m3 : Int} {r : Bool} (h : (n0 == m0 && (n1 == m1 && (n2 == m2 && n3 == m3))) = r) (x y : Operand) (w : World) :
    (do eqGuard .eql 24 x y (.agg #[.int .u64 n0, .int .u64 n1, .int .u64 n2, .int .u64 n3]) (.agg #[.int .u64 m0, .int .u64 m1, .int .u64 m2, .int .u64 m3]); binOp .eql 24 (.agg #[.int .u64 n0, .int .u64 n1, .int .u64 n2, .int .u64 n3]) (.agg #[.int .u64 m0, .int .u64 m1, .int .u64 m2, .int .u64 m3])).run Tryd.prog w = .ok (.bool r) w :=
  eqa_run gt24 (by rw [← h]; exact eq4 n0 n1 n2 n3 m0 m1 m2 m3 w) x y
theorem nen_run {n0 n1 n2 n3 m0 m1 m2 m3 : Int} {r : Bool} (h : (n0 == m0 && (n1 == m1 && (n2 == m2 && n3 == m3))) = r) (x y : Operand) (w : World) :
    (do eqGuard .neq 24 x y (.agg #[.int .u64 n0, .int .u64 n1, .int .u64 n2, .int .u64 n3]) (.agg #[.int .u64 m0, .int .u64 m1, .int .u64 m2, .int .u64 m3]); binOp .neq 24 (.agg #[.int .u64 n0, .int .u64 n1, .int .u64 n2, .int .u64 n3]) (.agg #[.int .u64 m0, .int .u64 m1, .int .u64 m2, .int .u64 m3])).run Tryd.prog w = .ok (.bool (!r)) w :=
  nea_run gt24 (by rw [← h]; exact eq4 n0 n1 n2 n3 m0 m1 m2 m3 w) x y
theorem self6 (b : Bool) (n0 n1 n2 n3 s : Int) : (b == b && (n0 == n0 && (n1 == n1 && (n2 == n2 && (n3 == n3 && s == s))))) = true := by simp
end Go.Proofs.YtdcojpbgijkmgaaDoor
/-
  The document's Ten, whatever the number: the walk.
-/
namespace Go.Proofs.YtdcojpbgijkmgaaDoor
open Go.RowKit
set_option maxHeartbeats 1000000 in
theorem rten_no (n : Int) (w : World) (h : n < 0 ∨ 77 < n) :
    Calls Tryd.prog 35 #[.int .i64 n] w fun e w' => e = .returned (.tuple #[nv 0, .bool false]) ∧ Mo w w' := by
  have e : nv 0 = .agg #[.int .u64 0, .int .u64 0, .int .u64 0, .int .u64 0] := by simp [nv, l0, l1, l2, l3]
  rw [e]
  clear e
  by_cases hn : n < 0
  · clear h
    go_enter Tryd.func35, Tryd.ntmps35
    go_wp2
    refine bodyPost_ret (by simp [results, Tryd.results35, go_sem]; rfl) rfl ?_
    exact ⟨rfl, (Mo.refl _).alloc _ _⟩
  · have h7 : 77 < n := by omega
    clear h
    go_enter Tryd.func35, Tryd.ntmps35
    go_wp2
    refine bodyPost_ret (by simp [results, Tryd.results35, go_sem]; rfl) rfl ?_
    exact ⟨rfl, (Mo.refl _).alloc _ _⟩
theorem pow_lt (k : Nat) (h : k ≤ 77) : (0 : Int) < 10 ^ k ∧ (10 : Int) ^ k < MM := by
  refine ⟨Int.pow_pos (by decide), ?_⟩
  have h1 : (10 : Nat) ^ k ≤ 10 ^ 77 := Nat.pow_le_pow_right (by decide) h
  have h2 : (10 : Nat) ^ 77 < 115792089237316195423570985008687907853269984665640564039457584007913129639936 := by decide
  have h3 : ((10 ^ k : Nat) : Int) = (10 : Int) ^ k := by rw [Int.natCast_pow]; rfl
  rw [← h3]
  unfold MM
  omega
set_option maxHeartbeats 4000000 in
theorem rten_yes (n : Nat) (w : World) (h7 : n ≤ 77) :
    Calls Tryd.prog 35 #[.int .i64 n] w fun e w' => e = .returned (.tuple #[nv (10 ^ n), .bool true]) ∧ Mo w w' := by
  have hn : ¬ ((n : Int) < 0) := by omega
  have hn7 : ¬ (77 < (n : Int)) := by omega
  go_enter Tryd.func35, Tryd.ntmps35
  go_wp2_with fail
  refine (from34_any 1 _ ⟨by decide, by decide⟩).mono ?_
  rintro e w1 ⟨rfl, hm⟩
  have hz := hm.size
  simp only [World.size_alloc] at hz
  have hA : At4 w1 w.heap.size 0 0 0 0 := At4.mo (by simp [At4, go_sem]) hm (by simp)
  have hF : Fz w1 w.heap.size := Fz.mo (fun o => by simp [go_sem]) hm
  have hM : Mo w w1 := ((Mo.refl _).alloc _ _).trans hm
  have hS : TT w (w1.alloc (.cells #[.int .u64 (l0 1), .int .u64 (l1 1), .int .u64 (l2 1), .int .u64 (l3 1)] 24)) w1.heap.size 1 := by
    have z : w.heap.size < w1.heap.size := by omega
    exact ⟨hM.alloc _ _, z, by simp, hA.mo ((Mo.refl _).alloc _ _) z, hF.mo ((Mo.refl _).alloc _ _), by simp [At4, go_sem], fun o => by simp [go_sem]⟩
  have HS : Hid _ := hS
  clear hS hA hF
  go_wp2
  go_loopw [5] (fun i wr => ∃ k : Nat, k ≤ n ∧ i = .int .i64 k ∧ TT w wr w1.heap.size (10 ^ k)) (fun i _ => n - (intOf i).toNat)
  case atStart => exact ⟨0, Nat.zero_le _, rfl, HS.out⟩
  case round =>
    obtain ⟨k, hk, rfl, ht⟩ := hrel
    by_cases hlt : k < n
    · have pk := pow_lt k (by omega)
      have hstep : Hid (10 ^ k * 10 = (10 : Int) ^ (k + 1)) := (Int.pow_succ 10 k).symm
      obtain ⟨P, hP⟩ : ∃ P : Int, P = 10 ^ k := ⟨_, rfl⟩
      rw [← hP] at ht pk hstep
      have HP : Hid _ := hP
      clear hP
      have dk : decide ((k : Int) < (n : Int)) = true := decide_eq_true (by omega)
      go_upto_region 7 with fail
      have ht0 := ht
      obtain ⟨g1, g2, g3, ⟨c0, c1, c2, c3⟩, g5, ⟨b0, b1, b2, b3⟩, g7⟩ := ht0
      clear g5 g7
      go_region_with
        (first | (go_at_call 55; refine (from34_any 10 _ ⟨by decide, by decide⟩).mono ?_; rintro e w5 ⟨rfl, hm5⟩; have m5 : Mo wr w5 := Mo.trans (by repeat (first | with_reducible exact Mo.refl _ | with_reducible apply Mo.drew | with_reducible apply Mo.alloc)) hm5; obtain ⟨_, _, _, _, _, ⟨x0, x1, x2, x3⟩, _⟩ := ht.mo m5) | (go_at_call 36; refine (rmul_n P 10 _ (by omega) pk.2 (by decide) (by decide)).mono ?_; rintro e w6 ⟨rfl, hm6⟩; have m6 : Mo w5 w6 := Mo.trans (by repeat (first | with_reducible exact Mo.refl _ | with_reducible apply Mo.drew | with_reducible apply Mo.alloc)) hm6; have m7 := m5.trans m6; obtain ⟨_, _, zs, _, _, ⟨z0, z1, z2, z3⟩, zf⟩ := ht.mo m7; have zf := fun o => zf o))
      all_goals
        go_wp2
        go_roundw
        case rel =>
          refine ⟨k + 1, by omega, by go_num, ?_⟩
          rw [← hstep.out]
          exact (ht.mo m7).put
        case measure => simp [intOf]; omega
    · have hkn : k = n := by omega
      subst hkn
      obtain ⟨g1, g2, g3, ⟨c0, c1, c2, c3⟩, g5, ⟨b0, b1, b2, b3⟩, g7⟩ := ht
      have g5 := fun o => g5 o
      go_wp2
      refine bodyPost_ret (v := .tuple #[nv (10 ^ k), .bool true]) (by simp [results, Tryd.results35, go_sem, c0, c1, c2, c3]) rfl ?_
      refine ⟨rfl, ?_⟩
      exact (((g1.setCell (Nat.le_refl _) _).setCell (Nat.le_refl _) _).setCell (Nat.le_refl _) _).setCell (Nat.le_refl _) _
end Go.Proofs.YtdcojpbgijkmgaaDoor
/-
  The document's Check, both, cmp, shift: the walks.
-/
namespace Go.Proofs.YtdcojpbgijkmgaaDoor
open Go.RowKit
set_option maxHeartbeats 2000000 in
theorem rcheck_n (b : Bool) (n s : Int) (w : World) (hn0 : 0 ≤ n) (hn : n < MM) : Calls Tryd.prog 19 #[dc b n s] w fun e w' => e = .returned (.int .i64 (ck b n s)) ∧ Mo w w' := by
  have q4 := eq4
  have z4 := zb hn0 hn
  by_cases h1 : s < 0
  · have d1 : decide (s < 0) = true := decide_eq_true h1
    have e : Hid (ck b n s = 20) := by show _ = _; unfold ck sc; rw [decide_eq_false (p := 0 ≤ s) (by omega)]; rfl
    clear h1
    go_enter Tryd.func19, Tryd.ntmps19
    go_wp2
    go_ret
    exact ⟨by rw [e.out]; rfl, (Mo.refl _).alloc _ _⟩
  · by_cases h2 : s > 18
    · have d1 : decide (s < 0) = false := decide_eq_false h1
      have d2 : decide (s > 18) = true := decide_eq_true h2
      have e : Hid (ck b n s = 20) := by show _ = _; unfold ck sc; rw [decide_eq_false (p := s ≤ 18) (by omega)]; simp
      clear h1 h2
      go_enter Tryd.func19, Tryd.ntmps19
      go_wp2
      go_ret
      exact ⟨by rw [e.out]; rfl, (Mo.refl _).alloc _ _⟩
    · have d1 : decide (s < 0) = false := decide_eq_false h1
      have d2 : decide (s > 18) = false := decide_eq_false h2
      have e : Hid (sc s = true) := by show _ = _; unfold sc; rw [decide_eq_true (p := 0 ≤ s) (by omega), decide_eq_true (p := s ≤ 18) (by omega)]; rfl
      clear h1 h2
      cases hb : b <;> cases hz : decide (n = 0)
      all_goals
        rw [hz] at z4
        have HZ : Hid _ := hz
        clear hz
        go_enter Tryd.func19, Tryd.ntmps19
        go_wp2
        go_ret
        exact ⟨by rw [ck, e.out, HZ.out]; rfl, (Mo.refl _).alloc _ _⟩
theorem rcheck_ok (b : Bool) (n s : Int) (w : World) (hn0 : 0 ≤ n) (hn : n < MM) (h : ck b n s = 0) : Calls Tryd.prog 19 #[dc b n s] w fun e w' => e = .returned (.int .i64 0) ∧ Mo w w' := by
  have := rcheck_n b n s w hn0 hn
  rw [h] at this
  exact this
theorem rcheck_no (b : Bool) (n s : Int) (w : World) (hn0 : 0 ≤ n) (hn : n < MM) (h : ck b n s ≠ 0) : Calls Tryd.prog 19 #[dc b n s] w fun e w' => e = .returned (.int .i64 20) ∧ Mo w w' := by
  have := rcheck_n b n s w hn0 hn
  rw [ck_20 h] at this
  exact this
end Go.Proofs.YtdcojpbgijkmgaaDoor
/-
  Trim, the program's and the document's.
-/
namespace Go.Proofs.YtdcojpbgijkmgaaDoor
open Go.RowKit
abbrev dcl (b : Bool) (n s : Int) : List Value := [.bool b, .int .u64 (l0 n), .int .u64 (l1 n), .int .u64 (l2 n), .int .u64 (l3 n), .int .i64 s]
abbrev dcr (b : Bool) (n s : Int) : Array Value := #[.bool b, .int .u64 (l0 n), .int .u64 (l1 n), .int .u64 (l2 n), .int .u64 (l3 n), .int .i64 s]
abbrev nvli (n : Int) : List Value := [.int .u64 (l0 n), .int .u64 (l1 n), .int .u64 (l2 n), .int .u64 (l3 n)]
abbrev nvar (n : Int) : Array Value := #[.int .u64 (l0 n), .int .u64 (l1 n), .int .u64 (l2 n), .int .u64 (l3 n)]
abbrev z40l : List Value := [.bool false, .int .u64 0, .int .u64 0, .int .u64 0, .int .u64 0, .int .i64 0]
/-- A number with as few digits behind the point as it needs. -/
def trN : Nat → Int → Int × Nat
  | 0, n => (n, 0)
  | k + 1, n => if n % 10 = 0 then trN k (n / 10) else (n, k + 1)
theorem gtr0_run {a b : Int} (h : decide (a > b) = false) (x y : Operand) (w : World) : (do eqGuard .gtr 3 x y (.int .i64 a) (.int .i64 b); binOp .gtr 3 (.int .i64 a) (.int .i64 b)).run Tryd.prog w = .ok (.bool false) w := by
  rw [← h]; kernel_rfl
theorem gtr1_run {a b : Int} (h : decide (a > b) = true) (x y : Operand) (w : World) : (do eqGuard .gtr 3 x y (.int .i64 a) (.int .i64 b); binOp .gtr 3 (.int .i64 a) (.int .i64 b)).run Tryd.prog w = .ok (.bool true) w := by
  rw [← h]; kernel_rfl
theorem sub1_run {k : Nat} (hk : k ≤ 18) (x y : Operand) (w : World) : (do eqGuard .sub 3 x y (.int .i64 ((k + 1 : Nat) : Int)) (.int .i64 1); binOp .sub 3 (.int .i64 ((k + 1 : Nat) : Int)) (.int .i64 1)).run Tryd.prog w = .ok (.int .i64 (k : Int)) w := by
  have e : (do eqGuard .sub 3 x y (.int .i64 ((k + 1 : Nat) : Int)) (.int .i64 1); binOp .sub 3 (.int .i64 ((k + 1 : Nat) : Int)) (.int .i64 1)).run Tryd.prog w = .ok (.int .i64 (IntKind.i64.wrap (((k + 1 : Nat) : Int) - 1))) w := by kernel_rfl
  have h : IntKind.i64.wrap (((k + 1 : Nat) : Int) - 1) = (k : Int) := by rw [IntKind.wrap_i64]; omega
  rw [e, h]
theorem ten1_n (w : World) : Calls Tryd.prog 49 #[.int .i64 1] w fun e w' => e = .returned (nv 10) ∧ Mo w w' := dten_n 1 w (by decide)
theorem from69_n (w : World) : Calls Tryd.prog 55 #[.int .u64 10] w fun e w' => e = .returned (nv 10) ∧ Mo w w' := from34_any 10 w ⟨by decide, by decide⟩
theorem div10_n (n : Int) (w : World) (h0 : 0 ≤ n) (h : n < MM) : Calls Tryd.prog 48 #[.agg #[.int .u64 0, .int .u64 0, .int .u64 0, .int .u64 0], nv n, nv 10] w fun e w' => e = .returned (.tuple #[nv (n / 10), nv (n % 10), .bool true]) ∧ Mo w w' := by
  have := div_n 0 n 10 w (by decide) (by decide) h0 h (by decide) (by decide)
  have e1 : dq 0 n 10 = n / 10 := by unfold dq; rw [if_neg (by decide)]; simp
  have e2 : dr 0 n 10 = n % 10 := by unfold dr; rw [if_neg (by decide)]; simp
  have e3 : dok 0 10 = true := rfl
  rw [e1, e2, e3] at this
  exact this
/-- Two new blocks in slots that hold older ones, or nothing. -/
theorem Ds.two {sp : List Sp} {f : Nat → Value} {w : World} (i j : Nat) (h : ∀ q, spNew (spAt sp q) = true → q = i ∨ q = j) (h1 : ∀ k, f i = pt k 0 → k < w.heap.size) (h2 : ∀ k, f j = pt k 0 → k < w.heap.size) (h3 : ∀ k, f i = pt k 0 → f j ≠ pt k 0) : Ds sp f w := by
  refine ⟨fun q hq k hk => ?_, fun q r hq hr hne k hk hk2 => ?_⟩
  · rcases h q hq with rfl | rfl
    · exact h1 k hk
    · exact h2 k hk
  · rcases h q hq with rfl | rfl <;> rcases h r hr with rfl | rfl
    · exact hne rfl
    · exact h3 k hk hk2
    · exact h3 k hk2 hk
    · exact hne rfl
theorem trim_no (b : Bool) (n0 s0 : Int) (w : World) (hn0 : 0 ≤ n0) (hnM : n0 < MM) (hck : ck b n0 s0 ≠ 0) :
    Calls Tryd.prog 25 #[dc b n0 s0] w fun e' w' => e' = .returned (er 20) ∧ Mo w w' := by
  refine w_enter 36 Tryd.func25 Tryd.ntmps25 rfl rfl ?_
  have M : Mo w w := Mo.refl _
  refine w_seq ?_
  refine w_reg ?_
  refine wl_box 26 (.tmp 0) (dc b (n0) (s0)) ((dcr b (n0) (s0))) rfl rfl (fun _ => by kernel_rfl) rfl ?_
  intro k1 w1 hk hz hq Q1
  have N_k1 : w.heap.size ≤ k1 := by have := M.size; omega
  replace M := M.trans hq
  clear hk hz hq
  refine wl_alloc 26 #[.bool false, .int .u64 0, .int .u64 0, .int .u64 0, .int .u64 0, .int .i64 0] rfl (fun _ => by kernel_rfl) rfl ?_
  intro k2 w2 hk hz hq Q2
  have ne_k1_k2 : k1 ≠ k2 := by have := Q1.lt; omega
  have N_k2 : w.heap.size ≤ k2 := by have := M.size; omega
  replace Q1 := Q1.mo hq
  replace M := M.trans hq
  clear hk hz hq
  refine wl_mv (.const (.int .i64 (0))) (.int .i64 (0)) (fun _ => rfl) rfl rfl ?_
  refine w_nil ?_
  refine xn_then ?_
  refine w_seq ?_
  refine w_seq ?_
  refine w_reg ?_
  refine wl_load 26 (.tmp 1) (pt k1 0) (dc b (n0) (s0)) rfl rfl (run_row Q1 26 0 6 (dcl b (n0) (s0)) rfl Tryd.underlying26 rfl sz40) rfl ?_
  refine wl_call 21 [(.tmp 8)] _ [dc b (n0) (s0)] (.int .i64 (20)) rfl rfl (fun _ _ => by kernel_rfl) (check_no b n0 s0 _ hn0 hnM hck) rfl ?_
  intro w3 hq
  replace Q1 := Q1.mo hq
  replace Q2 := Q2.mo hq
  replace M := M.trans hq
  clear hq
  refine wl_mv (.tmp 9) (.int .i64 (20)) (fun _ => rfl) rfl rfl ?_
  refine w_nil ?_
  refine xn_then ?_
  refine w_seq ?_
  refine w_reg ?_
  refine wl_mv (.tmp 4) (.int .i64 (20)) (fun _ => rfl) rfl rfl ?_
  refine wl_bin (fun x y => do eqGuard .neq 30 (.tmp 10) (.const (.int .i64 (0))) x y; binOp .neq 30 x y) (.tmp 10) (.const (.int .i64 (0))) (.int .i64 (20)) (.int .i64 (0)) (.bool true) (fun _ => rfl) rfl rfl (by kernel_rfl) rfl ?_
  refine w_nil ?_
  refine xn_then ?_
  refine w_condT rfl ?_
  refine w_seq ?_
  refine w_reg ?_
  refine wl_build 26 [] [] (.agg #[.bool false, .int .u64 0, .int .u64 0, .int .u64 0, .int .u64 0, .int .i64 0]) rfl rfl (by kernel_rfl) rfl ?_
  refine wl_mv (.tmp 4) (.int .i64 (20)) (fun _ => rfl) rfl rfl ?_
  refine wl_st 26 (.tmp 2) (.tmp 12) k2 0 #[.bool false, .int .u64 0, .int .u64 0, .int .u64 0, .int .u64 0, .int .i64 0] [.bool false, .int .u64 0, .int .u64 0, .int .u64 0, .int .u64 0, .int .i64 0] [.bool false, .int .u64 0, .int .u64 0, .int .u64 0, .int .u64 0, .int .i64 0] Q2 rfl rfl rfl rfl rfl sz40 rfl rfl rfl ?_
  intro w4 hS Qn
  replace Q2 := Qn
  clear Qn
  replace Q1 := hS.other _ _ ne_k1_k2 Q1
  replace M := hS.mo _ N_k2 M
  clear hS
  refine wl_mv (.tmp 13) (.int .i64 (20)) (fun _ => rfl) rfl rfl ?_
  refine w_nil ?_
  refine xn_then ?_
  refine w_ret ?_
  refine xr_then ?_
  exact w_ret2 _ _ (.agg #[.bool false, .int .u64 0, .int .u64 0, .int .u64 0, .int .u64 0, .int .i64 0]) (.int .i64 (20)) rfl ⟨k2, rfl, (run_row Q2 26 0 6 [.bool false, .int .u64 0, .int .u64 0, .int .u64 0, .int .u64 0, .int .i64 0] rfl Tryd.underlying26 rfl sz40)⟩ rfl ⟨rfl, M⟩
theorem trim_ok (b : Bool) (n0 : Int) (k0 : Nat) (w : World) (hn0 : 0 ≤ n0) (hnM : n0 < MM) (hk18 : k0 ≤ 18) (hck : ck b n0 (k0 : Int) = 0) :
    Calls Tryd.prog 25 #[dc b n0 (k0 : Int)] w fun e' w' => e' = .returned (.tuple #[dc b (trN k0 n0).1 ((trN k0 n0).2 : Nat), .int .i64 0]) ∧ Mo w w' := by
  refine w_enter 36 Tryd.func25 Tryd.ntmps25 rfl rfl ?_
  have M : Mo w w := Mo.refl _
  refine w_seq ?_
  refine w_reg ?_
  refine wl_box 26 (.tmp 0) (dc b (n0) (k0)) ((dcr b (n0) (k0))) rfl rfl (fun _ => by kernel_rfl) rfl ?_
  intro k1 w1 hk hz hq Q1
  have N_k1 : w.heap.size ≤ k1 := by have := M.size; omega
  replace M := M.trans hq
  clear hk hz hq
  refine wl_alloc 26 #[.bool false, .int .u64 0, .int .u64 0, .int .u64 0, .int .u64 0, .int .i64 0] rfl (fun _ => by kernel_rfl) rfl ?_
  intro k2 w2 hk hz hq Q2
  have ne_k1_k2 : k1 ≠ k2 := by have := Q1.lt; omega
  have N_k2 : w.heap.size ≤ k2 := by have := M.size; omega
  replace Q1 := Q1.mo hq
  replace M := M.trans hq
  clear hk hz hq
  refine wl_mv (.const (.int .i64 (0))) (.int .i64 (0)) (fun _ => rfl) rfl rfl ?_
  refine w_nil ?_
  refine xn_then ?_
  refine w_seq ?_
  refine w_seq ?_
  refine w_reg ?_
  refine wl_load 26 (.tmp 1) (pt k1 0) (dc b (n0) (k0)) rfl rfl (run_row Q1 26 0 6 (dcl b (n0) (k0)) rfl Tryd.underlying26 rfl sz40) rfl ?_
  refine wl_call 21 [(.tmp 8)] _ [dc b (n0) (k0)] (.int .i64 (0)) rfl rfl (fun _ _ => by kernel_rfl) (check_ok b n0 (k0 : Int) _ hn0 hnM hck) rfl ?_
  intro w3 hq
  replace Q1 := Q1.mo hq
  replace Q2 := Q2.mo hq
  replace M := M.trans hq
  clear hq
  refine wl_mv (.tmp 9) (.int .i64 (0)) (fun _ => rfl) rfl rfl ?_
  refine w_nil ?_
  refine xn_then ?_
  refine w_seq ?_
  refine w_reg ?_
  refine wl_mv (.tmp 4) (.int .i64 (0)) (fun _ => rfl) rfl rfl ?_
  refine wl_bin (fun x y => do eqGuard .neq 30 (.tmp 10) (.const (.int .i64 (0))) x y; binOp .neq 30 x y) (.tmp 10) (.const (.int .i64 (0))) (.int .i64 (0)) (.int .i64 (0)) (.bool false) (fun _ => rfl) rfl rfl (by kernel_rfl) rfl ?_
  refine w_nil ?_
  refine xn_then ?_
  refine w_condF rfl ?_
  refine w_skip ?_
  refine xn_then ?_
  refine w_seq ?_
  refine w_block ?_
  refine w_loop (fun m l w1 => ∃ n : Int, 0 ≤ n ∧ n < MM ∧ trN m n = trN k0 n0 ∧ look l 1 = pt k1 0 ∧ look l 2 = pt k2 0 ∧ At w1 k1 (dcl b (n) ((m : Int))) ∧ At w1 k2 [.bool false, .int .u64 0, .int .u64 0, .int .u64 0, .int .u64 0, .int .i64 0] ∧ Mo w w1 ∧ (∀ k, look l 5 = pt k 0 → k < w1.heap.size) ∧ (∀ k, look l 6 = pt k 0 → k < w1.heap.size) ∧ (∀ k, look l 5 = pt k 0 → look l 6 ≠ pt k 0) ∧ m ≤ 18) k0 ⟨n0, hn0, hnM, rfl, rfl, rfl, Q1, Q2, M, (fun k h => by cases h), (fun k h => by cases h), (fun k h => by cases h), hk18⟩ ?_
  clear M Q1 Q2
  rintro m l wl ⟨n, hn, hnm, ht, e1, e2, Q1, Q2, M, d5, d6, d56, hm18⟩
  rcases m with _ | k
  · have hk : decide ((0 : Int) > 0) = false := rfl
    have htr : trN 0 n = (n, 0) := rfl
    refine w_seq ?_
    refine w_seq ?_
    refine w_reg ?_
    refine wl_un (fun v => Instr.fieldAt 26 v 2) (.tmp 1) (pt k1 0) (pt k1 5) (fun _ => rfl) e1 (by kernel_rfl) rfl ?_
    refine wl_load 3 (.tmp 14) (pt k1 5) (.int .i64 (((0 : Nat) : Int))) rfl rfl (run_one Q1 3 5 rfl Tryd.underlying3 rfl) rfl ?_
    refine wl_bin (fun x y => do eqGuard .gtr 3 (.tmp 15) (.const (.int .i64 (0))) x y; binOp .gtr 3 x y) (.tmp 15) (.const (.int .i64 (0))) (.int .i64 (((0 : Nat) : Int))) (.int .i64 (0)) (.bool false) (fun _ => rfl) rfl rfl (gtr0_run hk _ _ _) rfl ?_
    refine w_nil ?_
    refine xn_then ?_
    refine w_condF rfl ?_
    refine w_exit ?_
    refine xx_then ?_
    refine xx_then ?_
    refine xx_blk ?_
    refine xn_then ?_
    refine w_seq ?_
    refine w_reg ?_
    refine wl_load 26 (.tmp 1) (pt k1 0) (dc b (n) (((0 : Nat) : Int))) rfl e1 (run_row Q1 26 0 6 (dcl b (n) (((0 : Nat) : Int))) rfl Tryd.underlying26 rfl sz40) rfl ?_
    refine wl_st 26 (.tmp 2) (.tmp 35) k2 0 (dcr b (n) (((0 : Nat) : Int))) [.bool false, .int .u64 0, .int .u64 0, .int .u64 0, .int .u64 0, .int .i64 0] (dcl b (n) (((0 : Nat) : Int))) Q2 rfl rfl e2 rfl rfl sz40 rfl rfl rfl ?_
    intro w51 hS Qn
    replace Q2 := Qn
    clear Qn
    replace Q1 := hS.other _ _ ne_k1_k2 Q1
    replace M := hS.mo _ N_k2 M
    clear hS
    refine wl_mv (.const (.int .i64 (0))) (.int .i64 (0)) (fun _ => rfl) rfl rfl ?_
    refine w_nil ?_
    refine xn_then ?_
    refine w_ret ?_
    exact w_ret2 _ _ (dc b (n) (((0 : Nat) : Int))) (.int .i64 (0)) rfl ⟨k2, e2, (run_row Q2 26 0 6 (dcl b (n) (((0 : Nat) : Int))) rfl Tryd.underlying26 rfl sz40)⟩ rfl ⟨by rw [← ht, htr], M⟩
  · have hk : decide (((k + 1 : Nat) : Int) > 0) = true := decide_eq_true (by omega)
    by_cases hr : n % 10 = 0
    · have hz : (l0 (n % 10) == 0 && (l1 (n % 10) == 0 && (l2 (n % 10) == 0 && l3 (n % 10) == 0))) = true := by rw [zb (by omega) (by unfold MM; omega)]; exact decide_eq_true hr
      have htr : trN (k + 1) n = trN k (n / 10) := by show (if n % 10 = 0 then trN k (n / 10) else (n, k + 1)) = _; rw [if_pos hr]
      refine w_seq ?_
      refine w_seq ?_
      refine w_reg ?_
      refine wl_un (fun v => Instr.fieldAt 26 v 2) (.tmp 1) (pt k1 0) (pt k1 5) (fun _ => rfl) e1 (by kernel_rfl) rfl ?_
      refine wl_load 3 (.tmp 14) (pt k1 5) (.int .i64 (((k + 1 : Nat) : Int))) rfl rfl (run_one Q1 3 5 rfl Tryd.underlying3 rfl) rfl ?_
      refine wl_bin (fun x y => do eqGuard .gtr 3 (.tmp 15) (.const (.int .i64 (0))) x y; binOp .gtr 3 x y) (.tmp 15) (.const (.int .i64 (0))) (.int .i64 (((k + 1 : Nat) : Int))) (.int .i64 (0)) (.bool true) (fun _ => rfl) rfl rfl (gtr1_run hk _ _ _) rfl ?_
      refine w_nil ?_
      refine xn_then ?_
      refine w_condT rfl ?_
      refine w_skip ?_
      refine xn_then ?_
      refine w_block ?_
      refine w_seq ?_
      refine w_any 11 [.inl (.agg #[.int .u64 0, .int .u64 0, .int .u64 0, .int .u64 0]), .inl (pt k1 1), .inl (.agg #[.int .u64 (l0 (n)), .int .u64 (l1 (n)), .int .u64 (l2 (n)), .int .u64 (l3 (n))]), .inl (nv (10)), .inl (.tuple #[nv (n / 10), nv (n % 10), .bool true]), .inl (.tuple #[nv (n / 10), nv (n % 10), .bool true]), .inl (nv (n / 10)), .inl (nv (n % 10)), .inl (.bool true), .inr [.int .u64 0, .int .u64 0, .int .u64 0, .int .u64 0], .inr [.int .u64 0, .int .u64 0, .int .u64 0, .int .u64 0]] [7, 8] (by kernel_rfl) (by kernel_rfl) (by kernel_rfl) (by kernel_rfl) rfl (by kernel_rfl) (by kernel_rfl) (late_cons ⟨_, _, rfl, rfl, fun _ _ _ _ h => h, fun f hd => ⟨rfl, la_un (fun v => Instr.extract v 1) (.tmp 17) (.tuple #[nv (n / 10), nv (n % 10), .bool true]) (nv (n % 10)) (fun _ => rfl) (hd 5 rfl _ rfl) (fun w => by kernel_rfl)⟩⟩ (late_cons ⟨_, _, rfl, rfl, fun _ _ _ _ h => h, fun f hd => ⟨rfl, la_un (fun v => Instr.extract v 2) (.tmp 17) (.tuple #[nv (n / 10), nv (n % 10), .bool true]) (.bool true) (fun _ => rfl) (hd 5 rfl _ rfl) (fun w => by kernel_rfl)⟩⟩ late_nil)) ?_ ?_ ?_
      · exact Ds.two 9 10 (fun q hq => by rcases q with _ | _ | _ | _ | _ | _ | _ | _ | _ | _ | _ | q <;> first | (left; rfl) | (right; rfl) | cases hq) d5 d6 d56
      · refine ea_cons ?_ (ea_cons ?_ (ea_cons ?_ (ea_cons ?_ (ea_cons ?_ (ea_cons ?_ (ea_cons ?_ (ea_cons ?_ (ea_cons ?_ (ea_cons ?_ (ea_cons ?_ (ea_nil)))))))))))
        · exact og_eq (.agg #[.int .u64 0, .int .u64 0, .int .u64 0, .int .u64 0]) rfl (fun f wf hq hd K hK => go_run rfl (wo_build 24 [] [] (.agg #[.int .u64 0, .int .u64 0, .int .u64 0, .int .u64 0]) rfl rfl (by kernel_rfl) (hK _ (Mo.refl _))))
        · exact og_eq (pt k1 1) rfl (fun f wf hq hd K hK => go_run rfl (wo_un (fun v => Instr.fieldAt 26 v 1) (.tmp 1) (pt k1 0) (pt k1 1) (fun _ => rfl) e1 (by kernel_rfl) (hK _ (Mo.refl _))))
        · exact og_eq (.agg #[.int .u64 (l0 (n)), .int .u64 (l1 (n)), .int .u64 (l2 (n)), .int .u64 (l3 (n))]) rfl (fun f wf hq hd K hK => have Q1 := Q1.mo hq; go_run rfl (wo_load 24 (.tmp 19) (pt k1 1) (.agg #[.int .u64 (l0 (n)), .int .u64 (l1 (n)), .int .u64 (l2 (n)), .int .u64 (l3 (n))]) rfl (hd 1 rfl) (run_row Q1 24 1 4 [.int .u64 (l0 (n)), .int .u64 (l1 (n)), .int .u64 (l2 (n)), .int .u64 (l3 (n))] rfl Tryd.underlying24 rfl sz24) (hK _ (Mo.refl _))))
        · exact og_eq (nv (10)) rfl (fun f wf hq hd K hK => go_run rfl (wo_call 49 [(.const (.int .i64 (1)))] _ [.int .i64 (1)] (nv (10)) rfl rfl (fun _ _ => by kernel_rfl) (ten1_n _) hK))
        · exact og_eq (.tuple #[nv (n / 10), nv (n % 10), .bool true]) rfl (fun f wf hq hd K hK => go_run rfl (wo_call 48 [(.tmp 18), (.tmp 20), (.tmp 21)] _ [.agg #[.int .u64 0, .int .u64 0, .int .u64 0, .int .u64 0], .agg #[.int .u64 (l0 (n)), .int .u64 (l1 (n)), .int .u64 (l2 (n)), .int .u64 (l3 (n))], nv (10)] (.tuple #[nv (n / 10), nv (n % 10), .bool true]) rfl (li3 (hd 0 rfl) (hd 2 rfl) (hd 3 rfl)) (fun _ _ => by kernel_rfl) (div10_n n _ hn hnm) hK))
        · exact og_eq (.tuple #[nv (n / 10), nv (n % 10), .bool true]) rfl (fun f wf hq hd K hK => go_run rfl (wo_mv (.tmp 22) (.tuple #[nv (n / 10), nv (n % 10), .bool true]) (fun _ => rfl) (hd 4 rfl) (hK _ (Mo.refl _))))
        · exact og_eq (nv (n / 10)) rfl (fun f wf hq hd K hK => go_run rfl (wo_un (fun v => Instr.extract v 0) (.tmp 17) (.tuple #[nv (n / 10), nv (n % 10), .bool true]) (nv (n / 10)) (fun _ => rfl) (hd 5 rfl) (by kernel_rfl) (hK _ (Mo.refl _))))
        · exact og_eq (nv (n % 10)) rfl (fun f wf hq hd K hK => go_run rfl (wo_un (fun v => Instr.extract v 1) (.tmp 17) (.tuple #[nv (n / 10), nv (n % 10), .bool true]) (nv (n % 10)) (fun _ => rfl) (hd 5 rfl) (by kernel_rfl) (hK _ (Mo.refl _))))
        · exact og_eq (.bool true) rfl (fun f wf hq hd K hK => go_run rfl (wo_un (fun v => Instr.extract v 2) (.tmp 17) (.tuple #[nv (n / 10), nv (n % 10), .bool true]) (.bool true) (fun _ => rfl) (hd 5 rfl) (by kernel_rfl) (hK _ (Mo.refl _))))
        · exact og_new [.int .u64 0, .int .u64 0, .int .u64 0, .int .u64 0] rfl (fun f wf hq hd K hK => go_run rfl (wo_alloc 24 #[.int .u64 0, .int .u64 0, .int .u64 0, .int .u64 0] rfl (fun _ => by kernel_rfl) hK))
        · exact og_new [.int .u64 0, .int .u64 0, .int .u64 0, .int .u64 0] rfl (fun f wf hq hd K hK => go_run rfl (wo_alloc 24 #[.int .u64 0, .int .u64 0, .int .u64 0, .int .u64 0] rfl (fun _ => by kernel_rfl) hK))
      intro kf51 w51 hq hR hne
      obtain ⟨N_k51, Q51⟩ := hR 9 _ rfl rfl
      obtain ⟨N_k52, Q52⟩ := hR 10 _ rfl rfl
      have ne_k1_k51 : k1 ≠ (kf51 9) := by have := Q1.lt; omega
      have ne_k2_k51 : k2 ≠ (kf51 9) := by have := Q2.lt; omega
      have ne_k51_k52 := hne 9 10 rfl rfl rfl rfl (by decide)
      replace N_k51 := Nat.le_trans M.size N_k51
      have ne_k1_k52 : k1 ≠ (kf51 10) := by have := Q1.lt; omega
      have ne_k2_k52 : k2 ≠ (kf51 10) := by have := Q2.lt; omega
      replace N_k52 := Nat.le_trans M.size N_k52
      replace Q1 := Q1.mo hq
      replace Q2 := Q2.mo hq
      replace M := M.trans hq
      clear hq hR hne
      refine wl_st 24 (.tmp 5) (.tmp 23) (kf51 9) 0 (nvar (n / 10)) [.int .u64 0, .int .u64 0, .int .u64 0, .int .u64 0] (nvli (n / 10)) Q51 rfl rfl rfl rfl rfl sz24 rfl rfl rfl ?_
      intro w52 hS Qn
      replace Q51 := Qn
      clear Qn
      replace Q1 := hS.other _ _ ne_k1_k51 Q1
      replace Q2 := hS.other _ _ ne_k2_k51 Q2
      replace Q52 := hS.other _ _ ne_k51_k52.symm Q52
      replace M := hS.mo _ N_k51 M
      clear hS
      refine wl_st 24 (.tmp 6) (.tmp 24) (kf51 10) 0 (nvar (n % 10)) [.int .u64 0, .int .u64 0, .int .u64 0, .int .u64 0] (nvli (n % 10)) Q52 rfl rfl rfl rfl rfl sz24 rfl rfl rfl ?_
      intro w53 hS Qn
      replace Q52 := Qn
      clear Qn
      replace Q1 := hS.other _ _ ne_k1_k52 Q1
      replace Q2 := hS.other _ _ ne_k2_k52 Q2
      replace Q51 := hS.other _ _ ne_k51_k52 Q51
      replace M := hS.mo _ N_k52 M
      clear hS
      refine wl_mv (.tmp 25) (.bool true) (fun _ => rfl) rfl rfl ?_
      refine w_nil ?_
      refine xn_then ?_
      refine w_seq ?_
      refine w_seq ?_
      refine w_reg ?_
      refine wl_load 24 (.tmp 6) (pt (kf51 10) 0) (nv (n % 10)) rfl rfl (run_row Q52 24 0 4 (nvli (n % 10)) rfl Tryd.underlying24 rfl sz24) rfl ?_
      refine wl_build 24 [] [] (.agg #[.int .u64 0, .int .u64 0, .int .u64 0, .int .u64 0]) rfl rfl (by kernel_rfl) rfl ?_
      refine wl_bin (fun x y => do eqGuard .neq 24 (.tmp 26) (.tmp 27) x y; binOp .neq 24 x y) (.tmp 26) (.tmp 27) (nv (n % 10)) (.agg #[.int .u64 0, .int .u64 0, .int .u64 0, .int .u64 0]) (.bool false) (fun _ => rfl) rfl rfl (nen_run (r := true) hz _ _ _) rfl ?_
      refine w_nil ?_
      refine xn_then ?_
      refine w_condF rfl ?_
      refine w_skip ?_
      refine xn_then ?_
      refine w_seq ?_
      refine w_reg ?_
      refine wl_load 24 (.tmp 5) (pt (kf51 9) 0) (nv (n / 10)) rfl rfl (run_row Q51 24 0 4 (nvli (n / 10)) rfl Tryd.underlying24 rfl sz24) rfl ?_
      refine wl_un (fun v => Instr.fieldAt 26 v 1) (.tmp 1) (pt k1 0) (pt k1 1) (fun _ => rfl) e1 (by kernel_rfl) rfl ?_
      refine wl_st 24 (.tmp 30) (.tmp 29) k1 1 (nvar (n / 10)) (dcl b (n) (((k + 1 : Nat) : Int))) [.bool b, .int .u64 (l0 (n / 10)), .int .u64 (l1 (n / 10)), .int .u64 (l2 (n / 10)), .int .u64 (l3 (n / 10)), .int .i64 (((k + 1 : Nat) : Int))] Q1 rfl rfl rfl rfl rfl sz24 rfl rfl rfl ?_
      intro w54 hS Qn
      replace Q1 := Qn
      clear Qn
      replace Q2 := hS.other _ _ ne_k1_k2.symm Q2
      replace Q51 := hS.other _ _ ne_k1_k51.symm Q51
      replace Q52 := hS.other _ _ ne_k1_k52.symm Q52
      replace M := hS.mo _ N_k1 M
      clear hS
      refine w_nil ?_
      refine xn_then ?_
      refine w_reg ?_
      refine wl_un (fun v => Instr.fieldAt 26 v 2) (.tmp 1) (pt k1 0) (pt k1 5) (fun _ => rfl) e1 (by kernel_rfl) rfl ?_
      refine wl_load 3 (.tmp 31) (pt k1 5) (.int .i64 (((k + 1 : Nat) : Int))) rfl rfl (run_one Q1 3 5 rfl Tryd.underlying3 rfl) rfl ?_
      refine wl_bin (fun x y => do eqGuard .sub 3 (.tmp 32) (.const (.int .i64 (1))) x y; binOp .sub 3 x y) (.tmp 32) (.const (.int .i64 (1))) (.int .i64 (((k + 1 : Nat) : Int))) (.int .i64 (1)) (.int .i64 ((k : Int))) (fun _ => rfl) rfl rfl (sub1_run (by omega) _ _ _) rfl ?_
      refine wl_un (fun v => Instr.fieldAt 26 v 2) (.tmp 1) (pt k1 0) (pt k1 5) (fun _ => rfl) e1 (by kernel_rfl) rfl ?_
      refine wl_st1 3 (.tmp 34) (.tmp 33) k1 5 (.int .i64 ((k : Int))) [.bool b, .int .u64 (l0 (n / 10)), .int .u64 (l1 (n / 10)), .int .u64 (l2 (n / 10)), .int .u64 (l3 (n / 10)), .int .i64 (((k + 1 : Nat) : Int))] [.bool b, .int .u64 (l0 (n / 10)), .int .u64 (l1 (n / 10)), .int .u64 (l2 (n / 10)), .int .u64 (l3 (n / 10)), .int .i64 ((k : Int))] Q1 rfl rfl rfl rfl rfl sz3 rfl rfl rfl rfl ?_
      intro w55 hS Qn
      replace Q1 := Qn
      clear Qn
      replace Q2 := hS.other _ _ ne_k1_k2.symm Q2
      replace Q51 := hS.other _ _ ne_k1_k51.symm Q51
      replace Q52 := hS.other _ _ ne_k1_k52.symm Q52
      replace M := hS.mo _ N_k1 M
      clear hS
      refine w_nil ?_
      refine xn_blk ?_
      exact xn_loop k (by omega) ⟨n / 10, by omega, by omega, by rw [← ht, htr], e1, e2, Q1, Q2, M, (fun k h => by have e : pt (kf51 9) 0 = pt k 0 := h; rw [← pt_inj e]; exact Q51.lt), (fun k h => by have e : pt (kf51 10) 0 = pt k 0 := h; rw [← pt_inj e]; exact Q52.lt), (fun k h h2 => by have e : pt (kf51 9) 0 = pt k 0 := h; have e2 : pt (kf51 10) 0 = pt k 0 := h2; exact ne_k51_k52 (pt_inj (e.trans e2.symm))), by omega⟩
    · have hz : (l0 (n % 10) == 0 && (l1 (n % 10) == 0 && (l2 (n % 10) == 0 && l3 (n % 10) == 0))) = false := by rw [zb (by omega) (by unfold MM; omega)]; exact decide_eq_false hr
      have htr : trN (k + 1) n = (n, k + 1) := by show (if n % 10 = 0 then trN k (n / 10) else (n, k + 1)) = _; rw [if_neg hr]
      refine w_seq ?_
      refine w_seq ?_
      refine w_reg ?_
      refine wl_un (fun v => Instr.fieldAt 26 v 2) (.tmp 1) (pt k1 0) (pt k1 5) (fun _ => rfl) e1 (by kernel_rfl) rfl ?_
      refine wl_load 3 (.tmp 14) (pt k1 5) (.int .i64 (((k + 1 : Nat) : Int))) rfl rfl (run_one Q1 3 5 rfl Tryd.underlying3 rfl) rfl ?_
      refine wl_bin (fun x y => do eqGuard .gtr 3 (.tmp 15) (.const (.int .i64 (0))) x y; binOp .gtr 3 x y) (.tmp 15) (.const (.int .i64 (0))) (.int .i64 (((k + 1 : Nat) : Int))) (.int .i64 (0)) (.bool true) (fun _ => rfl) rfl rfl (gtr1_run hk _ _ _) rfl ?_
      refine w_nil ?_
      refine xn_then ?_
      refine w_condT rfl ?_
      refine w_skip ?_
      refine xn_then ?_
      refine w_block ?_
      refine w_seq ?_
      refine w_any 11 [.inl (.agg #[.int .u64 0, .int .u64 0, .int .u64 0, .int .u64 0]), .inl (pt k1 1), .inl (.agg #[.int .u64 (l0 (n)), .int .u64 (l1 (n)), .int .u64 (l2 (n)), .int .u64 (l3 (n))]), .inl (nv (10)), .inl (.tuple #[nv (n / 10), nv (n % 10), .bool true]), .inl (.tuple #[nv (n / 10), nv (n % 10), .bool true]), .inl (nv (n / 10)), .inl (nv (n % 10)), .inl (.bool true), .inr [.int .u64 0, .int .u64 0, .int .u64 0, .int .u64 0], .inr [.int .u64 0, .int .u64 0, .int .u64 0, .int .u64 0]] [7, 8] (by kernel_rfl) (by kernel_rfl) (by kernel_rfl) (by kernel_rfl) rfl (by kernel_rfl) (by kernel_rfl) (late_cons ⟨_, _, rfl, rfl, fun _ _ _ _ h => h, fun f hd => ⟨rfl, la_un (fun v => Instr.extract v 1) (.tmp 17) (.tuple #[nv (n / 10), nv (n % 10), .bool true]) (nv (n % 10)) (fun _ => rfl) (hd 5 rfl _ rfl) (fun w => by kernel_rfl)⟩⟩ (late_cons ⟨_, _, rfl, rfl, fun _ _ _ _ h => h, fun f hd => ⟨rfl, la_un (fun v => Instr.extract v 2) (.tmp 17) (.tuple #[nv (n / 10), nv (n % 10), .bool true]) (.bool true) (fun _ => rfl) (hd 5 rfl _ rfl) (fun w => by kernel_rfl)⟩⟩ late_nil)) ?_ ?_ ?_
      · exact Ds.two 9 10 (fun q hq => by rcases q with _ | _ | _ | _ | _ | _ | _ | _ | _ | _ | _ | q <;> first | (left; rfl) | (right; rfl) | cases hq) d5 d6 d56
      · refine ea_cons ?_ (ea_cons ?_ (ea_cons ?_ (ea_cons ?_ (ea_cons ?_ (ea_cons ?_ (ea_cons ?_ (ea_cons ?_ (ea_cons ?_ (ea_cons ?_ (ea_cons ?_ (ea_nil)))))))))))
        · exact og_eq (.agg #[.int .u64 0, .int .u64 0, .int .u64 0, .int .u64 0]) rfl (fun f wf hq hd K hK => go_run rfl (wo_build 24 [] [] (.agg #[.int .u64 0, .int .u64 0, .int .u64 0, .int .u64 0]) rfl rfl (by kernel_rfl) (hK _ (Mo.refl _))))
        · exact og_eq (pt k1 1) rfl (fun f wf hq hd K hK => go_run rfl (wo_un (fun v => Instr.fieldAt 26 v 1) (.tmp 1) (pt k1 0) (pt k1 1) (fun _ => rfl) e1 (by kernel_rfl) (hK _ (Mo.refl _))))
        · exact og_eq (.agg #[.int .u64 (l0 (n)), .int .u64 (l1 (n)), .int .u64 (l2 (n)), .int .u64 (l3 (n))]) rfl (fun f wf hq hd K hK => have Q1 := Q1.mo hq; go_run rfl (wo_load 24 (.tmp 19) (pt k1 1) (.agg #[.int .u64 (l0 (n)), .int .u64 (l1 (n)), .int .u64 (l2 (n)), .int .u64 (l3 (n))]) rfl (hd 1 rfl) (run_row Q1 24 1 4 [.int .u64 (l0 (n)), .int .u64 (l1 (n)), .int .u64 (l2 (n)), .int .u64 (l3 (n))] rfl Tryd.underlying24 rfl sz24) (hK _ (Mo.refl _))))
        · exact og_eq (nv (10)) rfl (fun f wf hq hd K hK => go_run rfl (wo_call 49 [(.const (.int .i64 (1)))] _ [.int .i64 (1)] (nv (10)) rfl rfl (fun _ _ => by kernel_rfl) (ten1_n _) hK))
        · exact og_eq (.tuple #[nv (n / 10), nv (n % 10), .bool true]) rfl (fun f wf hq hd K hK => go_run rfl (wo_call 48 [(.tmp 18), (.tmp 20), (.tmp 21)] _ [.agg #[.int .u64 0, .int .u64 0, .int .u64 0, .int .u64 0], .agg #[.int .u64 (l0 (n)), .int .u64 (l1 (n)), .int .u64 (l2 (n)), .int .u64 (l3 (n))], nv (10)] (.tuple #[nv (n / 10), nv (n % 10), .bool true]) rfl (li3 (hd 0 rfl) (hd 2 rfl) (hd 3 rfl)) (fun _ _ => by kernel_rfl) (div10_n n _ hn hnm) hK))
        · exact og_eq (.tuple #[nv (n / 10), nv (n % 10), .bool true]) rfl (fun f wf hq hd K hK => go_run rfl (wo_mv (.tmp 22) (.tuple #[nv (n / 10), nv (n % 10), .bool true]) (fun _ => rfl) (hd 4 rfl) (hK _ (Mo.refl _))))
        · exact og_eq (nv (n / 10)) rfl (fun f wf hq hd K hK => go_run rfl (wo_un (fun v => Instr.extract v 0) (.tmp 17) (.tuple #[nv (n / 10), nv (n % 10), .bool true]) (nv (n / 10)) (fun _ => rfl) (hd 5 rfl) (by kernel_rfl) (hK _ (Mo.refl _))))
        · exact og_eq (nv (n % 10)) rfl (fun f wf hq hd K hK => go_run rfl (wo_un (fun v => Instr.extract v 1) (.tmp 17) (.tuple #[nv (n / 10), nv (n % 10), .bool true]) (nv (n % 10)) (fun _ => rfl) (hd 5 rfl) (by kernel_rfl) (hK _ (Mo.refl _))))
        · exact og_eq (.bool true) rfl (fun f wf hq hd K hK => go_run rfl (wo_un (fun v => Instr.extract v 2) (.tmp 17) (.tuple #[nv (n / 10), nv (n % 10), .bool true]) (.bool true) (fun _ => rfl) (hd 5 rfl) (by kernel_rfl) (hK _ (Mo.refl _))))
        · exact og_new [.int .u64 0, .int .u64 0, .int .u64 0, .int .u64 0] rfl (fun f wf hq hd K hK => go_run rfl (wo_alloc 24 #[.int .u64 0, .int .u64 0, .int .u64 0, .int .u64 0] rfl (fun _ => by kernel_rfl) hK))
        · exact og_new [.int .u64 0, .int .u64 0, .int .u64 0, .int .u64 0] rfl (fun f wf hq hd K hK => go_run rfl (wo_alloc 24 #[.int .u64 0, .int .u64 0, .int .u64 0, .int .u64 0] rfl (fun _ => by kernel_rfl) hK))
      intro kf51 w51 hq hR hne
      obtain ⟨N_k51, Q51⟩ := hR 9 _ rfl rfl
      obtain ⟨N_k52, Q52⟩ := hR 10 _ rfl rfl
      have ne_k1_k51 : k1 ≠ (kf51 9) := by have := Q1.lt; omega
      have ne_k2_k51 : k2 ≠ (kf51 9) := by have := Q2.lt; omega
      have ne_k51_k52 := hne 9 10 rfl rfl rfl rfl (by decide)
      replace N_k51 := Nat.le_trans M.size N_k51
      have ne_k1_k52 : k1 ≠ (kf51 10) := by have := Q1.lt; omega
      have ne_k2_k52 : k2 ≠ (kf51 10) := by have := Q2.lt; omega
      replace N_k52 := Nat.le_trans M.size N_k52
      replace Q1 := Q1.mo hq
      replace Q2 := Q2.mo hq
      replace M := M.trans hq
      clear hq hR hne
      refine wl_st 24 (.tmp 5) (.tmp 23) (kf51 9) 0 (nvar (n / 10)) [.int .u64 0, .int .u64 0, .int .u64 0, .int .u64 0] (nvli (n / 10)) Q51 rfl rfl rfl rfl rfl sz24 rfl rfl rfl ?_
      intro w52 hS Qn
      replace Q51 := Qn
      clear Qn
      replace Q1 := hS.other _ _ ne_k1_k51 Q1
      replace Q2 := hS.other _ _ ne_k2_k51 Q2
      replace Q52 := hS.other _ _ ne_k51_k52.symm Q52
      replace M := hS.mo _ N_k51 M
      clear hS
      refine wl_st 24 (.tmp 6) (.tmp 24) (kf51 10) 0 (nvar (n % 10)) [.int .u64 0, .int .u64 0, .int .u64 0, .int .u64 0] (nvli (n % 10)) Q52 rfl rfl rfl rfl rfl sz24 rfl rfl rfl ?_
      intro w53 hS Qn
      replace Q52 := Qn
      clear Qn
      replace Q1 := hS.other _ _ ne_k1_k52 Q1
      replace Q2 := hS.other _ _ ne_k2_k52 Q2
      replace Q51 := hS.other _ _ ne_k51_k52 Q51
      replace M := hS.mo _ N_k52 M
      clear hS
      refine wl_mv (.tmp 25) (.bool true) (fun _ => rfl) rfl rfl ?_
      refine w_nil ?_
      refine xn_then ?_
      refine w_seq ?_
      refine w_seq ?_
      refine w_reg ?_
      refine wl_load 24 (.tmp 6) (pt (kf51 10) 0) (nv (n % 10)) rfl rfl (run_row Q52 24 0 4 (nvli (n % 10)) rfl Tryd.underlying24 rfl sz24) rfl ?_
      refine wl_build 24 [] [] (.agg #[.int .u64 0, .int .u64 0, .int .u64 0, .int .u64 0]) rfl rfl (by kernel_rfl) rfl ?_
      refine wl_bin (fun x y => do eqGuard .neq 24 (.tmp 26) (.tmp 27) x y; binOp .neq 24 x y) (.tmp 26) (.tmp 27) (nv (n % 10)) (.agg #[.int .u64 0, .int .u64 0, .int .u64 0, .int .u64 0]) (.bool true) (fun _ => rfl) rfl rfl (nen_run (r := false) hz _ _ _) rfl ?_
      refine w_nil ?_
      refine xn_then ?_
      refine w_condT rfl ?_
      refine w_exit ?_
      refine xx_then ?_
      refine xx_out rfl ?_
      refine xx_then ?_
      refine xx_blk ?_
      refine xn_then ?_
      refine w_seq ?_
      refine w_reg ?_
      refine wl_load 26 (.tmp 1) (pt k1 0) (dc b (n) (((k + 1 : Nat) : Int))) rfl e1 (run_row Q1 26 0 6 (dcl b (n) (((k + 1 : Nat) : Int))) rfl Tryd.underlying26 rfl sz40) rfl ?_
      refine wl_st 26 (.tmp 2) (.tmp 35) k2 0 (dcr b (n) (((k + 1 : Nat) : Int))) [.bool false, .int .u64 0, .int .u64 0, .int .u64 0, .int .u64 0, .int .i64 0] (dcl b (n) (((k + 1 : Nat) : Int))) Q2 rfl rfl e2 rfl rfl sz40 rfl rfl rfl ?_
      intro w54 hS Qn
      replace Q2 := Qn
      clear Qn
      replace Q1 := hS.other _ _ ne_k1_k2 Q1
      replace Q51 := hS.other _ _ ne_k2_k51.symm Q51
      replace Q52 := hS.other _ _ ne_k2_k52.symm Q52
      replace M := hS.mo _ N_k2 M
      clear hS
      refine wl_mv (.const (.int .i64 (0))) (.int .i64 (0)) (fun _ => rfl) rfl rfl ?_
      refine w_nil ?_
      refine xn_then ?_
      refine w_ret ?_
      exact w_ret2 _ _ (dc b (n) (((k + 1 : Nat) : Int))) (.int .i64 (0)) rfl ⟨k2, e2, (run_row Q2 26 0 6 (dcl b (n) (((k + 1 : Nat) : Int))) rfl Tryd.underlying26 rfl sz40)⟩ rfl ⟨by rw [← ht, htr], M⟩
end Go.Proofs.YtdcojpbgijkmgaaDoor
/-
  Plain facts on decimal digits: what Text writes is digits, and says its number.
-/
namespace Go.Proofs.YtdcojpbgijkmgaaDoor
theorem strOf_list (ns : List Int) : (strOf ns).data.toList = ns.map (fun n => UInt8.ofNat n.toNat) := by
  have g : ∀ (l : List Int) (b : ByteArray), (l.foldl (fun r n => r.push (UInt8.ofNat n.toNat)) b).data.toList = b.data.toList ++ l.map (fun n => UInt8.ofNat n.toNat) := by
    intro l
    induction l with
    | nil => intro b; simp
    | cons x l ih => intro b; rw [List.foldl_cons, ih]; simp [ByteArray.push]
  unfold strOf
  rw [g]
  simp
theorem decF_digits : ∀ (f : Nat) (n : Int), ∀ d ∈ decF f n, 48 ≤ d ∧ d ≤ 57
  | 0, _, d, h => by simp [decF] at h
  | f + 1, n, d, h => by
    unfold decF at h
    split at h
    · simp at h; omega
    · rw [List.mem_append] at h
      rcases h with h | h
      · exact decF_digits f _ d h
      · simp at h; omega
theorem decF_len : ∀ (f : Nat) (n : Int), (decF f n).length ≤ f
  | 0, _ => by simp [decF]
  | f + 1, n => by
    unfold decF
    split
    · simp
    · have := decF_len f (n / 10)
      simp
      omega
theorem decF_ne {f : Nat} (n : Int) : decF (f + 1) n ≠ [] := by
  unfold decF
  split <;> simp
/-- The number of digits. -/
def dv (l : List Int) : Int := l.foldl (fun v d => v * 10 + (d - 48)) 0
theorem dv_snoc (l : List Int) (d : Int) : dv (l ++ [d]) = dv l * 10 + (d - 48) := by unfold dv; rw [List.foldl_append]; rfl
theorem decF_dv : ∀ (f : Nat) (n : Int), 0 ≤ n → n < 10 ^ f → dv (decF f n) = n
  | 0, n, h0, h => by simp at h; unfold decF dv; simp; omega
  | f + 1, n, h0, h => by
    unfold decF
    split
    · rw [show [48 + n % 10] = [] ++ [48 + n % 10] from rfl, dv_snoc]; unfold dv; simp; omega
    · rw [dv_snoc, decF_dv f (n / 10) (by omega) (by rw [Int.pow_succ] at h; omega)]; omega
theorem decF_head : ∀ (f : Nat) (n : Int), 0 < n → n < 10 ^ f → (decF f n).headD 0 ≠ 48
  | 0, n, h0, h => by simp at h; omega
  | f + 1, n, h0, h => by
    unfold decF
    split
    · simp; omega
    · rename_i hq
      have e := decF_head f (n / 10) (by omega) (by rw [Int.pow_succ] at h; omega)
      cases hf : decF f (n / 10) with
      | nil => rw [hf] at e; simp at e ⊢; cases f with
        | zero => simp at h; omega
        | succ g => exact absurd hf (decF_ne _)
      | cons a l => rw [hf] at e; simpa using e
theorem dv_from (l : List Int) : ∀ v : Int, 0 ≤ v → (∀ d ∈ l, 48 ≤ d ∧ d ≤ 57) → v ≤ l.foldl (fun v d => v * 10 + (d - 48)) v := by
  induction l with
  | nil => intro v _ _; exact Int.le_refl _
  | cons x l ih =>
    intro v hv h
    have hx := h x (by simp)
    have := ih (v * 10 + (x - 48)) (by omega) (fun d hd => h d (by simp [hd]))
    rw [List.foldl_cons]
    omega
theorem dv_take (l : List Int) (h : ∀ d ∈ l, 48 ≤ d ∧ d ≤ 57) (k : Nat) : 0 ≤ dv (l.take k) ∧ dv (l.take k) ≤ dv l := by
  have a : 0 ≤ dv (l.take k) := dv_from (l.take k) 0 (Int.le_refl 0) (fun d hd => h d (List.mem_of_mem_take hd))
  refine ⟨a, ?_⟩
  have e : dv l = (l.drop k).foldl (fun v d => v * 10 + (d - 48)) (dv (l.take k)) := by
    unfold dv; rw [← List.foldl_append, List.take_append_drop]
  rw [e]
  exact dv_from _ _ a (fun d hd => h d (List.mem_of_mem_drop hd))
end Go.Proofs.YtdcojpbgijkmgaaDoor
/-
  dectext.Text and Short, whatever the number.
-/
namespace Go.Proofs.YtdcojpbgijkmgaaDoor.V
open Go.RowKit Go.Lib
theorem sz26 : (Tryd.prog.info? 26).map (·.size) = some 6 := by kernel_rfl
theorem neE {a b : Int} {r : Bool} (h : (a == b) = r) (x y : Operand) (w : World) : (do eqGuard .neq 30 x y (.int .i64 a) (.int .i64 b); binOp .neq 30 (.int .i64 a) (.int .i64 b)).run Tryd.prog w = .ok (.bool (!r)) w := by
  subst h; kernel_rfl
theorem cat_run (a b : ByteArray) (h : a.size + b.size ≤ 9223372036854775807) (x y : Operand) (w : World) : (do eqGuard .add 9 x y (.string a) (.string b); binOp .add 9 (.string a) (.string b)).run Tryd.prog w = .ok (.string (a ++ b)) w := by
  have h2 : ¬ 9223372036854775807 < a.size + b.size := by omega
  simp [go_sem, h2]
/-- A number's digits. -/
abbrev dgs8 (n : Int) : List UInt8 := by8 (strOf (decF 78 n))
/-- A number's text. -/
def txt (b : Bool) (n : Int) (k : Nat) : List UInt8 := if b then 45 :: wpt (dgs8 n) k else wpt (dgs8 n) k
theorem dgs8_len (n : Int) : (strOf (decF 78 n)).size ≤ 78 := by
  rw [← by8_len]; show (strOf (decF 78 n)).data.toList.length ≤ 78; rw [strOf_list, List.length_map]; exact decF_len 78 n
theorem wpt_len (l : List UInt8) (k : Nat) : (wpt l k).length ≤ l.length + k + 2 := by
  unfold wpt leadz
  split
  · omega
  · simp; omega
theorem cat45 (l : List UInt8) : (Value.string ((⟨#[45]⟩ : ByteArray) ++ ⟨l.toArray⟩)) = tx (45 :: l) := by
  rw [tx_of, by8_app]; rfl
theorem text_no (b : Bool) (n s0 : Int) (w : World) (hn0 : 0 ≤ n) (hnM : n < MM) (hck : ck b n s0 ≠ 0) : Calls Tryd.prog 9 #[dc b n s0] w fun e w' => e = .returned (.string ⟨#[63]⟩) ∧ Mw w w' := by
  have hc : ((20 : Int) == 0) = false := rfl
  refine w_enter 18 Tryd.func9 Tryd.ntmps9 rfl rfl ?_
  have M : Mw w w := Mw.refl _
  refine w_seq ?_
  refine w_reg ?_
  refine wl_box 26 (.tmp 0) (.agg #[.bool b, .int .u64 (l0 (n)), .int .u64 (l1 (n)), .int .u64 (l2 (n)), .int .u64 (l3 (n)), .int .i64 (s0)]) (#[.bool b, .int .u64 (l0 (n)), .int .u64 (l1 (n)), .int .u64 (l2 (n)), .int .u64 (l3 (n)), .int .i64 (s0)]) rfl rfl (fun _ => by kernel_rfl) rfl ?_
  intro k1 w1 hk hz hq Q1
  have N_k1 : w.heap.size ≤ k1 := by have := M.size; omega
  replace M := M.trans hq
  clear hk hz hq
  refine wl_mv (.const (.string ⟨#[]⟩)) (.string ⟨#[]⟩) (fun _ => rfl) rfl rfl ?_
  refine w_nil ?_
  refine xn_then ?_
  refine w_seq ?_
  refine w_seq ?_
  refine w_reg ?_
  refine wl_load 26 (.tmp 1) (pt k1 0) (.agg #[.bool b, .int .u64 (l0 (n)), .int .u64 (l1 (n)), .int .u64 (l2 (n)), .int .u64 (l3 (n)), .int .i64 (s0)]) rfl rfl (run_row Q1 26 0 6 [.bool b, .int .u64 (l0 (n)), .int .u64 (l1 (n)), .int .u64 (l2 (n)), .int .u64 (l3 (n)), .int .i64 (s0)] rfl Tryd.underlying26 rfl sz26) rfl ?_
  refine wl_call 21 [(.tmp 4)] _ [.agg #[.bool b, .int .u64 (l0 (n)), .int .u64 (l1 (n)), .int .u64 (l2 (n)), .int .u64 (l3 (n)), .int .i64 (s0)]] (.int .i64 (20)) rfl rfl (fun _ _ => by kernel_rfl) (wk (check_no b n s0 _ hn0 hnM hck)) rfl ?_
  intro w2 hq
  replace Q1 := Q1.mo hq
  replace M := M.trans hq
  clear hq
  refine wl_bin (fun x y => do eqGuard .neq 30 (.tmp 5) (.const (.int .i64 (0))) x y; binOp .neq 30 x y) (.tmp 5) (.const (.int .i64 (0))) (.int .i64 (20)) (.int .i64 (0)) (.bool true) (fun _ => rfl) rfl rfl (neE (r := false) hc _ _ _) rfl ?_
  refine w_nil ?_
  refine xn_then ?_
  refine w_condT rfl ?_
  refine w_seq ?_
  refine w_reg ?_
  refine wl_mv (.const (.string ⟨#[63]⟩)) (.string ⟨#[63]⟩) (fun _ => rfl) rfl rfl ?_
  refine w_nil ?_
  refine xn_then ?_
  refine w_ret ?_
  refine xr_then ?_
  exact w_ret1 _ (.string ⟨#[63]⟩) rfl rfl ⟨rfl, M⟩
theorem hcat (l : List UInt8) (h : l.length ≤ 1000) : (⟨#[45]⟩ : ByteArray).size + (⟨l.toArray⟩ : ByteArray).size ≤ 9223372036854775807 := by
  have : (⟨l.toArray⟩ : ByteArray).size = l.length := by rw [← by8_len]
  rw [this]; show 1 + _ ≤ _; omega
theorem text_t (n : Int) (k : Nat) (w : World) (hn0 : 0 ≤ n) (hnM : n < MM) (hk18 : k ≤ 18) (hck : ck true n (k : Int) = 0) : Calls Tryd.prog 9 #[dc true n (k : Int)] w fun e w' => e = .returned (tx (txt true n k)) ∧ Mw w w' := by
  have hc : ((0 : Int) == 0) = true := rfl
  have hl : (wpt (dgs8 n) k).length ≤ 1000 := by have := wpt_len (dgs8 n) k; have := dgs8_len n; have e3 : (dgs8 n).length = (strOf (decF 78 n)).size := by8_len _; omega
  refine w_enter 18 Tryd.func9 Tryd.ntmps9 rfl rfl ?_
  have M : Mw w w := Mw.refl _
  refine w_seq ?_
  refine w_reg ?_
  refine wl_box 26 (.tmp 0) (.agg #[.bool true, .int .u64 (l0 (n)), .int .u64 (l1 (n)), .int .u64 (l2 (n)), .int .u64 (l3 (n)), .int .i64 (k : Int)]) (#[.bool true, .int .u64 (l0 (n)), .int .u64 (l1 (n)), .int .u64 (l2 (n)), .int .u64 (l3 (n)), .int .i64 (k : Int)]) rfl rfl (fun _ => by kernel_rfl) rfl ?_
  intro k1 w1 hk hz hq Q1
  have N_k1 : w.heap.size ≤ k1 := by have := M.size; omega
  replace M := M.trans hq
  clear hk hz hq
  refine wl_mv (.const (.string ⟨#[]⟩)) (.string ⟨#[]⟩) (fun _ => rfl) rfl rfl ?_
  refine w_nil ?_
  refine xn_then ?_
  refine w_seq ?_
  refine w_seq ?_
  refine w_reg ?_
  refine wl_load 26 (.tmp 1) (pt k1 0) (.agg #[.bool true, .int .u64 (l0 (n)), .int .u64 (l1 (n)), .int .u64 (l2 (n)), .int .u64 (l3 (n)), .int .i64 (k : Int)]) rfl rfl (run_row Q1 26 0 6 [.bool true, .int .u64 (l0 (n)), .int .u64 (l1 (n)), .int .u64 (l2 (n)), .int .u64 (l3 (n)), .int .i64 (k : Int)] rfl Tryd.underlying26 rfl sz26) rfl ?_
  refine wl_call 21 [(.tmp 4)] _ [.agg #[.bool true, .int .u64 (l0 (n)), .int .u64 (l1 (n)), .int .u64 (l2 (n)), .int .u64 (l3 (n)), .int .i64 (k : Int)]] (.int .i64 (0)) rfl rfl (fun _ _ => by kernel_rfl) (wk (check_ok true n (k : Int) _ hn0 hnM hck)) rfl ?_
  intro w2 hq
  replace Q1 := Q1.mo hq
  replace M := M.trans hq
  clear hq
  refine wl_bin (fun x y => do eqGuard .neq 30 (.tmp 5) (.const (.int .i64 (0))) x y; binOp .neq 30 x y) (.tmp 5) (.const (.int .i64 (0))) (.int .i64 (0)) (.int .i64 (0)) (.bool false) (fun _ => rfl) rfl rfl (neE (r := true) hc _ _ _) rfl ?_
  refine w_nil ?_
  refine xn_then ?_
  refine w_condF rfl ?_
  refine w_skip ?_
  refine xn_then ?_
  refine w_seq ?_
  refine w_any 5 [.inl (pt k1 1), .inl (.agg #[.int .u64 (l0 (n)), .int .u64 (l1 (n)), .int .u64 (l2 (n)), .int .u64 (l3 (n))]), .inl (.string (strOf (decF 78 n))), .inl (pt k1 5), .inl (.int .i64 (k : Int))] [] (by kernel_rfl) (by kernel_rfl) (by kernel_rfl) (by kernel_rfl) rfl (by kernel_rfl) (by kernel_rfl) late_nil ?_ ?_ ?_
  · exact Ds.none rfl
  · refine ea_cons ?_ (ea_cons ?_ (ea_cons ?_ (ea_cons ?_ (ea_cons ?_ (ea_nil)))))
    · exact og_eq (pt k1 1) rfl (fun f wf hq hd K hK => go_run rfl (wo_un (fun v => Instr.fieldAt 26 v 1) (.tmp 1) (pt k1 0) (pt k1 1) (fun _ => rfl) rfl (by kernel_rfl) (hK _ (Mw.refl _))))
    · exact og_eq (.agg #[.int .u64 (l0 (n)), .int .u64 (l1 (n)), .int .u64 (l2 (n)), .int .u64 (l3 (n))]) rfl (fun f wf hq hd K hK => have Q1 := Q1.mo hq; go_run rfl (wo_load 24 (.tmp 7) (pt k1 1) (.agg #[.int .u64 (l0 (n)), .int .u64 (l1 (n)), .int .u64 (l2 (n)), .int .u64 (l3 (n))]) rfl (hd 0 rfl) (run_row Q1 24 1 4 [.int .u64 (l0 (n)), .int .u64 (l1 (n)), .int .u64 (l2 (n)), .int .u64 (l3 (n))] rfl Tryd.underlying24 rfl sz24) (hK _ (Mw.refl _))))
    · exact og_eq (.string (strOf (decF 78 n))) rfl (fun f wf hq hd K hK => go_run rfl (wo_call 23 [(.tmp 8)] _ [.agg #[.int .u64 (l0 (n)), .int .u64 (l1 (n)), .int .u64 (l2 (n)), .int .u64 (l3 (n))]] (.string (strOf (decF 78 n))) rfl (li1 (hd 1 rfl)) (fun _ _ => by kernel_rfl) (wk (text_n n _ hn0 hnM)) hK))
    · exact og_eq (pt k1 5) rfl (fun f wf hq hd K hK => go_run rfl (wo_un (fun v => Instr.fieldAt 26 v 2) (.tmp 1) (pt k1 0) (pt k1 5) (fun _ => rfl) rfl (by kernel_rfl) (hK _ (Mw.refl _))))
    · exact og_eq (.int .i64 (k : Int)) rfl (fun f wf hq hd K hK => have Q1 := Q1.mo hq; go_run rfl (wo_load 3 (.tmp 10) (pt k1 5) (.int .i64 (k : Int)) rfl (hd 3 rfl) (run_one Q1 3 5 rfl Tryd.underlying3 rfl) (hK _ (Mw.refl _))))
  intro kf3 w3 hq hR hne
  replace Q1 := Q1.mo hq
  replace M := M.trans hq
  clear hq hR hne
  refine wl_call 22 [(.tmp 9), (.tmp 11)] _ [.string (strOf (decF 78 n)), .int .i64 (k : Int)] (tx (wpt (dgs8 n) k)) rfl rfl (fun _ _ => by kernel_rfl) (withPoint_n (strOf (decF 78 n)) k _ (by omega) (Nat.le_trans (dgs8_len n) (by decide))) rfl ?_
  intro w4 hq
  replace Q1 := Q1.mo hq
  replace M := M.trans hq
  clear hq
  refine wl_mv (.tmp 12) (tx (wpt (dgs8 n) k)) (fun _ => rfl) rfl rfl ?_
  refine w_nil ?_
  refine xn_then ?_
  refine w_seq ?_
  refine w_seq ?_
  refine w_reg ?_
  refine wl_un (fun v => Instr.fieldAt 26 v 0) (.tmp 1) (pt k1 0) (pt k1 0) (fun _ => rfl) rfl (by kernel_rfl) rfl ?_
  refine wl_load 4 (.tmp 13) (pt k1 0) (.bool true) rfl rfl (run_one Q1 4 0 rfl Tryd.underlying4 rfl) rfl ?_
  refine w_nil ?_
  refine xn_then ?_
  refine w_condT rfl ?_
  refine w_seq ?_
  refine w_reg ?_
  refine wl_mv (.tmp 3) (tx (wpt (dgs8 n) k)) (fun _ => rfl) rfl rfl ?_
  refine wl_bin (fun x y => do eqGuard .add 9 (.const (.string ⟨#[45]⟩)) (.tmp 15) x y; binOp .add 9 x y) (.const (.string ⟨#[45]⟩)) (.tmp 15) (.string ⟨#[45]⟩) (tx (wpt (dgs8 n) k)) (tx (45 :: wpt (dgs8 n) k)) (fun _ => rfl) rfl rfl (by rw [← cat45]; exact cat_run _ _ (hcat _ hl) _ _ _) rfl ?_
  refine wl_mv (.tmp 16) (tx (45 :: wpt (dgs8 n) k)) (fun _ => rfl) rfl rfl ?_
  refine w_nil ?_
  refine xn_then ?_
  refine w_ret ?_
  refine xr_then ?_
  exact w_ret1 _ (tx (45 :: wpt (dgs8 n) k)) rfl rfl ⟨rfl, M⟩
theorem text_f (n : Int) (k : Nat) (w : World) (hn0 : 0 ≤ n) (hnM : n < MM) (hk18 : k ≤ 18) (hck : ck false n (k : Int) = 0) : Calls Tryd.prog 9 #[dc false n (k : Int)] w fun e w' => e = .returned (tx (txt false n k)) ∧ Mw w w' := by
  have hc : ((0 : Int) == 0) = true := rfl
  have hl : (wpt (dgs8 n) k).length ≤ 1000 := by have := wpt_len (dgs8 n) k; have := dgs8_len n; have e3 : (dgs8 n).length = (strOf (decF 78 n)).size := by8_len _; omega
  refine w_enter 18 Tryd.func9 Tryd.ntmps9 rfl rfl ?_
  have M : Mw w w := Mw.refl _
  refine w_seq ?_
  refine w_reg ?_
  refine wl_box 26 (.tmp 0) (.agg #[.bool false, .int .u64 (l0 (n)), .int .u64 (l1 (n)), .int .u64 (l2 (n)), .int .u64 (l3 (n)), .int .i64 (k : Int)]) (#[.bool false, .int .u64 (l0 (n)), .int .u64 (l1 (n)), .int .u64 (l2 (n)), .int .u64 (l3 (n)), .int .i64 (k : Int)]) rfl rfl (fun _ => by kernel_rfl) rfl ?_
  intro k1 w1 hk hz hq Q1
  have N_k1 : w.heap.size ≤ k1 := by have := M.size; omega
  replace M := M.trans hq
  clear hk hz hq
  refine wl_mv (.const (.string ⟨#[]⟩)) (.string ⟨#[]⟩) (fun _ => rfl) rfl rfl ?_
  refine w_nil ?_
  refine xn_then ?_
  refine w_seq ?_
  refine w_seq ?_
  refine w_reg ?_
  refine wl_load 26 (.tmp 1) (pt k1 0) (.agg #[.bool false, .int .u64 (l0 (n)), .int .u64 (l1 (n)), .int .u64 (l2 (n)), .int .u64 (l3 (n)), .int .i64 (k : Int)]) rfl rfl (run_row Q1 26 0 6 [.bool false, .int .u64 (l0 (n)), .int .u64 (l1 (n)), .int .u64 (l2 (n)), .int .u64 (l3 (n)), .int .i64 (k : Int)] rfl Tryd.underlying26 rfl sz26) rfl ?_
  refine wl_call 21 [(.tmp 4)] _ [.agg #[.bool false, .int .u64 (l0 (n)), .int .u64 (l1 (n)), .int .u64 (l2 (n)), .int .u64 (l3 (n)), .int .i64 (k : Int)]] (.int .i64 (0)) rfl rfl (fun _ _ => by kernel_rfl) (wk (check_ok false n (k : Int) _ hn0 hnM hck)) rfl ?_
  intro w2 hq
  replace Q1 := Q1.mo hq
  replace M := M.trans hq
  clear hq
  refine wl_bin (fun x y => do eqGuard .neq 30 (.tmp 5) (.const (.int .i64 (0))) x y; binOp .neq 30 x y) (.tmp 5) (.const (.int .i64 (0))) (.int .i64 (0)) (.int .i64 (0)) (.bool false) (fun _ => rfl) rfl rfl (neE (r := true) hc _ _ _) rfl ?_
  refine w_nil ?_
  refine xn_then ?_
  refine w_condF rfl ?_
  refine w_skip ?_
  refine xn_then ?_
  refine w_seq ?_
  refine w_any 5 [.inl (pt k1 1), .inl (.agg #[.int .u64 (l0 (n)), .int .u64 (l1 (n)), .int .u64 (l2 (n)), .int .u64 (l3 (n))]), .inl (.string (strOf (decF 78 n))), .inl (pt k1 5), .inl (.int .i64 (k : Int))] [] (by kernel_rfl) (by kernel_rfl) (by kernel_rfl) (by kernel_rfl) rfl (by kernel_rfl) (by kernel_rfl) late_nil ?_ ?_ ?_
  · exact Ds.none rfl
  · refine ea_cons ?_ (ea_cons ?_ (ea_cons ?_ (ea_cons ?_ (ea_cons ?_ (ea_nil)))))
    · exact og_eq (pt k1 1) rfl (fun f wf hq hd K hK => go_run rfl (wo_un (fun v => Instr.fieldAt 26 v 1) (.tmp 1) (pt k1 0) (pt k1 1) (fun _ => rfl) rfl (by kernel_rfl) (hK _ (Mw.refl _))))
    · exact og_eq (.agg #[.int .u64 (l0 (n)), .int .u64 (l1 (n)), .int .u64 (l2 (n)), .int .u64 (l3 (n))]) rfl (fun f wf hq hd K hK => have Q1 := Q1.mo hq; go_run rfl (wo_load 24 (.tmp 7) (pt k1 1) (.agg #[.int .u64 (l0 (n)), .int .u64 (l1 (n)), .int .u64 (l2 (n)), .int .u64 (l3 (n))]) rfl (hd 0 rfl) (run_row Q1 24 1 4 [.int .u64 (l0 (n)), .int .u64 (l1 (n)), .int .u64 (l2 (n)), .int .u64 (l3 (n))] rfl Tryd.underlying24 rfl sz24) (hK _ (Mw.refl _))))
    · exact og_eq (.string (strOf (decF 78 n))) rfl (fun f wf hq hd K hK => go_run rfl (wo_call 23 [(.tmp 8)] _ [.agg #[.int .u64 (l0 (n)), .int .u64 (l1 (n)), .int .u64 (l2 (n)), .int .u64 (l3 (n))]] (.string (strOf (decF 78 n))) rfl (li1 (hd 1 rfl)) (fun _ _ => by kernel_rfl) (wk (text_n n _ hn0 hnM)) hK))
    · exact og_eq (pt k1 5) rfl (fun f wf hq hd K hK => go_run rfl (wo_un (fun v => Instr.fieldAt 26 v 2) (.tmp 1) (pt k1 0) (pt k1 5) (fun _ => rfl) rfl (by kernel_rfl) (hK _ (Mw.refl _))))
    · exact og_eq (.int .i64 (k : Int)) rfl (fun f wf hq hd K hK => have Q1 := Q1.mo hq; go_run rfl (wo_load 3 (.tmp 10) (pt k1 5) (.int .i64 (k : Int)) rfl (hd 3 rfl) (run_one Q1 3 5 rfl Tryd.underlying3 rfl) (hK _ (Mw.refl _))))
  intro kf3 w3 hq hR hne
  replace Q1 := Q1.mo hq
  replace M := M.trans hq
  clear hq hR hne
  refine wl_call 22 [(.tmp 9), (.tmp 11)] _ [.string (strOf (decF 78 n)), .int .i64 (k : Int)] (tx (wpt (dgs8 n) k)) rfl rfl (fun _ _ => by kernel_rfl) (withPoint_n (strOf (decF 78 n)) k _ (by omega) (Nat.le_trans (dgs8_len n) (by decide))) rfl ?_
  intro w4 hq
  replace Q1 := Q1.mo hq
  replace M := M.trans hq
  clear hq
  refine wl_mv (.tmp 12) (tx (wpt (dgs8 n) k)) (fun _ => rfl) rfl rfl ?_
  refine w_nil ?_
  refine xn_then ?_
  refine w_seq ?_
  refine w_seq ?_
  refine w_reg ?_
  refine wl_un (fun v => Instr.fieldAt 26 v 0) (.tmp 1) (pt k1 0) (pt k1 0) (fun _ => rfl) rfl (by kernel_rfl) rfl ?_
  refine wl_load 4 (.tmp 13) (pt k1 0) (.bool false) rfl rfl (run_one Q1 4 0 rfl Tryd.underlying4 rfl) rfl ?_
  refine w_nil ?_
  refine xn_then ?_
  refine w_condF rfl ?_
  refine w_skip ?_
  refine xn_then ?_
  refine w_seq ?_
  refine w_reg ?_
  refine wl_mv (.tmp 3) (tx (wpt (dgs8 n) k)) (fun _ => rfl) rfl rfl ?_
  refine wl_mv (.tmp 17) (tx (wpt (dgs8 n) k)) (fun _ => rfl) rfl rfl ?_
  refine w_nil ?_
  refine xn_then ?_
  refine w_ret ?_
  exact w_ret1 _ (tx (wpt (dgs8 n) k)) rfl rfl ⟨rfl, M⟩
theorem text_ok (b : Bool) (n : Int) (k : Nat) (w : World) (hn0 : 0 ≤ n) (hnM : n < MM) (hk18 : k ≤ 18) (hck : ck b n (k : Int) = 0) : Calls Tryd.prog 9 #[dc b n (k : Int)] w fun e w' => e = .returned (tx (txt b n k)) ∧ Mw w w' := by
  cases b
  · exact text_f n k w hn0 hnM hk18 hck
  · exact text_t n k w hn0 hnM hk18 hck
theorem trN_ok : ∀ (k : Nat) (n : Int), 0 ≤ n → n < MM → 0 ≤ (trN k n).1 ∧ (trN k n).1 < MM ∧ (trN k n).2 ≤ k ∧ ((trN k n).1 = 0 ↔ n = 0)
  | 0, n, h0, h => ⟨h0, h, Nat.le_refl _, Iff.rfl⟩
  | k + 1, n, h0, h => by
    unfold trN
    split
    · rename_i hz
      obtain ⟨a, b, c, d⟩ := trN_ok k (n / 10) (by omega) (by omega)
      exact ⟨a, b, by omega, by rw [d]; omega⟩
    · exact ⟨h0, h, Nat.le_refl _, Iff.rfl⟩
theorem trN_ck {b : Bool} {n : Int} {k : Nat} (h0 : 0 ≤ n) (h : n < MM) (hk : k ≤ 18) (hck : ck b n (k : Int) = 0) : ck b (trN k n).1 ((trN k n).2 : Int) = 0 := by
  obtain ⟨a, c, d, e⟩ := trN_ok k n h0 h
  unfold ck sc at *
  have e2 : decide ((trN k n).1 = 0) = decide (n = 0) := by rw [decide_eq_decide]; exact e
  rw [e2]
  have : (decide (0 ≤ ((trN k n).2 : Int)) && decide (((trN k n).2 : Int) ≤ 18)) = true := by simp; omega
  have h2 : (decide (0 ≤ (k : Int)) && decide ((k : Int) ≤ 18)) = true := by simp; omega
  simp_all
theorem short_no (b : Bool) (n s0 : Int) (w : World) (hn0 : 0 ≤ n) (hnM : n < MM) (hck : ck b n s0 ≠ 0) : Calls Tryd.prog 11 #[dc b n s0] w fun e w' => e = .returned (.string ⟨#[63]⟩) ∧ Mw w w' := by
  have hc : ((20 : Int) == 0) = false := rfl
  refine w_enter 14 Tryd.func11 Tryd.ntmps11 rfl rfl ?_
  have M : Mw w w := Mw.refl _
  refine w_seq ?_
  refine w_reg ?_
  refine wl_box 26 (.tmp 0) (.agg #[.bool b, .int .u64 (l0 (n)), .int .u64 (l1 (n)), .int .u64 (l2 (n)), .int .u64 (l3 (n)), .int .i64 (s0)]) (#[.bool b, .int .u64 (l0 (n)), .int .u64 (l1 (n)), .int .u64 (l2 (n)), .int .u64 (l3 (n)), .int .i64 (s0)]) rfl rfl (fun _ => by kernel_rfl) rfl ?_
  intro k1 w1 hk hz hq Q1
  have N_k1 : w.heap.size ≤ k1 := by have := M.size; omega
  replace M := M.trans hq
  clear hk hz hq
  refine wl_mv (.const (.string ⟨#[]⟩)) (.string ⟨#[]⟩) (fun _ => rfl) rfl rfl ?_
  refine w_nil ?_
  refine xn_then ?_
  refine w_seq ?_
  refine w_reg ?_
  refine wl_load 26 (.tmp 1) (pt k1 0) (.agg #[.bool b, .int .u64 (l0 (n)), .int .u64 (l1 (n)), .int .u64 (l2 (n)), .int .u64 (l3 (n)), .int .i64 (s0)]) rfl rfl (run_row Q1 26 0 6 [.bool b, .int .u64 (l0 (n)), .int .u64 (l1 (n)), .int .u64 (l2 (n)), .int .u64 (l3 (n)), .int .i64 (s0)] rfl Tryd.underlying26 rfl sz26) rfl ?_
  refine wl_call 25 [(.tmp 6)] _ [.agg #[.bool b, .int .u64 (l0 (n)), .int .u64 (l1 (n)), .int .u64 (l2 (n)), .int .u64 (l3 (n)), .int .i64 (s0)]] (.tuple #[.agg #[.bool false, .int .u64 0, .int .u64 0, .int .u64 0, .int .u64 0, .int .i64 0], .int .i64 (20)]) rfl rfl (fun _ _ => by kernel_rfl) (wk (trim_no b n s0 _ hn0 hnM hck)) rfl ?_
  intro w2 hq
  replace Q1 := Q1.mo hq
  replace M := M.trans hq
  clear hq
  refine wl_mv (.tmp 7) (.tuple #[.agg #[.bool false, .int .u64 0, .int .u64 0, .int .u64 0, .int .u64 0, .int .i64 0], .int .i64 (20)]) (fun _ => rfl) rfl rfl ?_
  refine wl_un (fun v => Instr.extract v 0) (.tmp 5) (.tuple #[.agg #[.bool false, .int .u64 0, .int .u64 0, .int .u64 0, .int .u64 0, .int .i64 0], .int .i64 (20)]) (.agg #[.bool false, .int .u64 0, .int .u64 0, .int .u64 0, .int .u64 0, .int .i64 0]) (fun _ => rfl) rfl (by kernel_rfl) rfl ?_
  refine wl_un (fun v => Instr.extract v 1) (.tmp 5) (.tuple #[.agg #[.bool false, .int .u64 0, .int .u64 0, .int .u64 0, .int .u64 0, .int .i64 0], .int .i64 (20)]) (.int .i64 (20)) (fun _ => rfl) rfl (by kernel_rfl) rfl ?_
  refine wl_alloc 26 #[.bool false, .int .u64 0, .int .u64 0, .int .u64 0, .int .u64 0, .int .i64 0] rfl (fun _ => by kernel_rfl) rfl ?_
  intro k2 w3 hk hz hq Q2
  have ne_k1_k2 : k1 ≠ k2 := by have := Q1.lt; omega
  have N_k2 : w.heap.size ≤ k2 := by have := M.size; omega
  replace Q1 := Q1.mo hq
  replace M := M.trans hq
  clear hk hz hq
  refine wl_st 26 (.tmp 3) (.tmp 8) k2 0 #[.bool false, .int .u64 0, .int .u64 0, .int .u64 0, .int .u64 0, .int .i64 0] [.bool false, .int .u64 0, .int .u64 0, .int .u64 0, .int .u64 0, .int .i64 0] [.bool false, .int .u64 0, .int .u64 0, .int .u64 0, .int .u64 0, .int .i64 0] Q2 rfl rfl rfl rfl rfl sz26 rfl rfl rfl ?_
  intro w4 hS Qn
  replace Q2 := Qn
  clear Qn
  replace Q1 := hS.other _ _ ne_k1_k2 Q1
  replace M := hS.mo _ N_k2 M
  clear hS
  refine wl_mv (.tmp 9) (.int .i64 (20)) (fun _ => rfl) rfl rfl ?_
  refine w_nil ?_
  refine xn_then ?_
  refine w_seq ?_
  refine w_seq ?_
  refine w_reg ?_
  refine wl_mv (.tmp 4) (.int .i64 (20)) (fun _ => rfl) rfl rfl ?_
  refine wl_bin (fun x y => do eqGuard .neq 30 (.tmp 10) (.const (.int .i64 (0))) x y; binOp .neq 30 x y) (.tmp 10) (.const (.int .i64 (0))) (.int .i64 (20)) (.int .i64 (0)) (.bool true) (fun _ => rfl) rfl rfl (neE (r := false) hc _ _ _) rfl ?_
  refine w_nil ?_
  refine xn_then ?_
  refine w_condT rfl ?_
  refine w_seq ?_
  refine w_reg ?_
  refine wl_mv (.const (.string ⟨#[63]⟩)) (.string ⟨#[63]⟩) (fun _ => rfl) rfl rfl ?_
  refine w_nil ?_
  refine xn_then ?_
  refine w_ret ?_
  refine xr_then ?_
  exact w_ret1 _ (.string ⟨#[63]⟩) rfl rfl ⟨rfl, M⟩
theorem short_ok (b : Bool) (n : Int) (k : Nat) (w : World) (hn0 : 0 ≤ n) (hnM : n < MM) (hk18 : k ≤ 18) (hck : ck b n (k : Int) = 0) : Calls Tryd.prog 11 #[dc b n (k : Int)] w fun e w' => e = .returned (tx (txt b (trN k n).1 (trN k n).2)) ∧ Mw w w' := by
  have hc : ((0 : Int) == 0) = true := rfl
  obtain ⟨a0, a1, a2, _⟩ := trN_ok k n hn0 hnM
  refine w_enter 14 Tryd.func11 Tryd.ntmps11 rfl rfl ?_
  have M : Mw w w := Mw.refl _
  refine w_seq ?_
  refine w_reg ?_
  refine wl_box 26 (.tmp 0) (.agg #[.bool b, .int .u64 (l0 (n)), .int .u64 (l1 (n)), .int .u64 (l2 (n)), .int .u64 (l3 (n)), .int .i64 ((k : Int))]) (#[.bool b, .int .u64 (l0 (n)), .int .u64 (l1 (n)), .int .u64 (l2 (n)), .int .u64 (l3 (n)), .int .i64 ((k : Int))]) rfl rfl (fun _ => by kernel_rfl) rfl ?_
  intro k1 w1 hk hz hq Q1
  have N_k1 : w.heap.size ≤ k1 := by have := M.size; omega
  replace M := M.trans hq
  clear hk hz hq
  refine wl_mv (.const (.string ⟨#[]⟩)) (.string ⟨#[]⟩) (fun _ => rfl) rfl rfl ?_
  refine w_nil ?_
  refine xn_then ?_
  refine w_seq ?_
  refine w_reg ?_
  refine wl_load 26 (.tmp 1) (pt k1 0) (.agg #[.bool b, .int .u64 (l0 (n)), .int .u64 (l1 (n)), .int .u64 (l2 (n)), .int .u64 (l3 (n)), .int .i64 ((k : Int))]) rfl rfl (run_row Q1 26 0 6 [.bool b, .int .u64 (l0 (n)), .int .u64 (l1 (n)), .int .u64 (l2 (n)), .int .u64 (l3 (n)), .int .i64 ((k : Int))] rfl Tryd.underlying26 rfl sz26) rfl ?_
  refine wl_call 25 [(.tmp 6)] _ [.agg #[.bool b, .int .u64 (l0 (n)), .int .u64 (l1 (n)), .int .u64 (l2 (n)), .int .u64 (l3 (n)), .int .i64 ((k : Int))]] (.tuple #[.agg #[.bool b, .int .u64 (l0 ((trN k n).1)), .int .u64 (l1 ((trN k n).1)), .int .u64 (l2 ((trN k n).1)), .int .u64 (l3 ((trN k n).1)), .int .i64 ((trN k n).2 : Nat)], .int .i64 (0)]) rfl rfl (fun _ _ => by kernel_rfl) (wk (trim_ok b n k _ hn0 hnM hk18 hck)) rfl ?_
  intro w2 hq
  replace Q1 := Q1.mo hq
  replace M := M.trans hq
  clear hq
  refine wl_mv (.tmp 7) (.tuple #[.agg #[.bool b, .int .u64 (l0 ((trN k n).1)), .int .u64 (l1 ((trN k n).1)), .int .u64 (l2 ((trN k n).1)), .int .u64 (l3 ((trN k n).1)), .int .i64 ((trN k n).2 : Nat)], .int .i64 (0)]) (fun _ => rfl) rfl rfl ?_
  refine wl_un (fun v => Instr.extract v 0) (.tmp 5) (.tuple #[.agg #[.bool b, .int .u64 (l0 ((trN k n).1)), .int .u64 (l1 ((trN k n).1)), .int .u64 (l2 ((trN k n).1)), .int .u64 (l3 ((trN k n).1)), .int .i64 ((trN k n).2 : Nat)], .int .i64 (0)]) (.agg #[.bool b, .int .u64 (l0 ((trN k n).1)), .int .u64 (l1 ((trN k n).1)), .int .u64 (l2 ((trN k n).1)), .int .u64 (l3 ((trN k n).1)), .int .i64 ((trN k n).2 : Nat)]) (fun _ => rfl) rfl (by kernel_rfl) rfl ?_
  refine wl_un (fun v => Instr.extract v 1) (.tmp 5) (.tuple #[.agg #[.bool b, .int .u64 (l0 ((trN k n).1)), .int .u64 (l1 ((trN k n).1)), .int .u64 (l2 ((trN k n).1)), .int .u64 (l3 ((trN k n).1)), .int .i64 ((trN k n).2 : Nat)], .int .i64 (0)]) (.int .i64 (0)) (fun _ => rfl) rfl (by kernel_rfl) rfl ?_
  refine wl_alloc 26 #[.bool false, .int .u64 0, .int .u64 0, .int .u64 0, .int .u64 0, .int .i64 0] rfl (fun _ => by kernel_rfl) rfl ?_
  intro k2 w3 hk hz hq Q2
  have ne_k1_k2 : k1 ≠ k2 := by have := Q1.lt; omega
  have N_k2 : w.heap.size ≤ k2 := by have := M.size; omega
  replace Q1 := Q1.mo hq
  replace M := M.trans hq
  clear hk hz hq
  refine wl_st 26 (.tmp 3) (.tmp 8) k2 0 #[.bool b, .int .u64 (l0 ((trN k n).1)), .int .u64 (l1 ((trN k n).1)), .int .u64 (l2 ((trN k n).1)), .int .u64 (l3 ((trN k n).1)), .int .i64 ((trN k n).2 : Nat)] [.bool false, .int .u64 0, .int .u64 0, .int .u64 0, .int .u64 0, .int .i64 0] [.bool b, .int .u64 (l0 ((trN k n).1)), .int .u64 (l1 ((trN k n).1)), .int .u64 (l2 ((trN k n).1)), .int .u64 (l3 ((trN k n).1)), .int .i64 ((trN k n).2 : Nat)] Q2 rfl rfl rfl rfl rfl sz26 rfl rfl rfl ?_
  intro w4 hS Qn
  replace Q2 := Qn
  clear Qn
  replace Q1 := hS.other _ _ ne_k1_k2 Q1
  replace M := hS.mo _ N_k2 M
  clear hS
  refine wl_mv (.tmp 9) (.int .i64 (0)) (fun _ => rfl) rfl rfl ?_
  refine w_nil ?_
  refine xn_then ?_
  refine w_seq ?_
  refine w_seq ?_
  refine w_reg ?_
  refine wl_mv (.tmp 4) (.int .i64 (0)) (fun _ => rfl) rfl rfl ?_
  refine wl_bin (fun x y => do eqGuard .neq 30 (.tmp 10) (.const (.int .i64 (0))) x y; binOp .neq 30 x y) (.tmp 10) (.const (.int .i64 (0))) (.int .i64 (0)) (.int .i64 (0)) (.bool false) (fun _ => rfl) rfl rfl (neE (r := true) hc _ _ _) rfl ?_
  refine w_nil ?_
  refine xn_then ?_
  refine w_condF rfl ?_
  refine w_skip ?_
  refine xn_then ?_
  refine w_seq ?_
  refine w_reg ?_
  refine wl_load 26 (.tmp 3) (pt k2 0) (.agg #[.bool b, .int .u64 (l0 ((trN k n).1)), .int .u64 (l1 ((trN k n).1)), .int .u64 (l2 ((trN k n).1)), .int .u64 (l3 ((trN k n).1)), .int .i64 ((trN k n).2 : Nat)]) rfl rfl (run_row Q2 26 0 6 [.bool b, .int .u64 (l0 ((trN k n).1)), .int .u64 (l1 ((trN k n).1)), .int .u64 (l2 ((trN k n).1)), .int .u64 (l3 ((trN k n).1)), .int .i64 ((trN k n).2 : Nat)] rfl Tryd.underlying26 rfl sz26) rfl ?_
  refine wl_call 9 [(.tmp 12)] _ [.agg #[.bool b, .int .u64 (l0 ((trN k n).1)), .int .u64 (l1 ((trN k n).1)), .int .u64 (l2 ((trN k n).1)), .int .u64 (l3 ((trN k n).1)), .int .i64 ((trN k n).2 : Nat)]] (tx (txt b (trN k n).1 (trN k n).2)) rfl rfl (fun _ _ => by kernel_rfl) (text_ok b (trN k n).1 (trN k n).2 _ a0 a1 (by omega) (trN_ck hn0 hnM hk18 hck)) rfl ?_
  intro w5 hq
  replace Q1 := Q1.mo hq
  replace Q2 := Q2.mo hq
  replace M := M.trans hq
  clear hq
  refine wl_mv (.tmp 13) (tx (txt b (trN k n).1 (trN k n).2)) (fun _ => rfl) rfl rfl ?_
  refine w_nil ?_
  refine xn_then ?_
  refine w_ret ?_
  exact w_ret1 _ (tx (txt b (trN k n).1 (trN k n).2)) rfl rfl ⟨rfl, M⟩
end Go.Proofs.YtdcojpbgijkmgaaDoor.V
/-
  limb.appendDigit, whatever the number and the digit: the walk.
-/
namespace Go.Proofs.YtdcojpbgijkmgaaDoor
open Go.RowKit
/-- A number with one digit more fits. -/
def fits (A d : Int) : Bool := decide (A * 10 + d < MM)
theorem At0.st {w : World} {k j : Nat} (h : At0 w j) (hk : j ≠ k) (z : Int) : At0 (st4 w k z) j := by
  obtain ⟨⟨b0, b1, b2, b3⟩, f, s⟩ := h
  refine ⟨by simp [At4, go_sem, *], fun o => by simp [World.frozen?_setCell, f o], by simpa [World.setCell] using s⟩
set_option maxHeartbeats 1000000 in
theorem apd_any (A c : Int) (w : World) (hA0 : 0 ≤ A) (hAM : A < MM) (hc0 : 48 ≤ c) (hc1 : c ≤ 57) :
    Calls Tryd.prog 53 #[nv A, .int .u8 c] w fun e w' =>
      e = .returned (.tuple #[nv (A * 10 + (c - 48)), .bool (fits A (c - 48))]) ∧ Mo w w' := by
  have hT : (A * 10 / MM = 0 ∧ (!ov (A * 10 % MM + (c - 48))) = fits A (c - 48)) ∨ (A * 10 / MM ≠ 0 ∧ fits A (c - 48) = false) := by
    by_cases h : A * 10 / MM = 0
    · refine Or.inl ⟨h, ?_⟩
      unfold ov fits
      rw [Bool.eq_iff_iff]
      simp
      unfold MM at *
      omega
    · refine Or.inr ⟨h, decide_eq_false ?_⟩
      unfold MM at *
      omega
  have H1 : Hid (nv (A * 10 % MM + (c - 48) % MM) = nv (A * 10 + (c - 48))) := nv_add_mod _ _
  have H2 : Hid ((c - 48) % MM = c - 48) := by show _ = _; unfold MM; omega
  have hu : U1 (c - 48) := ⟨by omega, by omega⟩
  have w8 : IntKind.u8.wrap (c - 48) = c - 48 := by rw [IntKind.wrap_u8]; omega
  have w64 : IntKind.u64.wrap (c - 48) = c - 48 := by rw [IntKind.wrap_u64]; omega
  go_enter Tryd.func53, Tryd.ntmps53
  go_wp2_with fail
  refine (mulLimb_any (l0 A) (l1 A) (l2 A) (l3 A) 10 _ (u4_lb A) ⟨by decide, by decide⟩).mono ?_
  rintro e w1 ⟨rfl, hm1⟩
  rw [vl_lb A hA0 hAM]
  have Z1 : At0 w1 (w.heap.size + 1) := At0.mo ⟨by simp [At4, go_sem], fun o => by simp [go_sem], by simp⟩ hm1
  have M1 : Mo w w1 := (((Mo.refl _).alloc _ _).alloc _ _).trans hm1
  have a : Mo w1 (w1.alloc (.cells #[.int .u64 (l0 (A * 10)), .int .u64 (l1 (A * 10)), .int .u64 (l2 (A * 10)), .int .u64 (l3 (A * 10))] 24)) := (Mo.refl _).alloc _ _
  have Z2 := Z1.mo a
  have M2 := M1.trans a
  have n2 := AtN.new w1 (A * 10)
  have hz : w.heap.size + 1 < w1.heap.size := Z1.2.2
  clear hm1 a M1 Z1
  go_upto_region 2 with fail
  revert Z2 M2 n2
  generalize w1.alloc (.cells #[.int .u64 (l0 (A * 10)), .int .u64 (l1 (A * 10)), .int .u64 (l2 (A * 10)), .int .u64 (l3 (A * 10))] 24) = W0
  intro Z2 M2 n2
  go_cut [8, 9] from 15 to 23 (fun s8 s9 wx => ∃ k, s8 = .pointer (some ⟨k, 0, none⟩) ∧ s9 = .bool (ov (A * 10 % MM + (c - 48))) ∧ w.heap.size + 1 < k ∧ Mo w wx ∧ At0 wx (w.heap.size + 1) ∧ AtN wx k (A * 10 + (c - 48)))
  case first =>
    have nz := n2
    obtain ⟨⟨i0, i1, i2, i3⟩, _, x0⟩ := nz
    go_region_held3 (fun w' => w'.cell? ⟨w1.heap.size, 0, none⟩ = some (.int .u64 (l0 (A * 10))) ∧ w'.cell? ⟨w1.heap.size, 1, none⟩ = some (.int .u64 (l1 (A * 10))) ∧ w'.cell? ⟨w1.heap.size, 2, none⟩ = some (.int .u64 (l2 (A * 10))) ∧ w'.cell? ⟨w1.heap.size, 3, none⟩ = some (.int .u64 (l3 (A * 10)))) (simp [go_sem, World.cell?_alloc_past, *])
      (first | (go_at_call 58; refine (from20_any (c - 48) _ hu).mono ?_; rintro e w2 ⟨rfl, hm2⟩; have m2 : Mo W0 w2 := Mo.trans (by repeat (first | with_reducible exact Mo.refl _ | with_reducible apply Mo.drew | with_reducible apply Mo.alloc)) hm2; (try (with_reducible have k2 := At0.mk1 hm2)); obtain ⟨⟨e0, e1, e2, e3⟩, _, y1⟩ := n2.mo m2) | (go_at_call 72; refine (add_any (l0 (A * 10)) (l1 (A * 10)) (l2 (A * 10)) (l3 (A * 10)) (l0 (c - 48)) (l1 (c - 48)) (l2 (c - 48)) (l3 (c - 48)) _ (u4_lb _) (u4_lb _)).mono ?_; rintro e w3 ⟨rfl, hm3⟩; rw [vl_nv (A * 10), vl_nv (c - 48), H1.out, H2.out]; have m3 : Mo w2 w3 := Mo.trans (by repeat (first | with_reducible exact Mo.refl _ | with_reducible apply Mo.drew | with_reducible apply Mo.alloc)) hm3; (try (with_reducible have k3 := At0.mk2 hm3)); (try (with_reducible have k3 := k2.mo m3)); (try have k4 := k3); (try obtain ⟨⟨g0, g1, g2, g3⟩, ff, y9⟩ := k3); (try have ff := fun o => ff o); obtain ⟨⟨f0, f1, f2, f3⟩, _, y2⟩ := n2.mo (m2.trans m3)))
    all_goals
      go_wp2
      go_meet
      case rel =>
        have m := m2.trans m3
        have z1 := m2.size
        have z2 := m3.size
        refine ⟨_, rfl, rfl, by omega, ?_, ?_, ?_⟩
        · first | with_reducible exact (M2.trans m).alloc _ _ | exact (M2.trans m).st4 (by omega) _
        · first | with_reducible exact (Z2.mo m).mo ((Mo.refl _).alloc _ _) | exact (Z2.mo m).st (by omega) _
        · first | with_reducible exact AtN.new _ _ | exact k4.same _
  case rest =>
    obtain ⟨k, rfl, rfl, hk, M, Z, n⟩ := hcut
    obtain ⟨⟨i0, i1, i2, i3⟩, _, x0⟩ := n
    have Zz := Z
    obtain ⟨⟨c0, c1, c2, c3⟩, fc, zc⟩ := Zz
    have fc := fun o => fc o
    clear Z2 M2 n2
    rcases hT with ⟨hT, hf⟩ | ⟨hT, hf⟩
    · have tb : (A * 10 / MM == 0) = true := by rw [hT]; rfl
      have HF : Hid _ := hf
      clear hT hf
      go_wp2
      refine bodyPost_ret (v := .tuple #[nv (A * 10 + (c - 48)), .bool (!ov (A * 10 % MM + (c - 48)))]) (by simp [results, Tryd.results53, go_sem, c0, c1, c2, c3]) rfl ?_
      exact ⟨by rw [HF.out], M.st4 (by omega) _⟩
    · have tb : (A * 10 / MM == 0) = false := by simp [hT]
      have HF : Hid _ := hf
      clear hT hf
      go_wp2
      refine bodyPost_ret (v := .tuple #[nv (A * 10 + (c - 48)), .bool false]) (by simp [results, Tryd.results53, go_sem, c0, c1, c2, c3]) rfl ?_
      exact ⟨by rw [HF.out], M.st4 (by omega) _⟩
end Go.Proofs.YtdcojpbgijkmgaaDoor
/-
  limb.Parse of a text of digits whose number has room: the walk.
-/
namespace Go.Proofs.YtdcojpbgijkmgaaDoor
open Go.RowKit
/-- The number that bytes say, as decimal digits. -/
def pv (l : List UInt8) : Int := l.foldl (fun v c => v * 10 + ((c.toNat : Int) - 48)) 0
theorem pv_snoc (l : List UInt8) (c : UInt8) : pv (l ++ [c]) = pv l * 10 + ((c.toNat : Int) - 48) := by unfold pv; rw [List.foldl_append]; rfl
/-- The world between two bytes. -/
def PW (w wr : World) (v : Int) : Prop := Mo w wr ∧ At0 wr w.heap.size ∧ AtN wr (w.heap.size + 1) v
theorem PW.mo {w wr w1 : World} {v : Int} (h : PW w wr v) (m : Mo wr w1) : PW w w1 v := ⟨h.1.trans m, h.2.1.mo m, h.2.2.mo m⟩
theorem PW.put {w w1 : World} {v : Int} (h : PW w w1 v) (z : Int) : PW w (st4 w1 (w.heap.size + 1) z) z :=
  ⟨h.1.st4 (by omega) z, h.2.1.st (by omega) z, h.2.2.same z⟩
theorem PW.start (w : World) : PW w ((w.alloc (.cells #[.int .u64 0, .int .u64 0, .int .u64 0, .int .u64 0] 24)).alloc (.cells #[.int .u64 0, .int .u64 0, .int .u64 0, .int .u64 0] 24)) 0 := by
  have z0 : l0 0 = 0 := by decide
  have z1 : l1 0 = 0 := by decide
  have z2 : l2 0 = 0 := by decide
  have z3 : l3 0 = 0 := by decide
  exact ⟨((Mo.refl _).alloc _ _).alloc _ _, ⟨by simp [At4, go_sem], fun o => by simp [go_sem], by simp <;> omega⟩, ⟨by simp [At4, go_sem, z0, z1, z2, z3], fun o => by simp [go_sem], by simp⟩⟩
set_option maxHeartbeats 1000000 in
theorem parse_yes (s : ByteArray) (w : World) (hs : s.size ≤ maxLen) (h0 : s.toList.isEmpty = false) (hd : Hid (∀ (k : Nat) (h : k < s.size), 48 ≤ (s[k].toNat : Int) ∧ (s[k].toNat : Int) ≤ 57)) (hp : 0 < s.size) (hz : Hid (s.size = 1 ∨ ((s[0].toNat : Int) == 48) = false))
    (hv : Hid (∀ k, k ≤ s.size → 0 ≤ pv (s.data.toList.take k) ∧ pv (s.data.toList.take k) < MM)) :
    Calls Tryd.prog 29 #[.string s] w fun e w' => e = .returned (.tuple #[nv (pv s.data.toList), .int .i64 0]) ∧ Mo w w' := by
  have HS := PW.start w
  have HS' : Hid _ := HS
  have hs' := hs
  unfold maxLen at hs
  clear HS
  go_enter Tryd.func29, Tryd.ntmps29
  go_wp2_with fail
  refine (isd_yes s _ hs' h0 hd hp hz.out).mono ?_
  rintro e w1 ⟨rfl, rfl⟩
  clear h0
  go_wp2
  go_loopw [13] (fun i wr => ∃ k : Nat, k ≤ s.size ∧ i = .int .i64 k ∧ PW w wr (pv (s.data.toList.take k))) (fun i _ => s.size - (intOf i).toNat)
  case atStart => exact ⟨0, Nat.zero_le _, rfl, HS'.out⟩
  case round =>
    obtain ⟨k, hk, rfl, hw⟩ := hrel
    by_cases hlt : k < s.size
    · obtain ⟨b1, b2⟩ := hd.out k hlt
      have hw0 := hw
      obtain ⟨_, _, ⟨⟨c0, c1, c2, c3⟩, _, _⟩⟩ := hw
      have v1 := hv.out k hk
      have v2 := hv.out (k + 1) hlt
      rw [take_snoc' s k hlt, pv_snoc] at v2
      have Hf : Hid (fits (pv (s.data.toList.take k)) ((s[k].toNat : Int) - 48) = true) := decide_eq_true v2.2
      have Hn : Hid (pv (s.data.toList.take k) * 10 + ((s[k].toNat : Int) - 48) = pv (s.data.toList.take (k + 1))) := by
        show _ = _
        rw [take_snoc' s k hlt, pv_snoc]
      have V1 : Hid _ := v1
      clear v1 v2
      generalize pv (s.data.toList.take k) = V at *
      go_wp2
      go_region_with
        (first | (go_at_call 53; refine (apd_any V (s[k].toNat : Int) _ V1.out.1 V1.out.2 b1 b2).mono ?_; rintro e w2 ⟨rfl, hm2⟩; rw [Hf.out, Hn.out]; have hw1 := hw0.mo (Mo.trans (by repeat (first | with_reducible exact Mo.refl _ | with_reducible apply Mo.drew)) hm2); have hw2 := hw1; obtain ⟨_, _, ⟨⟨c0, c1, c2, c3⟩, ff, _⟩⟩ := hw2; have ff := fun o => ff o))
      all_goals
        go_wp2
        go_roundw
        case rel => exact ⟨k + 1, by omega, by go_num, hw1.put _⟩
        case measure => simp [intOf]; omega
    · obtain ⟨m, ⟨⟨d0, d1, d2, d3⟩, fd, zd⟩, ⟨⟨c0, c1, c2, c3⟩, _, _⟩⟩ := hw
      have fd := fun o => fd o
      have Hk : Hid (s.data.toList.take k = s.data.toList) := List.take_of_length_le (by simp; omega)
      rw [Hk.out] at c0 c1 c2 c3
      clear Hk
      go_wp2
      refine bodyPost_ret (v := .tuple #[nv (pv s.data.toList), .int .i64 0]) (by simp [results, Tryd.results29, go_sem, d0, d1, d2, d3]) rfl ?_
      exact ⟨rfl, m.st4 (Nat.le_refl _) _⟩
end Go.Proofs.YtdcojpbgijkmgaaDoor
/-
  Texts: isDigits, Parse, and the document's Parse, at every text.
-/
namespace Go.Proofs.YtdcojpbgijkmgaaDoor
open Go.RowKit
theorem eqe_run {s : ByteArray} {r : Bool} (h : s.toList.isEmpty = r) (x y : Operand) (w : World) : (do eqGuard .eql 9 x y (.string s) (.string ⟨#[]⟩); binOp .eql 9 (.string s) (.string ⟨#[]⟩)).run Tryd.prog w = .ok (.bool r) w := by
  subst h; simp [go_sem]
theorem idx_s (s : ByteArray) (k : Nat) (h : k < s.size) (w : World) : (Instr.index 9 (.string s) (.int .i64 (k : Int))).run Tryd.prog w = .ok (.int .u8 (s[k].toNat : Int)) w := by
  simp [go_sem, h]
theorem len_run (ρ : Operand → Value) (x : Operand) (s : ByteArray) (hx : ρ x = .string s) (dst : Option Tmp) (type : TypeId) (pos : String) (after : Array Edge) (guard : Option (Nat × Bool)) (w : World) : (execOp ρ { dst, op := .call { callee := .builtin .len, args := #[x], argTypes := #[9] }, type, pos, after, guard }).run Tryd.prog w = .ok (.value (.int .i64 (s.size : Int))) w := by
  simp [go_sem, hx]
theorem ls5 {a b : Int} {r : Bool} (h : decide (a < b) = r) (x y : Operand) (w : World) : (do eqGuard .lss 5 x y (.int .u8 a) (.int .u8 b); binOp .lss 5 (.int .u8 a) (.int .u8 b)).run Tryd.prog w = .ok (.bool r) w := by
  subst h; kernel_rfl
theorem add1_run {k : Nat} (hk : k ≤ 9223372036854775806) (x y : Operand) (w : World) : (do eqGuard .add 3 x y (.int .i64 (k : Int)) (.int .i64 1); binOp .add 3 (.int .i64 (k : Int)) (.int .i64 1)).run Tryd.prog w = .ok (.int .i64 ((k + 1 : Nat) : Int)) w := by
  have e : (do eqGuard .add 3 x y (.int .i64 (k : Int)) (.int .i64 1); binOp .add 3 (.int .i64 (k : Int)) (.int .i64 1)).run Tryd.prog w = .ok (.int .i64 (IntKind.i64.wrap ((k : Int) + 1))) w := by kernel_rfl
  have h : IntKind.i64.wrap ((k : Int) + 1) = ((k + 1 : Nat) : Int) := by rw [IntKind.wrap_i64]; omega
  rw [e, h]
theorem gt5_run {a b : Int} {r : Bool} (h : decide (a > b) = r) (x y : Operand) (w : World) : (do eqGuard .gtr 5 x y (.int .u8 a) (.int .u8 b); binOp .gtr 5 (.int .u8 a) (.int .u8 b)).run Tryd.prog w = .ok (.bool r) w := by
  subst h; kernel_rfl
theorem eq5_run {a b : Int} {r : Bool} (h : (a == b) = r) (x y : Operand) (w : World) : (do eqGuard .eql 5 x y (.int .u8 a) (.int .u8 b); binOp .eql 5 (.int .u8 a) (.int .u8 b)).run Tryd.prog w = .ok (.bool r) w := by
  subst h; kernel_rfl
theorem lt3_run {a b : Int} {r : Bool} (h : decide (a < b) = r) (x y : Operand) (w : World) : (do eqGuard .lss 3 x y (.int .i64 a) (.int .i64 b); binOp .lss 3 (.int .i64 a) (.int .i64 b)).run Tryd.prog w = .ok (.bool r) w := by
  subst h; kernel_rfl
theorem gt3_run {a b : Int} {r : Bool} (h : decide (a > b) = r) (x y : Operand) (w : World) : (do eqGuard .gtr 3 x y (.int .i64 a) (.int .i64 b); binOp .gtr 3 (.int .i64 a) (.int .i64 b)).run Tryd.prog w = .ok (.bool r) w := by
  subst h; kernel_rfl
theorem idx_0 (s : ByteArray) (h : 0 < s.size) (w : World) : (Instr.index 9 (.string s) (.int .i64 0)).run Tryd.prog w = .ok (.int .u8 (s[0].toNat : Int)) w := idx_s s 0 h w
/-- The first k bytes are digits. -/
def dgs (s : ByteArray) (k : Nat) : Prop := ∀ (j : Nat) (h : j < s.size), j < k → 48 ≤ (s[j].toNat : Int) ∧ (s[j].toNat : Int) ≤ 57
/-- A text of digits with no 0 ahead of others. -/
def isT (s : ByteArray) : Prop := ∃ h : 0 < s.size, ¬ (s.size > 1 ∧ (s[0].toNat : Int) = 48) ∧ dgs s s.size
theorem isT_mk {s : ByteArray} {k : Nat} (hp : 0 < s.size) (hl : ¬ (s.size > 1 ∧ (s[0].toNat : Int) = 48)) (hk : k = s.size) (hd : dgs s k) : isT s := ⟨hp, hl, by rw [← hk]; exact hd⟩
theorem emp_iff (s : ByteArray) : s.toList.isEmpty = decide (s.size = 0) := by
  rw [ByteArray.toList_eq]
  have e : s.size = s.data.toList.length := by rw [Array.length_toList]; rfl
  rw [e]
  cases s.data.toList <;> rfl
theorem dgs_succ {s : ByteArray} {k : Nat} (h : k < s.size) (hd : dgs s k) (a : 48 ≤ (s[k].toNat : Int)) (b : (s[k].toNat : Int) ≤ 57) : dgs s (k + 1) := fun j hj hjk => by
  by_cases e : j = k
  · subst e; exact ⟨a, b⟩
  · exact hd j hj (by omega)
theorem isd_emp (s : ByteArray) (w : World) (h0 : s.toList.isEmpty = true) : Calls Tryd.prog 52 #[.string s] w fun e w' => e = .returned (.bool false) ∧ Mo w w' := by
  refine w_enter 32 Tryd.func52 Tryd.ntmps52 rfl rfl ?_
  have M : Mo w w := Mo.refl _
  refine w_seq ?_
  refine w_reg ?_
  refine wl_mv (.const (.bool false)) (.bool false) (fun _ => rfl) rfl rfl ?_
  refine w_nil ?_
  refine xn_then ?_
  refine w_seq ?_
  refine w_seq ?_
  refine w_reg ?_
  refine wl_mv (.tmp 0) (.string s) (fun _ => rfl) rfl rfl ?_
  refine wl_bin (fun x y => do eqGuard .eql 9 (.tmp 4) (.const (.string ⟨#[]⟩)) x y; binOp .eql 9 x y) (.tmp 4) (.const (.string ⟨#[]⟩)) (.string s) (.string ⟨#[]⟩) (.bool true) (fun _ => rfl) rfl rfl (eqe_run h0 _ _ _) rfl ?_
  refine wl_mv (.tmp 5) (.bool true) (fun _ => rfl) rfl rfl ?_
  refine wl_skip rfl ?_
  refine wl_skip rfl ?_
  refine wl_skip rfl ?_
  refine wl_skip rfl ?_
  refine wl_skip rfl ?_
  refine wl_skip rfl ?_
  refine wl_skip rfl ?_
  refine wl_skip rfl ?_
  refine wl_pick (.tmp 6) (.const (.bool true)) (.tmp 14) true (.bool true) (fun _ => rfl) rfl rfl rfl ?_
  refine w_nil ?_
  refine xn_then ?_
  refine w_condT rfl ?_
  refine w_seq ?_
  refine w_reg ?_
  refine wl_mv (.const (.bool false)) (.bool false) (fun _ => rfl) rfl rfl ?_
  refine w_nil ?_
  refine xn_then ?_
  refine w_ret ?_
  refine xr_then ?_
  exact w_ret1 _ (.bool false) rfl rfl ⟨rfl, M⟩
theorem isd_lead (s : ByteArray) (w : World) (h0 : s.toList.isEmpty = false) (hp : 0 < s.size) (h1 : decide ((s.size : Int) > 1) = true) (hz : ((s[0].toNat : Int) == 48) = true) : Calls Tryd.prog 52 #[.string s] w fun e w' => e = .returned (.bool false) ∧ Mo w w' := by
  refine w_enter 32 Tryd.func52 Tryd.ntmps52 rfl rfl ?_
  have M : Mo w w := Mo.refl _
  refine w_seq ?_
  refine w_reg ?_
  refine wl_mv (.const (.bool false)) (.bool false) (fun _ => rfl) rfl rfl ?_
  refine w_nil ?_
  refine xn_then ?_
  refine w_seq ?_
  refine w_seq ?_
  refine w_reg ?_
  refine wl_mv (.tmp 0) (.string s) (fun _ => rfl) rfl rfl ?_
  refine wl_bin (fun x y => do eqGuard .eql 9 (.tmp 4) (.const (.string ⟨#[]⟩)) x y; binOp .eql 9 x y) (.tmp 4) (.const (.string ⟨#[]⟩)) (.string s) (.string ⟨#[]⟩) (.bool false) (fun _ => rfl) rfl rfl (eqe_run h0 _ _ _) rfl ?_
  refine wl_mv (.tmp 5) (.bool false) (fun _ => rfl) rfl rfl ?_
  refine wl_mv (.tmp 0) (.string s) (fun _ => rfl) rfl rfl ?_
  refine wl_val (.int .i64 ((s.size : Int))) (len_run _ _ s rfl _ _ _ _ _ _) rfl ?_
  refine wl_bin (fun x y => do eqGuard .gtr 3 (.tmp 8) (.const (.int .i64 (1))) x y; binOp .gtr 3 x y) (.tmp 8) (.const (.int .i64 (1))) (.int .i64 ((s.size : Int))) (.int .i64 (1)) (.bool true) (fun _ => rfl) rfl rfl (gt3_run h1 _ _ _) rfl ?_
  refine wl_mv (.tmp 9) (.bool true) (fun _ => rfl) rfl rfl ?_
  refine wl_mv (.tmp 0) (.string s) (fun _ => rfl) rfl rfl ?_
  refine wl_bin (fun x y => Instr.index 9 x y) (.tmp 11) (.const (.int .i64 (0))) (.string s) (.int .i64 (0)) (.int .u8 (s[0].toNat : Int)) (fun _ => rfl) rfl rfl (idx_0 s hp _) rfl ?_
  refine wl_bin (fun x y => do eqGuard .eql 5 (.tmp 12) (.const (.int .u8 (48))) x y; binOp .eql 5 x y) (.tmp 12) (.const (.int .u8 (48))) (.int .u8 (s[0].toNat : Int)) (.int .u8 (48)) (.bool true) (fun _ => rfl) rfl rfl (eq5_run hz _ _ _) rfl ?_
  refine wl_pick (.tmp 10) (.tmp 13) (.const (.bool false)) true (.bool true) (fun _ => rfl) rfl rfl rfl ?_
  refine wl_pick (.tmp 6) (.const (.bool true)) (.tmp 14) false (.bool true) (fun _ => rfl) rfl rfl rfl ?_
  refine w_nil ?_
  refine xn_then ?_
  refine w_condT rfl ?_
  refine w_seq ?_
  refine w_reg ?_
  refine wl_mv (.const (.bool false)) (.bool false) (fun _ => rfl) rfl rfl ?_
  refine w_nil ?_
  refine xn_then ?_
  refine w_ret ?_
  refine xr_then ?_
  exact w_ret1 _ (.bool false) rfl rfl ⟨rfl, M⟩
theorem isd_l1 (s : ByteArray) (w : World) [Decidable (isT s)] (hs : s.size ≤ maxLen) (h0 : s.toList.isEmpty = false) (hp : 0 < s.size) (hlead : ¬ (s.size > 1 ∧ (s[0].toNat : Int) = 48)) (h1 : decide ((s.size : Int) > 1) = false) : Calls Tryd.prog 52 #[.string s] w fun e w' => e = .returned (.bool (decide (isT s))) ∧ Mo w w' := by
  refine w_enter 32 Tryd.func52 Tryd.ntmps52 rfl rfl ?_
  have M : Mo w w := Mo.refl _
  refine w_seq ?_
  refine w_reg ?_
  refine wl_mv (.const (.bool false)) (.bool false) (fun _ => rfl) rfl rfl ?_
  refine w_nil ?_
  refine xn_then ?_
  refine w_seq ?_
  refine w_seq ?_
  refine w_reg ?_
  refine wl_mv (.tmp 0) (.string s) (fun _ => rfl) rfl rfl ?_
  refine wl_bin (fun x y => do eqGuard .eql 9 (.tmp 4) (.const (.string ⟨#[]⟩)) x y; binOp .eql 9 x y) (.tmp 4) (.const (.string ⟨#[]⟩)) (.string s) (.string ⟨#[]⟩) (.bool false) (fun _ => rfl) rfl rfl (eqe_run h0 _ _ _) rfl ?_
  refine wl_mv (.tmp 5) (.bool false) (fun _ => rfl) rfl rfl ?_
  refine wl_mv (.tmp 0) (.string s) (fun _ => rfl) rfl rfl ?_
  refine wl_val (.int .i64 ((s.size : Int))) (len_run _ _ s rfl _ _ _ _ _ _) rfl ?_
  refine wl_bin (fun x y => do eqGuard .gtr 3 (.tmp 8) (.const (.int .i64 (1))) x y; binOp .gtr 3 x y) (.tmp 8) (.const (.int .i64 (1))) (.int .i64 ((s.size : Int))) (.int .i64 (1)) (.bool false) (fun _ => rfl) rfl rfl (gt3_run h1 _ _ _) rfl ?_
  refine wl_mv (.tmp 9) (.bool false) (fun _ => rfl) rfl rfl ?_
  refine wl_skip rfl ?_
  refine wl_skip rfl ?_
  refine wl_skip rfl ?_
  refine wl_pick (.tmp 10) (.tmp 13) (.const (.bool false)) false (.bool false) (fun _ => rfl) rfl rfl rfl ?_
  refine wl_pick (.tmp 6) (.const (.bool true)) (.tmp 14) false (.bool false) (fun _ => rfl) rfl rfl rfl ?_
  refine w_nil ?_
  refine xn_then ?_
  refine w_condF rfl ?_
  refine w_skip ?_
  refine xn_then ?_
  refine w_seq ?_
  refine w_seq ?_
  refine w_reg ?_
  refine wl_mv (.tmp 0) (.string s) (fun _ => rfl) rfl rfl ?_
  refine wl_val (.int .i64 ((s.size : Int))) (len_run _ _ s rfl _ _ _ _ _ _) rfl ?_
  refine wl_mv (.const (.int .i64 (0))) (.int .i64 (0)) (fun _ => rfl) rfl rfl ?_
  refine w_nil ?_
  refine xn_then ?_
  refine w_block ?_
  refine w_loop (fun m l w1 => ∃ k : Nat, k + m = s.size ∧ look l 0 = .string s ∧ look l 17 = .int .i64 (s.size : Int) ∧ look l 18 = .int .i64 (k : Int) ∧ dgs s k ∧ Mo w w1) s.size ⟨0, by omega, rfl, rfl, rfl, fun j _ h => absurd h (Nat.not_lt_zero _), M⟩ ?_
  clear M
  rintro m l wl ⟨k, hk, e0, e17, e18, hd, M⟩
  by_cases hlt : k < s.size
  · have hl : decide ((k : Int) < (s.size : Int)) = true := decide_eq_true (by omega)
    cases ha : decide ((s[k].toNat : Int) < 48) with
    | true =>
      refine w_seq ?_
      refine w_reg ?_
      refine wl_bin (fun x y => do eqGuard .lss 3 (.tmp 18) (.tmp 17) x y; binOp .lss 3 x y) (.tmp 18) (.tmp 17) (.int .i64 ((k : Int))) (.int .i64 ((s.size : Int))) (.bool true) (fun _ => rfl) e18 e17 (lt3_run hl _ _ _) rfl ?_
      refine w_nil ?_
      refine xn_then ?_
      refine w_seq ?_
      refine w_condT rfl ?_
      refine w_skip ?_
      refine xn_then ?_
      refine w_seq ?_
      refine w_block ?_
      refine w_seq ?_
      refine w_reg ?_
      refine wl_mv (.tmp 18) (.int .i64 ((k : Int))) (fun _ => rfl) e18 rfl ?_
      refine wl_mv (.tmp 20) (.int .i64 ((k : Int))) (fun _ => rfl) rfl rfl ?_
      refine w_nil ?_
      refine xn_then ?_
      refine w_seq ?_
      refine w_reg ?_
      refine wl_mv (.tmp 0) (.string s) (fun _ => rfl) e0 rfl ?_
      refine wl_mv (.tmp 3) (.int .i64 ((k : Int))) (fun _ => rfl) rfl rfl ?_
      refine wl_bin (fun x y => Instr.index 9 x y) (.tmp 21) (.tmp 22) (.string s) (.int .i64 ((k : Int))) (.int .u8 (s[k].toNat : Int)) (fun _ => rfl) rfl rfl (idx_s s k hlt _) rfl ?_
      refine wl_bin (fun x y => do eqGuard .lss 5 (.tmp 23) (.const (.int .u8 (48))) x y; binOp .lss 5 x y) (.tmp 23) (.const (.int .u8 (48))) (.int .u8 (s[k].toNat : Int)) (.int .u8 (48)) (.bool true) (fun _ => rfl) rfl rfl (ls5 ha _ _ _) rfl ?_
      refine wl_mv (.tmp 24) (.bool true) (fun _ => rfl) rfl rfl ?_
      refine wl_skip rfl ?_
      refine wl_skip rfl ?_
      refine wl_skip rfl ?_
      refine wl_skip rfl ?_
      refine wl_pick (.tmp 25) (.const (.bool true)) (.tmp 29) true (.bool true) (fun _ => rfl) rfl rfl rfl ?_
      refine w_nil ?_
      refine xn_then ?_
      refine w_condT rfl ?_
      refine w_seq ?_
      refine w_reg ?_
      refine wl_mv (.const (.bool false)) (.bool false) (fun _ => rfl) rfl rfl ?_
      refine w_nil ?_
      refine xn_then ?_
      refine w_ret ?_
      refine xr_blk ?_
      refine xr_then ?_
      refine xr_then ?_
      refine xr_blk ?_
      refine xr_then ?_
      exact w_ret1 _ (.bool false) rfl rfl ⟨by rw [decide_eq_false (fun hT : isT s => by obtain ⟨_, _, h3⟩ := hT; have := h3 k hlt hlt; have := of_decide_eq_true ha; omega)], M⟩
    | false =>
      cases hb : decide ((s[k].toNat : Int) > 57) with
      | true =>
        refine w_seq ?_
        refine w_reg ?_
        refine wl_bin (fun x y => do eqGuard .lss 3 (.tmp 18) (.tmp 17) x y; binOp .lss 3 x y) (.tmp 18) (.tmp 17) (.int .i64 ((k : Int))) (.int .i64 ((s.size : Int))) (.bool true) (fun _ => rfl) e18 e17 (lt3_run hl _ _ _) rfl ?_
        refine w_nil ?_
        refine xn_then ?_
        refine w_seq ?_
        refine w_condT rfl ?_
        refine w_skip ?_
        refine xn_then ?_
        refine w_seq ?_
        refine w_block ?_
        refine w_seq ?_
        refine w_reg ?_
        refine wl_mv (.tmp 18) (.int .i64 ((k : Int))) (fun _ => rfl) e18 rfl ?_
        refine wl_mv (.tmp 20) (.int .i64 ((k : Int))) (fun _ => rfl) rfl rfl ?_
        refine w_nil ?_
        refine xn_then ?_
        refine w_seq ?_
        refine w_reg ?_
        refine wl_mv (.tmp 0) (.string s) (fun _ => rfl) e0 rfl ?_
        refine wl_mv (.tmp 3) (.int .i64 ((k : Int))) (fun _ => rfl) rfl rfl ?_
        refine wl_bin (fun x y => Instr.index 9 x y) (.tmp 21) (.tmp 22) (.string s) (.int .i64 ((k : Int))) (.int .u8 (s[k].toNat : Int)) (fun _ => rfl) rfl rfl (idx_s s k hlt _) rfl ?_
        refine wl_bin (fun x y => do eqGuard .lss 5 (.tmp 23) (.const (.int .u8 (48))) x y; binOp .lss 5 x y) (.tmp 23) (.const (.int .u8 (48))) (.int .u8 (s[k].toNat : Int)) (.int .u8 (48)) (.bool false) (fun _ => rfl) rfl rfl (ls5 ha _ _ _) rfl ?_
        refine wl_mv (.tmp 24) (.bool false) (fun _ => rfl) rfl rfl ?_
        refine wl_mv (.tmp 0) (.string s) (fun _ => rfl) e0 rfl ?_
        refine wl_mv (.tmp 3) (.int .i64 ((k : Int))) (fun _ => rfl) rfl rfl ?_
        refine wl_bin (fun x y => Instr.index 9 x y) (.tmp 26) (.tmp 27) (.string s) (.int .i64 ((k : Int))) (.int .u8 (s[k].toNat : Int)) (fun _ => rfl) rfl rfl (idx_s s k hlt _) rfl ?_
        refine wl_bin (fun x y => do eqGuard .gtr 5 (.tmp 28) (.const (.int .u8 (57))) x y; binOp .gtr 5 x y) (.tmp 28) (.const (.int .u8 (57))) (.int .u8 (s[k].toNat : Int)) (.int .u8 (57)) (.bool true) (fun _ => rfl) rfl rfl (gt5_run hb _ _ _) rfl ?_
        refine wl_pick (.tmp 25) (.const (.bool true)) (.tmp 29) false (.bool true) (fun _ => rfl) rfl rfl rfl ?_
        refine w_nil ?_
        refine xn_then ?_
        refine w_condT rfl ?_
        refine w_seq ?_
        refine w_reg ?_
        refine wl_mv (.const (.bool false)) (.bool false) (fun _ => rfl) rfl rfl ?_
        refine w_nil ?_
        refine xn_then ?_
        refine w_ret ?_
        refine xr_blk ?_
        refine xr_then ?_
        refine xr_then ?_
        refine xr_blk ?_
        refine xr_then ?_
        exact w_ret1 _ (.bool false) rfl rfl ⟨by rw [decide_eq_false (fun hT : isT s => by obtain ⟨_, _, h3⟩ := hT; have := h3 k hlt hlt; have := of_decide_eq_true hb; omega)], M⟩
      | false =>
        refine w_seq ?_
        refine w_reg ?_
        refine wl_bin (fun x y => do eqGuard .lss 3 (.tmp 18) (.tmp 17) x y; binOp .lss 3 x y) (.tmp 18) (.tmp 17) (.int .i64 ((k : Int))) (.int .i64 ((s.size : Int))) (.bool true) (fun _ => rfl) e18 e17 (lt3_run hl _ _ _) rfl ?_
        refine w_nil ?_
        refine xn_then ?_
        refine w_seq ?_
        refine w_condT rfl ?_
        refine w_skip ?_
        refine xn_then ?_
        refine w_seq ?_
        refine w_block ?_
        refine w_seq ?_
        refine w_reg ?_
        refine wl_mv (.tmp 18) (.int .i64 ((k : Int))) (fun _ => rfl) e18 rfl ?_
        refine wl_mv (.tmp 20) (.int .i64 ((k : Int))) (fun _ => rfl) rfl rfl ?_
        refine w_nil ?_
        refine xn_then ?_
        refine w_seq ?_
        refine w_reg ?_
        refine wl_mv (.tmp 0) (.string s) (fun _ => rfl) e0 rfl ?_
        refine wl_mv (.tmp 3) (.int .i64 ((k : Int))) (fun _ => rfl) rfl rfl ?_
        refine wl_bin (fun x y => Instr.index 9 x y) (.tmp 21) (.tmp 22) (.string s) (.int .i64 ((k : Int))) (.int .u8 (s[k].toNat : Int)) (fun _ => rfl) rfl rfl (idx_s s k hlt _) rfl ?_
        refine wl_bin (fun x y => do eqGuard .lss 5 (.tmp 23) (.const (.int .u8 (48))) x y; binOp .lss 5 x y) (.tmp 23) (.const (.int .u8 (48))) (.int .u8 (s[k].toNat : Int)) (.int .u8 (48)) (.bool false) (fun _ => rfl) rfl rfl (ls5 ha _ _ _) rfl ?_
        refine wl_mv (.tmp 24) (.bool false) (fun _ => rfl) rfl rfl ?_
        refine wl_mv (.tmp 0) (.string s) (fun _ => rfl) e0 rfl ?_
        refine wl_mv (.tmp 3) (.int .i64 ((k : Int))) (fun _ => rfl) rfl rfl ?_
        refine wl_bin (fun x y => Instr.index 9 x y) (.tmp 26) (.tmp 27) (.string s) (.int .i64 ((k : Int))) (.int .u8 (s[k].toNat : Int)) (fun _ => rfl) rfl rfl (idx_s s k hlt _) rfl ?_
        refine wl_bin (fun x y => do eqGuard .gtr 5 (.tmp 28) (.const (.int .u8 (57))) x y; binOp .gtr 5 x y) (.tmp 28) (.const (.int .u8 (57))) (.int .u8 (s[k].toNat : Int)) (.int .u8 (57)) (.bool false) (fun _ => rfl) rfl rfl (gt5_run hb _ _ _) rfl ?_
        refine wl_pick (.tmp 25) (.const (.bool true)) (.tmp 29) false (.bool false) (fun _ => rfl) rfl rfl rfl ?_
        refine w_nil ?_
        refine xn_then ?_
        refine w_condF rfl ?_
        refine w_skip ?_
        refine xn_blk ?_
        refine xn_then ?_
        refine w_reg ?_
        refine wl_bin (fun x y => do eqGuard .add 3 (.tmp 18) (.const (.int .i64 (1))) x y; binOp .add 3 x y) (.tmp 18) (.const (.int .i64 (1))) (.int .i64 ((k : Int))) (.int .i64 (1)) (.int .i64 (((k + 1 : Nat) : Int))) (fun _ => rfl) e18 rfl (add1_run (by unfold maxLen at hs; omega) _ _ _) rfl ?_
        refine wl_mv (.tmp 31) (.int .i64 (((k + 1 : Nat) : Int))) (fun _ => rfl) rfl rfl ?_
        refine w_nil ?_
        exact xn_loop (s.size - (k + 1)) (by omega) ⟨k + 1, by omega, e0, e17, rfl, dgs_succ hlt hd (by have := of_decide_eq_false ha; omega) (by have := of_decide_eq_false hb; omega), M⟩
  · have hl : decide ((k : Int) < (s.size : Int)) = false := decide_eq_false (by omega)
    refine w_seq ?_
    refine w_reg ?_
    refine wl_bin (fun x y => do eqGuard .lss 3 (.tmp 18) (.tmp 17) x y; binOp .lss 3 x y) (.tmp 18) (.tmp 17) (.int .i64 ((k : Int))) (.int .i64 ((s.size : Int))) (.bool false) (fun _ => rfl) e18 e17 (lt3_run hl _ _ _) rfl ?_
    refine w_nil ?_
    refine xn_then ?_
    refine w_seq ?_
    refine w_condF rfl ?_
    refine w_exit ?_
    refine xx_then ?_
    refine xx_then ?_
    refine xx_blk ?_
    refine xn_then ?_
    refine w_seq ?_
    refine w_reg ?_
    refine wl_mv (.const (.bool true)) (.bool true) (fun _ => rfl) rfl rfl ?_
    refine w_nil ?_
    refine xn_then ?_
    refine w_ret ?_
    exact w_ret1 _ (.bool true) rfl rfl ⟨by rw [decide_eq_true (isT_mk hp hlead (by omega) hd)], M⟩
theorem isd_l2 (s : ByteArray) (w : World) [Decidable (isT s)] (hs : s.size ≤ maxLen) (h0 : s.toList.isEmpty = false) (hp : 0 < s.size) (hlead : ¬ (s.size > 1 ∧ (s[0].toNat : Int) = 48)) (h1 : decide ((s.size : Int) > 1) = true) (hz : ((s[0].toNat : Int) == 48) = false) : Calls Tryd.prog 52 #[.string s] w fun e w' => e = .returned (.bool (decide (isT s))) ∧ Mo w w' := by
  refine w_enter 32 Tryd.func52 Tryd.ntmps52 rfl rfl ?_
  have M : Mo w w := Mo.refl _
  refine w_seq ?_
  refine w_reg ?_
  refine wl_mv (.const (.bool false)) (.bool false) (fun _ => rfl) rfl rfl ?_
  refine w_nil ?_
  refine xn_then ?_
  refine w_seq ?_
  refine w_seq ?_
  refine w_reg ?_
  refine wl_mv (.tmp 0) (.string s) (fun _ => rfl) rfl rfl ?_
  refine wl_bin (fun x y => do eqGuard .eql 9 (.tmp 4) (.const (.string ⟨#[]⟩)) x y; binOp .eql 9 x y) (.tmp 4) (.const (.string ⟨#[]⟩)) (.string s) (.string ⟨#[]⟩) (.bool false) (fun _ => rfl) rfl rfl (eqe_run h0 _ _ _) rfl ?_
  refine wl_mv (.tmp 5) (.bool false) (fun _ => rfl) rfl rfl ?_
  refine wl_mv (.tmp 0) (.string s) (fun _ => rfl) rfl rfl ?_
  refine wl_val (.int .i64 ((s.size : Int))) (len_run _ _ s rfl _ _ _ _ _ _) rfl ?_
  refine wl_bin (fun x y => do eqGuard .gtr 3 (.tmp 8) (.const (.int .i64 (1))) x y; binOp .gtr 3 x y) (.tmp 8) (.const (.int .i64 (1))) (.int .i64 ((s.size : Int))) (.int .i64 (1)) (.bool true) (fun _ => rfl) rfl rfl (gt3_run h1 _ _ _) rfl ?_
  refine wl_mv (.tmp 9) (.bool true) (fun _ => rfl) rfl rfl ?_
  refine wl_mv (.tmp 0) (.string s) (fun _ => rfl) rfl rfl ?_
  refine wl_bin (fun x y => Instr.index 9 x y) (.tmp 11) (.const (.int .i64 (0))) (.string s) (.int .i64 (0)) (.int .u8 (s[0].toNat : Int)) (fun _ => rfl) rfl rfl (idx_0 s hp _) rfl ?_
  refine wl_bin (fun x y => do eqGuard .eql 5 (.tmp 12) (.const (.int .u8 (48))) x y; binOp .eql 5 x y) (.tmp 12) (.const (.int .u8 (48))) (.int .u8 (s[0].toNat : Int)) (.int .u8 (48)) (.bool false) (fun _ => rfl) rfl rfl (eq5_run hz _ _ _) rfl ?_
  refine wl_pick (.tmp 10) (.tmp 13) (.const (.bool false)) true (.bool false) (fun _ => rfl) rfl rfl rfl ?_
  refine wl_pick (.tmp 6) (.const (.bool true)) (.tmp 14) false (.bool false) (fun _ => rfl) rfl rfl rfl ?_
  refine w_nil ?_
  refine xn_then ?_
  refine w_condF rfl ?_
  refine w_skip ?_
  refine xn_then ?_
  refine w_seq ?_
  refine w_seq ?_
  refine w_reg ?_
  refine wl_mv (.tmp 0) (.string s) (fun _ => rfl) rfl rfl ?_
  refine wl_val (.int .i64 ((s.size : Int))) (len_run _ _ s rfl _ _ _ _ _ _) rfl ?_
  refine wl_mv (.const (.int .i64 (0))) (.int .i64 (0)) (fun _ => rfl) rfl rfl ?_
  refine w_nil ?_
  refine xn_then ?_
  refine w_block ?_
  refine w_loop (fun m l w1 => ∃ k : Nat, k + m = s.size ∧ look l 0 = .string s ∧ look l 17 = .int .i64 (s.size : Int) ∧ look l 18 = .int .i64 (k : Int) ∧ dgs s k ∧ Mo w w1) s.size ⟨0, by omega, rfl, rfl, rfl, fun j _ h => absurd h (Nat.not_lt_zero _), M⟩ ?_
  clear M
  rintro m l wl ⟨k, hk, e0, e17, e18, hd, M⟩
  by_cases hlt : k < s.size
  · have hl : decide ((k : Int) < (s.size : Int)) = true := decide_eq_true (by omega)
    cases ha : decide ((s[k].toNat : Int) < 48) with
    | true =>
      refine w_seq ?_
      refine w_reg ?_
      refine wl_bin (fun x y => do eqGuard .lss 3 (.tmp 18) (.tmp 17) x y; binOp .lss 3 x y) (.tmp 18) (.tmp 17) (.int .i64 ((k : Int))) (.int .i64 ((s.size : Int))) (.bool true) (fun _ => rfl) e18 e17 (lt3_run hl _ _ _) rfl ?_
      refine w_nil ?_
      refine xn_then ?_
      refine w_seq ?_
      refine w_condT rfl ?_
      refine w_skip ?_
      refine xn_then ?_
      refine w_seq ?_
      refine w_block ?_
      refine w_seq ?_
      refine w_reg ?_
      refine wl_mv (.tmp 18) (.int .i64 ((k : Int))) (fun _ => rfl) e18 rfl ?_
      refine wl_mv (.tmp 20) (.int .i64 ((k : Int))) (fun _ => rfl) rfl rfl ?_
      refine w_nil ?_
      refine xn_then ?_
      refine w_seq ?_
      refine w_reg ?_
      refine wl_mv (.tmp 0) (.string s) (fun _ => rfl) e0 rfl ?_
      refine wl_mv (.tmp 3) (.int .i64 ((k : Int))) (fun _ => rfl) rfl rfl ?_
      refine wl_bin (fun x y => Instr.index 9 x y) (.tmp 21) (.tmp 22) (.string s) (.int .i64 ((k : Int))) (.int .u8 (s[k].toNat : Int)) (fun _ => rfl) rfl rfl (idx_s s k hlt _) rfl ?_
      refine wl_bin (fun x y => do eqGuard .lss 5 (.tmp 23) (.const (.int .u8 (48))) x y; binOp .lss 5 x y) (.tmp 23) (.const (.int .u8 (48))) (.int .u8 (s[k].toNat : Int)) (.int .u8 (48)) (.bool true) (fun _ => rfl) rfl rfl (ls5 ha _ _ _) rfl ?_
      refine wl_mv (.tmp 24) (.bool true) (fun _ => rfl) rfl rfl ?_
      refine wl_skip rfl ?_
      refine wl_skip rfl ?_
      refine wl_skip rfl ?_
      refine wl_skip rfl ?_
      refine wl_pick (.tmp 25) (.const (.bool true)) (.tmp 29) true (.bool true) (fun _ => rfl) rfl rfl rfl ?_
      refine w_nil ?_
      refine xn_then ?_
      refine w_condT rfl ?_
      refine w_seq ?_
      refine w_reg ?_
      refine wl_mv (.const (.bool false)) (.bool false) (fun _ => rfl) rfl rfl ?_
      refine w_nil ?_
      refine xn_then ?_
      refine w_ret ?_
      refine xr_blk ?_
      refine xr_then ?_
      refine xr_then ?_
      refine xr_blk ?_
      refine xr_then ?_
      exact w_ret1 _ (.bool false) rfl rfl ⟨by rw [decide_eq_false (fun hT : isT s => by obtain ⟨_, _, h3⟩ := hT; have := h3 k hlt hlt; have := of_decide_eq_true ha; omega)], M⟩
    | false =>
      cases hb : decide ((s[k].toNat : Int) > 57) with
      | true =>
        refine w_seq ?_
        refine w_reg ?_
        refine wl_bin (fun x y => do eqGuard .lss 3 (.tmp 18) (.tmp 17) x y; binOp .lss 3 x y) (.tmp 18) (.tmp 17) (.int .i64 ((k : Int))) (.int .i64 ((s.size : Int))) (.bool true) (fun _ => rfl) e18 e17 (lt3_run hl _ _ _) rfl ?_
        refine w_nil ?_
        refine xn_then ?_
        refine w_seq ?_
        refine w_condT rfl ?_
        refine w_skip ?_
        refine xn_then ?_
        refine w_seq ?_
        refine w_block ?_
        refine w_seq ?_
        refine w_reg ?_
        refine wl_mv (.tmp 18) (.int .i64 ((k : Int))) (fun _ => rfl) e18 rfl ?_
        refine wl_mv (.tmp 20) (.int .i64 ((k : Int))) (fun _ => rfl) rfl rfl ?_
        refine w_nil ?_
        refine xn_then ?_
        refine w_seq ?_
        refine w_reg ?_
        refine wl_mv (.tmp 0) (.string s) (fun _ => rfl) e0 rfl ?_
        refine wl_mv (.tmp 3) (.int .i64 ((k : Int))) (fun _ => rfl) rfl rfl ?_
        refine wl_bin (fun x y => Instr.index 9 x y) (.tmp 21) (.tmp 22) (.string s) (.int .i64 ((k : Int))) (.int .u8 (s[k].toNat : Int)) (fun _ => rfl) rfl rfl (idx_s s k hlt _) rfl ?_
        refine wl_bin (fun x y => do eqGuard .lss 5 (.tmp 23) (.const (.int .u8 (48))) x y; binOp .lss 5 x y) (.tmp 23) (.const (.int .u8 (48))) (.int .u8 (s[k].toNat : Int)) (.int .u8 (48)) (.bool false) (fun _ => rfl) rfl rfl (ls5 ha _ _ _) rfl ?_
        refine wl_mv (.tmp 24) (.bool false) (fun _ => rfl) rfl rfl ?_
        refine wl_mv (.tmp 0) (.string s) (fun _ => rfl) e0 rfl ?_
        refine wl_mv (.tmp 3) (.int .i64 ((k : Int))) (fun _ => rfl) rfl rfl ?_
        refine wl_bin (fun x y => Instr.index 9 x y) (.tmp 26) (.tmp 27) (.string s) (.int .i64 ((k : Int))) (.int .u8 (s[k].toNat : Int)) (fun _ => rfl) rfl rfl (idx_s s k hlt _) rfl ?_
        refine wl_bin (fun x y => do eqGuard .gtr 5 (.tmp 28) (.const (.int .u8 (57))) x y; binOp .gtr 5 x y) (.tmp 28) (.const (.int .u8 (57))) (.int .u8 (s[k].toNat : Int)) (.int .u8 (57)) (.bool true) (fun _ => rfl) rfl rfl (gt5_run hb _ _ _) rfl ?_
        refine wl_pick (.tmp 25) (.const (.bool true)) (.tmp 29) false (.bool true) (fun _ => rfl) rfl rfl rfl ?_
        refine w_nil ?_
        refine xn_then ?_
        refine w_condT rfl ?_
        refine w_seq ?_
        refine w_reg ?_
        refine wl_mv (.const (.bool false)) (.bool false) (fun _ => rfl) rfl rfl ?_
        refine w_nil ?_
        refine xn_then ?_
        refine w_ret ?_
        refine xr_blk ?_
        refine xr_then ?_
        refine xr_then ?_
        refine xr_blk ?_
        refine xr_then ?_
        exact w_ret1 _ (.bool false) rfl rfl ⟨by rw [decide_eq_false (fun hT : isT s => by obtain ⟨_, _, h3⟩ := hT; have := h3 k hlt hlt; have := of_decide_eq_true hb; omega)], M⟩
      | false =>
        refine w_seq ?_
        refine w_reg ?_
        refine wl_bin (fun x y => do eqGuard .lss 3 (.tmp 18) (.tmp 17) x y; binOp .lss 3 x y) (.tmp 18) (.tmp 17) (.int .i64 ((k : Int))) (.int .i64 ((s.size : Int))) (.bool true) (fun _ => rfl) e18 e17 (lt3_run hl _ _ _) rfl ?_
        refine w_nil ?_
        refine xn_then ?_
        refine w_seq ?_
        refine w_condT rfl ?_
        refine w_skip ?_
        refine xn_then ?_
        refine w_seq ?_
        refine w_block ?_
        refine w_seq ?_
        refine w_reg ?_
        refine wl_mv (.tmp 18) (.int .i64 ((k : Int))) (fun _ => rfl) e18 rfl ?_
        refine wl_mv (.tmp 20) (.int .i64 ((k : Int))) (fun _ => rfl) rfl rfl ?_
        refine w_nil ?_
        refine xn_then ?_
        refine w_seq ?_
        refine w_reg ?_
        refine wl_mv (.tmp 0) (.string s) (fun _ => rfl) e0 rfl ?_
        refine wl_mv (.tmp 3) (.int .i64 ((k : Int))) (fun _ => rfl) rfl rfl ?_
        refine wl_bin (fun x y => Instr.index 9 x y) (.tmp 21) (.tmp 22) (.string s) (.int .i64 ((k : Int))) (.int .u8 (s[k].toNat : Int)) (fun _ => rfl) rfl rfl (idx_s s k hlt _) rfl ?_
        refine wl_bin (fun x y => do eqGuard .lss 5 (.tmp 23) (.const (.int .u8 (48))) x y; binOp .lss 5 x y) (.tmp 23) (.const (.int .u8 (48))) (.int .u8 (s[k].toNat : Int)) (.int .u8 (48)) (.bool false) (fun _ => rfl) rfl rfl (ls5 ha _ _ _) rfl ?_
        refine wl_mv (.tmp 24) (.bool false) (fun _ => rfl) rfl rfl ?_
        refine wl_mv (.tmp 0) (.string s) (fun _ => rfl) e0 rfl ?_
        refine wl_mv (.tmp 3) (.int .i64 ((k : Int))) (fun _ => rfl) rfl rfl ?_
        refine wl_bin (fun x y => Instr.index 9 x y) (.tmp 26) (.tmp 27) (.string s) (.int .i64 ((k : Int))) (.int .u8 (s[k].toNat : Int)) (fun _ => rfl) rfl rfl (idx_s s k hlt _) rfl ?_
        refine wl_bin (fun x y => do eqGuard .gtr 5 (.tmp 28) (.const (.int .u8 (57))) x y; binOp .gtr 5 x y) (.tmp 28) (.const (.int .u8 (57))) (.int .u8 (s[k].toNat : Int)) (.int .u8 (57)) (.bool false) (fun _ => rfl) rfl rfl (gt5_run hb _ _ _) rfl ?_
        refine wl_pick (.tmp 25) (.const (.bool true)) (.tmp 29) false (.bool false) (fun _ => rfl) rfl rfl rfl ?_
        refine w_nil ?_
        refine xn_then ?_
        refine w_condF rfl ?_
        refine w_skip ?_
        refine xn_blk ?_
        refine xn_then ?_
        refine w_reg ?_
        refine wl_bin (fun x y => do eqGuard .add 3 (.tmp 18) (.const (.int .i64 (1))) x y; binOp .add 3 x y) (.tmp 18) (.const (.int .i64 (1))) (.int .i64 ((k : Int))) (.int .i64 (1)) (.int .i64 (((k + 1 : Nat) : Int))) (fun _ => rfl) e18 rfl (add1_run (by unfold maxLen at hs; omega) _ _ _) rfl ?_
        refine wl_mv (.tmp 31) (.int .i64 (((k + 1 : Nat) : Int))) (fun _ => rfl) rfl rfl ?_
        refine w_nil ?_
        exact xn_loop (s.size - (k + 1)) (by omega) ⟨k + 1, by omega, e0, e17, rfl, dgs_succ hlt hd (by have := of_decide_eq_false ha; omega) (by have := of_decide_eq_false hb; omega), M⟩
  · have hl : decide ((k : Int) < (s.size : Int)) = false := decide_eq_false (by omega)
    refine w_seq ?_
    refine w_reg ?_
    refine wl_bin (fun x y => do eqGuard .lss 3 (.tmp 18) (.tmp 17) x y; binOp .lss 3 x y) (.tmp 18) (.tmp 17) (.int .i64 ((k : Int))) (.int .i64 ((s.size : Int))) (.bool false) (fun _ => rfl) e18 e17 (lt3_run hl _ _ _) rfl ?_
    refine w_nil ?_
    refine xn_then ?_
    refine w_seq ?_
    refine w_condF rfl ?_
    refine w_exit ?_
    refine xx_then ?_
    refine xx_then ?_
    refine xx_blk ?_
    refine xn_then ?_
    refine w_seq ?_
    refine w_reg ?_
    refine wl_mv (.const (.bool true)) (.bool true) (fun _ => rfl) rfl rfl ?_
    refine w_nil ?_
    refine xn_then ?_
    refine w_ret ?_
    exact w_ret1 _ (.bool true) rfl rfl ⟨by rw [decide_eq_true (isT_mk hp hlead (by omega) hd)], M⟩
theorem isd_n (s : ByteArray) (w : World) [Decidable (isT s)] (hs : s.size ≤ maxLen) : Calls Tryd.prog 52 #[.string s] w fun e w' => e = .returned (.bool (decide (isT s))) ∧ Mo w w' := by
  by_cases hp : 0 < s.size
  · have h0 : s.toList.isEmpty = false := by rw [emp_iff]; exact decide_eq_false (by omega)
    cases h1 : decide ((s.size : Int) > 1) with
    | false => exact isd_l1 s w hs h0 hp (fun h => by have := of_decide_eq_false h1; omega) h1
    | true =>
      cases hz : ((s[0].toNat : Int) == 48) with
      | false => exact isd_l2 s w hs h0 hp (fun h => by rw [h.2] at hz; simp at hz) h1 hz
      | true =>
        rw [decide_eq_false (fun hT : isT s => by obtain ⟨_, h, _⟩ := hT; exact h ⟨by have := of_decide_eq_true h1; omega, by simpa using hz⟩)]
        exact isd_lead s w h0 hp h1 hz
  · rw [decide_eq_false (fun hT : isT s => by obtain ⟨h, _⟩ := hT; exact hp h)]
    exact isd_emp s w (by rw [emp_iff]; exact decide_eq_true (by omega))
end Go.Proofs.YtdcojpbgijkmgaaDoor
/-
  The document's plus and minus of two wide numbers: the walks.
-/
namespace Go.Proofs.YtdcojpbgijkmgaaDoor
open Go.RowKit
theorem radd_m (A B : Int) (w : World) : Calls Tryd.prog 56 #[nv A, nv B] w fun e w' => e = .returned (.tuple #[nv (A % MM + B % MM), .bool (ov (A % MM + B % MM))]) ∧ Mo w w' := by
  have h := radd_any (l0 A) (l1 A) (l2 A) (l3 A) (l0 B) (l1 B) (l2 B) (l3 B) w (u4_lb A) (u4_lb B)
  rw [vl_nv, vl_nv] at h
  exact h
end Go.Proofs.YtdcojpbgijkmgaaDoor
