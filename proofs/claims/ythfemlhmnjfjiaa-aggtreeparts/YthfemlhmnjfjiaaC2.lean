/-
  A part of the proof.
-/
import Derived.Test.YthfemlhmnjfjiaaC1
import Derived.Laws.StructEq
import Derived.Deep.MidRow
import Derived.LoopN
import Derived.BigCall
/-
  A region that draws its order: what each operation of its first part yields, said once for each; the last part a chain.
-/
namespace Go.Proofs.Ythfemlhmnjfjiaa
open Go.RowKit
/-- What an operation yields: a value, or the address of a new block with such cells. -/
abbrev Sp := Sum Value (List Value)
def spNew : Sp → Bool
  | .inl _ => false
  | .inr _ => true
def spDen (N : Nat) : Sp → Value → World → Prop
  | .inl v, u, _ => u = v
  | .inr zs, u, w => ∃ k, u = pt k 0 ∧ N ≤ k ∧ At w k zs
theorem spMo {N : Nat} {s : Sp} {u : Value} {w w' : World} (m : Mo w w') (h : spDen N s u w) : spDen N s u w' := by
  cases s with
  | inl v => exact h
  | inr zs => obtain ⟨k, h1, h2, h3⟩ := h; exact ⟨k, h1, h2, h3.mo m⟩
def spAt (sp : List Sp) (i : Nat) : Sp := (sp[i]?).getD (.inl undef)
/-- New blocks are apart. -/
def Ds (sp : List Sp) (f : Nat → Value) (w : World) : Prop :=
  (∀ j, spNew (spAt sp j) = true → ∀ k, f j = pt k 0 → k < w.heap.size) ∧ ∀ i j, spNew (spAt sp i) = true → spNew (spAt sp j) = true → i ≠ j → ∀ k, f i = pt k 0 → f j ≠ pt k 0
theorem Ds.other {sp : List Sp} {f : Nat → Value} {w w' : World} {i : Nat} {v : Value} (h : Ds sp f w) (hi : spNew (spAt sp i) = false) (hz : w.heap.size ≤ w'.heap.size) : Ds sp (upd f i v) w' := by
  have e : ∀ j, spNew (spAt sp j) = true → upd f i v j = f j := fun j hj => by
    unfold upd; rw [if_neg]; intro e; subst e; rw [hi] at hj; cases hj
  exact ⟨fun j hj k hk => Nat.lt_of_lt_of_le (h.1 j hj k (by rw [← e j hj]; exact hk)) hz, fun a b ha hb hab k hk => by rw [e b hb]; exact h.2 a b ha hb hab k (by rw [← e a ha]; exact hk)⟩
theorem pt_inj {a b : Nat} (h : pt a 0 = pt b 0) : a = b := by simpa using h
theorem Ds.fresh {sp : List Sp} {f : Nat → Value} {w w' : World} {i k : Nat} (h : Ds sp f w) (hk : w.heap.size = k) (hz : w'.heap.size = k + 1) : Ds sp (upd f i (pt k 0)) w' := by
  refine ⟨fun j hj m hm => ?_, fun a b ha hb hab m hm hn => ?_⟩
  · unfold upd at hm
    split at hm
    · have := pt_inj hm; omega
    · have := h.1 j hj m hm; omega
  · unfold upd at hm hn
    split at hm
    · have e := pt_inj hm
      split at hn
      · omega
      · have := h.1 b hb m hn; omega
    · split at hn
      · have e := pt_inj hn; have := h.1 a ha m hm; omega
      · exact h.2 a b ha hb hab m hm hn
/-- Does number i wait for number j, by one step or more? -/
def tw (ops : List Oper) : Nat → Nat → Nat → Bool
  | 0, _, _ => false
  | f + 1, i, j => match ops[i]? with
    | some o => depb o j || (List.range i).any fun k => depb o k && tw ops f k j
    | none => false
theorem exists_least0 {p : Nat → Prop} (h : ∃ m, p m) : ∃ m, p m ∧ ∀ k, p k → m ≤ k := by
  obtain ⟨m, hm⟩ := h
  induction m using Nat.strongRecOn with
  | ind m ih =>
    by_cases hh : ∃ k, k < m ∧ p k
    · obtain ⟨k, hk, hp⟩ := hh; exact ih k hk hp
    · exact ⟨m, hm, fun k hp => Nat.le_of_not_lt (fun hk => hh ⟨k, hk, hp⟩)⟩
/-- From number m on each waits for all ahead of it. -/
def chainB (ops : List Oper) (m : Nat) (fs : List Nat) : Bool := (List.range ops.length).all fun i => Nat.blt i m || (List.range i).all fun j => fs.contains j || tw ops ops.length i j
/-- What has come up had all that it waits for. -/
def Shut (ops : List Oper) (listed : Array Bool) : Prop := ∀ i o, ops[i]? = some o → listed.getD i false = true → ∀ e ∈ o.after, Region.binds .any e = true → listed.getD e.on false = true
theorem tw_spec {ops : List Oper} {listed : Array Bool} (hc : Shut ops listed) : ∀ (f i j : Nat) (o : Oper), ops[i]? = some o → (∀ e ∈ o.after, Region.binds .any e = true → listed.getD e.on false = true) → tw ops f i j = true → listed.getD j false = true := by
  intro f
  induction f with
  | zero => intro i j o _ _ h; cases h
  | succ f ih =>
    intro i j o ho hd h
    have dep : ∀ k, depb o k = true → listed.getD k false = true := fun k hk => by
      obtain ⟨e, he, hb⟩ := List.any_eq_true.1 hk
      simp only [Bool.and_eq_true] at hb
      have := hd e (by simpa using he) hb.1
      rwa [Nat.eq_of_beq_eq_true hb.2] at this
    simp only [tw, ho, Bool.or_eq_true] at h
    rcases h with h | h
    · exact dep j h
    · obtain ⟨k, hk, hkk⟩ := List.any_eq_true.1 h
      simp only [Bool.and_eq_true] at hkk
      cases hok : ops[k]? with
      | none => cases f with
        | zero => cases hkk.2
        | succ f => simp [tw, hok] at hkk
      | some ok => exact ih k j ok hok (fun e he hb => hc k ok hok (dep k hkk.1) e he hb) hkk.2
theorem chainB_spec {ops : List Oper} {m : Nat} {fs : List Nat} (h : chainB ops m fs = true) {listed : Array Bool} (hc : Shut ops listed) {i : Nat} {o : Oper} (ho : ops[i]? = some o) (hi : m ≤ i) (hd : ∀ e ∈ o.after, Region.binds .any e = true → listed.getD e.on false = true) : ∀ j, j < i → fs.contains j = false → listed.getD j false = true := by
  intro j hj hfl
  have h1 := List.all_eq_true.1 h i (List.mem_range.2 (List.getElem?_eq_some_iff.1 ho).1)
  simp only [Bool.or_eq_true] at h1
  rcases h1 with h1 | h1
  · rw [Nat.blt_eq] at h1; omega
  · have h2 := List.all_eq_true.1 h1 j (List.mem_range.2 hj)
    rw [hfl, Bool.false_or] at h2
    exact tw_spec hc _ i j o ho hd h2
theorem Shut.step {ops : List Oper} {listed : Array Bool} (h : Shut ops listed) {i : Nat} {o : Oper} (ho : ops[i]? = some o) (hd : ∀ e ∈ o.after, Region.binds .any e = true → listed.getD e.on false = true) : Shut ops (listed.setIfInBounds i true) := by
  intro j oj hoj hl e he hb
  by_cases hij : i = j
  · subst hij
    rw [ho] at hoj; cases hoj
    exact getD_set_true (hd e he hb)
  · rw [getD_set_ne false hij] at hl
    exact getD_set_true (h j oj hoj hl e he hb)
theorem Shut.start (ops : List Oper) (n : Nat) : Shut ops (Array.replicate n false) := fun i _ _ hl => by
  exfalso
  rcases Nat.lt_or_ge i n with h' | h' <;> simp [h'] at hl
section
variable {P : Program} {ops : List Oper} {Q : Exit → Act → World → Prop} {n : Nat} {l : List (Nat × Value)}
/-- The last part. -/
theorem wpAny_chain {m : Nat} {fs : List Nat} (hfs : ∀ j, m ≤ j → fs.contains j = false) (hc : chainB ops m fs = true) (hb : edgesBack .any ops.toArray = true) : ∀ (d q fuel : Nat) (listed : Array Bool) (a : Act) (w : World), q + d = ops.length → m ≤ q → d ≤ fuel → listed.size = ops.length → Shut ops listed →
    (∀ j, j < ops.length → listed.getD j true = decide (j < q)) → wpList P ops.toArray Q (ops.drop q) a w → wpAny P .any ops.toArray Q fuel listed a w := by
  intro d
  induction d with
  | zero =>
    intro q fuel listed a w hq hm hf hz hsh hl h
    have hr : Region.ready .any ops.toArray listed = [] := by
      rw [List.eq_nil_iff_forall_not_mem]
      intro i hi
      obtain ⟨h0, o, ho, _⟩ := mem_ready.1 hi
      have hlt : i < ops.length := by have := (Array.getElem?_eq_some_iff.1 ho).1; simpa using this
      rw [hl i hlt] at h0
      have := of_decide_eq_false h0
      omega
    rw [List.drop_eq_nil_of_le (by omega)] at h
    exact wpAny_done hr h fuel
  | succ d ih =>
    intro q fuel listed a w hq hm hf hz hsh hl h
    have hqlt : q < ops.length := by omega
    cases fuel with
    | zero => omega
    | succ fuel =>
      have hone : ∀ i, i ∈ Region.ready .any ops.toArray listed ↔ i = q := by
        intro i
        constructor
        · intro hi
          obtain ⟨h0, o, ho, hall⟩ := mem_ready.1 hi
          have hlt : i < ops.length := by have := (Array.getElem?_eq_some_iff.1 ho).1; simpa using this
          rw [hl i hlt] at h0
          have hge := of_decide_eq_false h0
          rcases Nat.lt_or_ge q i with hgt | hle
          · have h1 := chainB_spec hc hsh (i := i) (o := o) (by simpa using ho) (by omega) hall q hgt (hfs q hm)
            have h2 := hl q hqlt
            have : q < listed.size := by omega
            simp [this] at h1 h2
            rw [h1] at h2; cases h2
          · omega
        · rintro rfl
          refine mem_ready.2 ⟨by rw [hl i hqlt]; simp, ops[i], by simp [hqlt], fun e he hbd => ?_⟩
          have hlt := edgesBack_spec hb (i := i) (o := ops[i]) (by simp [hqlt]) e he hbd
          have h2 := hl e.on (by omega)
          have : e.on < listed.size := by omega
          simp [this] at h2 ⊢
          rw [h2]; exact decide_eq_true hlt
      refine ⟨fun h0 => ?_, fun i hi => ?_⟩
      · have := (hone q).2 rfl; rw [h0] at this; cases this
      · have := (hone i).1 hi
        subst this
        have hdi : ∀ e ∈ (ops[i]).after, Region.binds .any e = true → listed.getD e.on false = true := by
          obtain ⟨_, o, ho, hall⟩ := mem_ready.1 hi
          have : ops[i] = o := by have := Array.getElem?_eq_some_iff.1 ho; obtain ⟨_, h⟩ := this; simpa using h
          rw [this]; exact hall
        rw [List.drop_eq_getElem_cons hqlt] at h
        have h1 : wpOp P ops.toArray Q i (wpList P ops.toArray Q (ops.drop (i + 1))) a w := by
          unfold wpOp
          have e : ops.toArray[i]? = some ops[i] := by simp [hqlt]
          rw [e]
          unfold wpList at h
          exact h
        refine wpOp_mono (fun a' w' h' => ih (i + 1) fuel _ a' w' (by omega) (by omega) (by omega) (by simpa using hz) (hsh.step (i := i) (o := ops[i]) (by simp [hqlt]) hdi) (fun j hj => ?_) h') h1
        by_cases e : i = j
        · subst e
          have : i < listed.size := by omega
          simp [this]
        · rw [getD_set_ne true e, hl j hj]
          congr 1
          rw [eq_iff_iff]; omega
/-- One operation that yields a value. -/
def OgE (P : Program) (ops : List Oper) (Q : Exit → Act → World → Prop) (n : Nat) (l : List (Nat × Value)) (m : Nat) (W : World) (sp : List Sp) (i : Nat) (o : Oper) : Prop :=
  ∀ f w, Mo W w → (∀ j, depb o j = true → spDen W.heap.size (spAt sp j) (f j) w) → ∀ K : Act → World → Prop,
    (match spAt sp i with
      | .inl v => ∀ w', Mo w w' → K (fr n (ext (asg f 0 (ops.take m) l) o.dst v)) w'
      | .inr zs => ∀ k w', w.heap.size = k → w'.heap.size = k + 1 → Mo w w' → At w' k zs → K (fr n (ext (asg f 0 (ops.take m) l) o.dst (pt k 0))) w') →
    bif wnt n (asg f 0 (ops.take m) l) ops.toArray o then o.wp P (fr n (asg f 0 (ops.take m) l)) w K Q else K (fr n (ext (asg f 0 (ops.take m) l) o.dst undef)) w
/-- Those that may come up late: each is apart from all that may come behind. -/
def floatB (ops : List Oper) (m : Nat) (fs : List Nat) : Bool := fs.all fun i => Nat.blt i m && match ops[i]? with
  | some o => (List.range ops.length).all fun j => Nat.beq j i || (Nat.blt j m && !fs.contains j) || match ops[j]? with
    | some oj => depb oj i || o.apart ops.toArray oj
    | none => true
  | none => false
/-- What a late one yields, in whatever world. -/
def LateO (P : Program) (ops : List Oper) (Q : Exit → Act → World → Prop) (n : Nat) (l : List (Nat × Value)) (m : Nat) (sp : List Sp) (i : Nat) : Prop :=
  ∃ o v, ops[i]? = some o ∧ spAt sp i = .inl v ∧ (∀ u c a w, Q (.panic c) (a.put o.dst u) w → Q (.panic c) a w) ∧
    ∀ f, (∀ j, depb o j = true → ∀ u, spAt sp j = .inl u → f j = u) → wnt n (asg f 0 (ops.take m) l) ops.toArray o = true ∧ ∀ w, (execOp (evl n (asg f 0 (ops.take m) l)) o).run P w = .ok (.value v) w
theorem r_draw {id : Nat} {W : World} (m : Nat) (sp : List Sp) (fs : List Nat) (hm : P.follows .mixedOrders = true)
    (hb : edgesBack .any ops.toArray = true) (hd : dstsApart (ops.take m) = true) (hc : chainB ops m fs = true) (hl : Nat.ble m ops.length = true) (hf : floatB ops m fs = true) (hns : Region.noSelect ops.toArray = true)
    (hlate : ∀ i, i ∈ fs → LateO P ops Q n l m sp i)
    (hD : Ds sp (slots (fr n l) (ops.take m).toArray) W)
    (hs : Each (OgE P ops Q n l m W sp) 0 (ops.take m))
    (hend : ∀ f w, Mo W w → (∀ i, Nat.blt i m = true → spDen W.heap.size (spAt sp i) (f i) w) → Ds sp f w → wpList P ops.toArray Q (ops.drop m) (fr n (asg f 0 (ops.take m) l)) w) :
    (Code.region id ops.toArray true).wp P Q (fr n l) W := by
  have hml : m ≤ ops.length := Nat.le_of_ble_eq_true hl
  have hfm : ∀ i, i ∈ fs → i < m := fun i hi => by
    have := List.all_eq_true.1 hf i hi
    simp only [Bool.and_eq_true] at this
    rw [Nat.blt_eq] at this; exact this.1
  have hfs : ∀ j, m ≤ j → fs.contains j = false := fun j hj => by
    cases e : fs.contains j with
    | false => rfl
    | true => have := hfm j (by simpa using e); omega
  refine wp_region_any hm ?_
  -- all that are not late have come up: the late ones first, then the last part
  have second : ∀ (d fuel : Nat) (listed : Array Bool) (f : Nat → Value) (w : World), listed.toList.count false = (ops.length - m) + d → (ops.length - m) + d ≤ fuel → listed.size = ops.length → Shut ops listed → (∀ j, m ≤ j → j < ops.length → listed.getD j true = false) →
      (∀ j, j < m → fs.contains j = false → listed.getD j true = true) → Mo W w → Ds sp f w → (∀ i, i < m → listed.getD i false = true → spDen W.heap.size (spAt sp i) (f i) w) → wpAny P .any ops.toArray Q fuel listed (putAll f 0 (ops.take m) (fr n l)) w := by
    intro d
    induction d with
    | zero =>
      intro fuel listed f w hcnt hfu hz hsh hun hall hW hDs hR
      have hall2 : ∀ j, j < m → listed.getD j true = true := fun j hj => by
        cases e : listed.getD j true with
        | true => rfl
        | false =>
          exfalso
          have h1 : (listed.toList.drop m).count false = ops.length - m := by
            have h2 : listed.toList.drop m = List.replicate (ops.length - m) false := by
              apply List.ext_getElem
              · simp [hz]
              · intro j h3 h4
                simp at h3
                have := hun (m + j) (by omega) (by omega)
                have h5 : m + j < listed.size := by omega
                simpa [h5] using this
            rw [h2]; simp
          have h3 := List.take_append_drop m listed.toList
          have h4 : 0 < (listed.toList.take m).count false := by
            apply List.count_pos_iff.2
            have hjs : j < listed.size := by omega
            simp [hjs] at e
            rw [List.mem_iff_getElem]
            exact ⟨j, by simp; omega, by simp [e]⟩
          rw [← h3, List.count_append] at hcnt
          omega
      refine wpAny_chain hfs hc hb (ops.length - m) m _ listed _ w (by omega) (Nat.le_refl _) (by omega) hz hsh (fun j hj => ?_) ?_
      · rcases Nat.lt_or_ge j m with h | h
        · rw [hall2 j h]; simp [h]
        · rw [hun j h hj]; simp [Nat.not_lt.2 h]
      · rw [putAll_fr]
        exact hend f w hW (fun i hi => by
          have hi' : i < m := by rw [Nat.blt_eq] at hi; exact hi
          refine hR i hi' ?_
          have h1 := hall2 i hi'
          have h2 : i < listed.size := by omega
          simpa [h2] using h1) hDs
    | succ d ih =>
      intro fuel listed f w hcnt hfu hz hsh hun hall hW hDs hR
      -- a late one that has not come up: the first
      have hex : ∃ i, i < m ∧ listed.getD i true = false := by
        apply Classical.byContradiction
        intro hno
        have hall2 : ∀ j, j < m → listed.getD j true = true := fun j hj => by
          cases e : listed.getD j true with
          | true => rfl
          | false => exact absurd ⟨j, hj, e⟩ hno
        have h3 := List.take_append_drop m listed.toList
        have h4 : (listed.toList.take m).count false = 0 := by
          rw [List.count_eq_zero]
          intro hmem
          rw [List.mem_iff_getElem] at hmem
          obtain ⟨j, hj, e⟩ := hmem
          simp at hj e
          have hj1 : j < m := by omega
          have hj2 : j < listed.size := by omega
          have := hall2 j hj1
          simp [hj2] at this
          rw [this] at e; cases e
        have h5 : (listed.toList.drop m).count false ≤ ops.length - m := by
          have := List.count_le_length (a := false) (l := listed.toList.drop m)
          simp [hz] at this; exact this
        rw [← h3, List.count_append] at hcnt
        omega
      obtain ⟨i, ⟨him, hiu⟩, hmin⟩ := exists_least0 hex
      have hif : i ∈ fs := by
        cases e : fs.contains i with
        | true => simpa using e
        | false => have := hall i him e; rw [hiu] at this; cases this
      obtain ⟨o, v, ho, hv, hQ, hy⟩ := hlate i hif
      have hdep : ∀ e ∈ o.after, Region.binds .any e = true → listed.getD e.on false = true := fun e he hbd => by
        have hlt := edgesBack_spec hb (i := i) (o := o) (by simpa using ho) e he hbd
        have h1 : listed.getD e.on true = true := by
          cases ee : listed.getD e.on true with
          | true => rfl
          | false => have := hmin e.on ⟨by omega, ee⟩; omega
        have h2 : e.on < listed.size := by omega
        simpa [h2] using h1
      have hval : ∀ j, depb o j = true → ∀ u, spAt sp j = .inl u → f j = u := fun j hj u hu => by
        obtain ⟨e, he, hb'⟩ := List.any_eq_true.1 hj
        simp only [Bool.and_eq_true] at hb'
        have heon := Nat.eq_of_beq_eq_true hb'.2
        have hj' := hdep e (by simpa using he) hb'.1
        have hlt := edgesBack_spec hb (i := i) (o := o) (by simpa using ho) e (by simpa using he) hb'.1
        rw [heon] at hj' hlt
        have := hR j (by omega) hj'
        rw [hu] at this
        exact this
      obtain ⟨hw1, hw2⟩ := hy f hval
      cases fuel with
      | zero => omega
      | succ fuel =>
        refine wpAny_first (i := i) (oi := o) (v := v) (by simpa using ho) (Region.noSelect_spec hns) (hQ v) fuel listed _ w ?_ ?_ ?_ ?_
        · intro j oj hoj hji hju hno
          have hjl : j < ops.length := by have := (Array.getElem?_eq_some_iff.1 hoj).1; simpa using this
          have h1 := List.all_eq_true.1 hf i hif
          simp only [Bool.and_eq_true, ho] at h1
          have h2 := List.all_eq_true.1 h1.2 j (List.mem_range.2 hjl)
          have hoj' : ops[j]? = some oj := by simpa using hoj
          simp only [hoj', Bool.or_eq_true, Bool.and_eq_true, Bool.not_eq_true'] at h2
          rcases h2 with (h2 | h2) | h2 | h2
          · exact absurd (Nat.eq_of_beq_eq_true h2) hji
          · have := hall j (by have := h2.1; rw [Nat.blt_eq] at this; exact this) h2.2
            rw [this] at hju; cases hju
          · obtain ⟨e, he, hb'⟩ := List.any_eq_true.1 h2
            simp only [Bool.and_eq_true] at hb'
            exact absurd (Nat.eq_of_beq_eq_true hb'.2) (hno e (by simpa using he) hb'.1)
          · exact h2
        · exact mem_ready.2 ⟨hiu, o, by simpa using ho, hdep⟩
        · rw [putAll_fr]
          exact Or.inl ⟨by rw [fr_wanted]; exact hw1, fun w => by rw [fr_eval]; exact hw2 w⟩
        · have hot : (ops.take m)[i]? = some o := by rw [List.getElem?_take_of_lt him]; exact ho
          have hp := putAll_put v (ops.take m) 0 f (fr n l) hd i o hot
          rw [Nat.zero_add] at hp
          rw [hp]
          have h1 : listed.toList[i]? = some false := by
            have h' : i < listed.size := by omega
            simp [h'] at hiu; simp [h', hiu]
          have hcs := count_set _ _ h1
          refine ih fuel _ (upd f i v) w ?_ (by omega) (by simpa using hz) (hsh.step ho hdep) (fun j h1 h2 => ?_) (fun j h1 h2 => ?_) hW (hDs.other (by rw [hv]; rfl) (Nat.le_refl _)) (fun j hj hlj => ?_)
          · simp only [Array.toList_setIfInBounds]; omega
          · rw [getD_set_ne true (by omega)]; exact hun j h1 h2
          · have hij : i ≠ j := by intro e; subst e; have : fs.contains i = true := by simpa using hif
                                   rw [this] at h2; cases h2
            rw [getD_set_ne true hij]; exact hall j h1 h2
          · by_cases e : j = i
            · subst e; rw [hv]; simp [upd, spDen]
            · rw [getD_set_ne false (Ne.symm e)] at hlj
              have := hR j hj hlj
              simpa [upd, e] using this
  have main : ∀ (fuel : Nat) (listed : Array Bool) (f : Nat → Value) (w : World), listed.toList.count false ≤ fuel → listed.size = ops.length → Shut ops listed → (∀ j, m ≤ j → j < ops.length → listed.getD j true = false) →
      Mo W w → Ds sp f w → (∀ i, i < m → listed.getD i false = true → spDen W.heap.size (spAt sp i) (f i) w) → wpAny P .any ops.toArray Q fuel listed (putAll f 0 (ops.take m) (fr n l)) w := by
    intro fuel
    induction fuel with
    | zero =>
      intro listed f w hcnt hz hsh hun hW hDs hR
      refine wpAny_chain hfs hc hb (ops.length - m) m 0 listed _ w (by omega) (Nat.le_refl _) ?_ hz hsh ?_ ?_
      · rcases Nat.lt_or_ge m ops.length with h | h
        · exfalso
          have h1 := hun m (Nat.le_refl _) h
          have h2 : m < listed.size := by omega
          have : false ∈ listed.toList := by simp [h2] at h1; rw [← h1]; simp
          have := List.count_pos_iff.2 this
          omega
        · omega
      · intro j hj
        have h2 : j < listed.size := by omega
        have h3 : listed.getD j true = true := by
          cases e : listed.getD j true with
          | true => rfl
          | false =>
            have : false ∈ listed.toList := by simp [h2] at e; rw [← e]; simp
            have := List.count_pos_iff.2 this
            omega
        rcases Nat.lt_or_ge j m with h | h
        · rw [h3]; simp [h]
        · rw [hun j h hj] at h3; cases h3
      · rw [putAll_fr]
        refine hend f w hW (fun i hi => hR i (by rw [Nat.blt_eq] at hi; exact hi) ?_) hDs
        have hi' : i < m := by rw [Nat.blt_eq] at hi; exact hi
        have h2 : i < listed.size := by omega
        cases e : listed.getD i false with
        | true => rfl
        | false =>
          have : false ∈ listed.toList := by simp [h2] at e; rw [← e]; simp
          have := List.count_pos_iff.2 this
          omega
    | succ fuel ih =>
      intro listed f w hcnt hz hsh hun hW hDs hR
      by_cases hall : ∀ j, j < m → fs.contains j = false → listed.getD j true = true
      · have hge : ops.length - m ≤ listed.toList.count false := by
          have h1 : (listed.toList.drop m).count false = ops.length - m := by
            have h2 : listed.toList.drop m = List.replicate (ops.length - m) false := by
              apply List.ext_getElem
              · simp [hz]
              · intro j h3 h4
                simp at h3
                have := hun (m + j) (by omega) (by omega)
                have h5 : m + j < listed.size := by omega
                simpa [h5] using this
            rw [h2]; simp
          have h3 := List.take_append_drop m listed.toList
          rw [← h3, List.count_append]
          omega
        exact second (listed.toList.count false - (ops.length - m)) _ listed f w (by omega) (by omega) hz hsh hun hall hW hDs hR
      · obtain ⟨u, hum, huf, hu⟩ : ∃ u, u < m ∧ fs.contains u = false ∧ listed.getD u true = false := by
          rcases Classical.not_forall.1 hall with ⟨u, h⟩
          rcases Classical.not_imp.1 h with ⟨h1, h2⟩
          rcases Classical.not_imp.1 h2 with ⟨h3, h4⟩
          exact ⟨u, h1, h3, by cases e : listed.getD u true with | true => exact absurd e h4 | false => rfl⟩
        have hne : Region.ready .any ops.toArray listed ≠ [] := fun hr => by
          have := all_listed hb hr u (by simp; omega)
          rw [hu] at this; cases this
        refine ⟨fun h0 => absurd h0 hne, fun i hi => ?_⟩
        obtain ⟨h0, o, ho, hdep⟩ := mem_ready.1 hi
        have hoi : ops[i]? = some o := by simpa using ho
        have hilt : i < ops.length := (List.getElem?_eq_some_iff.1 hoi).1
        have him : i < m := by
          rcases Nat.lt_or_ge i m with h | h
          · exact h
          · exfalso
            have h1 := chainB_spec hc hsh hoi h hdep u (by omega) huf
            have h2 : u < listed.size := by omega
            simp [h2] at h1 hu
            rw [h1] at hu; cases hu
        have hot : (ops.take m)[i]? = some o := by rw [List.getElem?_take_of_lt him]; exact hoi
        have hstep := Each.spec (ops.take m) 0 hs i o hot
        rw [Nat.zero_add] at hstep
        have hcount : ((listed.setIfInBounds i true).toList.count false) ≤ fuel := by
          have h1 : listed.toList[i]? = some false := by
            have h' : i < listed.size := by omega
            simp [h'] at h0; simp [h', h0]
          have := count_set _ _ h1
          simp only [Array.toList_setIfInBounds]
          omega
        have hun' : ∀ j, m ≤ j → j < ops.length → (listed.setIfInBounds i true).getD j true = false := fun j h1 h2 => by
          rw [getD_set_ne true (by omega)]; exact hun j h1 h2
        have next : ∀ v w', Mo w w' → Ds sp (upd f i v) w' → spDen W.heap.size (spAt sp i) v w' → wpAny P .any ops.toArray Q fuel (listed.setIfInBounds i true) (putAll (upd f i v) 0 (ops.take m) (fr n l)) w' := fun v w' hmo hds hden => by
          refine ih _ _ w' hcount (by simpa using hz) (hsh.step hoi hdep) hun' (hW.trans hmo) hds (fun j hj hlj => ?_)
          by_cases e : j = i
          · subst e; simpa [upd] using hden
          · rw [getD_set_ne false (Ne.symm e)] at hlj
            have := spMo hmo (hR j hj hlj)
            simpa [upd, e] using this
        have put : ∀ v, fr n (ext (asg f 0 (ops.take m) l) o.dst v) = putAll (upd f i v) 0 (ops.take m) (fr n l) := fun v => by
          have := putAll_put v (ops.take m) 0 f (fr n l) hd i o hot
          rw [Nat.zero_add] at this
          rw [← this, putAll_fr, fr_put]
        refine wpOp_step ho (fun K hK => ?_)
        rw [putAll_fr, fr_wanted]
        have hh := hstep f w hW (fun j hj => by
          obtain ⟨e, he, hb'⟩ := List.any_eq_true.1 hj
          simp only [Bool.and_eq_true] at hb'
          have heon := Nat.eq_of_beq_eq_true hb'.2
          have hj' := hdep e (by simpa using he) hb'.1
          have hlt := edgesBack_spec hb ho e (by simpa using he) hb'.1
          rw [heon] at hj' hlt
          exact hR j (by omega) hj') K
        have hh2 : (bif wnt n (asg f 0 (ops.take m) l) ops.toArray o then o.wp P (fr n (asg f 0 (ops.take m) l)) w K Q else K (fr n (ext (asg f 0 (ops.take m) l) o.dst undef)) w) := by
          refine hh ?_
          cases hsp : spAt sp i with
          | inl v =>
            intro w' hmo
            rw [put]
            exact hK _ _ (next v w' hmo (hDs.other (by rw [hsp]; rfl) hmo.size) (by rw [hsp]; rfl))
          | inr zs =>
            intro k w' hk hz' hmo hat
            rw [put]
            exact hK _ _ (next (pt k 0) w' hmo (hDs.fresh hk hz') (by rw [hsp]; exact ⟨k, rfl, by have := hW.size; omega, hat⟩))
        rw [fr_put]
        cases hw : wnt n (asg f 0 (ops.take m) l) ops.toArray o <;> simp only [hw, cond_true, cond_false] at hh2 ⊢ <;> exact hh2
  have h0 : putAll (slots (fr n l) (ops.take m).toArray) 0 (ops.take m) (fr n l) = fr n l := putAll_self _ _ 0 _ (fun i o ho t ht => by simp only [Nat.zero_add, slots]; rw [show (ops.take m).toArray[i]? = some o by simpa using ho]; simp [ht])
  have := main ops.length (Array.replicate ops.length false) (slots (fr n l) (ops.take m).toArray) W.drew (by simp) (by simp) (Shut.start _ _) (fun j _ hj => by simp [hj]) (Mo.refl _).drew ⟨fun j hj k hk => hD.1 j hj k hk, hD.2⟩ (fun i _ hi => by
    exfalso
    rcases Nat.lt_or_ge i ops.length with h' | h' <;> simp [h'] at hi)
  rw [h0] at this
  simpa using this
/-- What each slot holds behind the first part. -/
def spv (sp : List Sp) (kf : Nat → Nat) (i : Nat) : Value :=
  match spAt sp i with
  | .inl v => v
  | .inr _ => pt (kf i) 0
theorem asg_congr {f g : Nat → Value} : ∀ (r : List Oper) (i : Nat) (l : List (Nat × Value)), (∀ j, i ≤ j → j < i + r.length → f j = g j) → asg f i r l = asg g i r l
  | [], _, _, _ => rfl
  | o :: r, i, l, h => by
    unfold asg
    rw [h i (Nat.le_refl _) (by simp)]
    exact asg_congr r (i + 1) _ (fun j h1 h2 => h j (by omega) (by simp; omega))
theorem r_any {id : Nat} {W : World} (m : Nat) (sp : List Sp) (fs : List Nat) (hm : P.follows .mixedOrders = true)
    (hb : edgesBack .any ops.toArray = true) (hd : dstsApart (ops.take m) = true) (hc : chainB ops m fs = true) (hl : Nat.ble m ops.length = true) (hf : floatB ops m fs = true) (hns : Region.noSelect ops.toArray = true)
    (hlate : ∀ i, i ∈ fs → LateO P ops Q n l m sp i)
    (hD : Ds sp (slots (fr n l) (ops.take m).toArray) W)
    (hs : Each (OgE P ops Q n l m W sp) 0 (ops.take m))
    (hend : ∀ kf w, Mo W w → (∀ i zs, Nat.blt i m = true → spAt sp i = .inr zs → W.heap.size ≤ kf i ∧ At w (kf i) zs) → (∀ i j, Nat.blt i m = true → Nat.blt j m = true → spNew (spAt sp i) = true → spNew (spAt sp j) = true → i ≠ j → kf i ≠ kf j) →
      wpList P ops.toArray Q (ops.drop m) (fr n (asg (spv sp kf) 0 (ops.take m) l)) w) :
    (Code.region id ops.toArray true).wp P Q (fr n l) W := by
  refine r_draw m sp fs hm hb hd hc hl hf hns hlate hD hs (fun f w hmo hR hDs => ?_)
  have hk : ∃ kf : Nat → Nat, ∀ i zs, i < m → spAt sp i = .inr zs → f i = pt (kf i) 0 ∧ W.heap.size ≤ kf i ∧ At w (kf i) zs := by
    refine ⟨fun i => Classical.epsilon (fun k => f i = pt k 0), fun i zs hi hsp => ?_⟩
    have h1 := hR i (by rw [Nat.blt_eq]; exact hi)
    rw [hsp] at h1
    obtain ⟨k, e, h2, h3⟩ := h1
    have hex : ∃ k, f i = pt k 0 := ⟨k, e⟩
    have hc := Classical.epsilon_spec hex
    have : Classical.epsilon (fun k => f i = pt k 0) = k := pt_inj (hc.symm.trans e)
    simp only [this]
    exact ⟨e, h2, h3⟩
  obtain ⟨kf, hkf⟩ := hk
  have e : asg f 0 (ops.take m) l = asg (spv sp kf) 0 (ops.take m) l := asg_congr _ 0 l (fun j _ hj => by
    have hjm : j < m := by have := List.length_take_le m ops; omega
    unfold spv
    cases hsp : spAt sp j with
    | inl v =>
      have := hR j (by rw [Nat.blt_eq]; exact hjm)
      rw [hsp] at this
      exact this
    | inr zs => exact (hkf j zs hjm hsp).1)
  rw [e]
  refine hend kf w hmo (fun i zs hi hsp => (hkf i zs (by rw [Nat.blt_eq] at hi; exact hi) hsp).2) (fun i j hi hj hin hjn hne heq => ?_)
  have gi : ∃ zs, spAt sp i = .inr zs := by cases h : spAt sp i with | inl v => rw [h] at hin; cases hin | inr zs => exact ⟨zs, rfl⟩
  have gj : ∃ zs, spAt sp j = .inr zs := by cases h : spAt sp j with | inl v => rw [h] at hjn; cases hjn | inr zs => exact ⟨zs, rfl⟩
  obtain ⟨zi, gi⟩ := gi
  obtain ⟨zj, gj⟩ := gj
  have hi' : i < m := by rw [Nat.blt_eq] at hi; exact hi
  have hj' : j < m := by rw [Nat.blt_eq] at hj; exact hj
  have h1 := (hkf i zi hi' gi).1
  have h2 := (hkf j zj hj' gj).1
  rw [← heq] at h2
  exact hDs.2 i j hin hjn hne _ h1 h2
theorem Ds.none {sp : List Sp} {f : Nat → Value} {w : World} (h : sp.all (fun s => !spNew s) = true) : Ds sp f w := by
  have hh : ∀ j, spNew (spAt sp j) = true → False := fun j hj => by
    unfold spAt at hj
    cases e : sp[j]? with
    | none => rw [e] at hj; cases hj
    | some s =>
      rw [e] at hj
      have := List.all_eq_true.1 h s (List.mem_of_getElem? e)
      simp at this
      simp [this] at hj
  exact ⟨fun j hj => (hh j hj).elim, fun i j hi => (hh i hi).elim⟩
theorem Ds.undef {sp : List Sp} {f : Nat → Value} {w : World} (h : ∀ j, j < sp.length → spNew (spAt sp j) = true → f j = undef) : Ds sp f w := by
  have hh : ∀ j, spNew (spAt sp j) = true → ∀ k, f j ≠ pt k 0 := fun j hj k e => by
    rcases Nat.lt_or_ge j sp.length with hl | hl
    · rw [h j hl hj] at e; cases e
    · unfold spAt at hj; rw [List.getElem?_eq_none hl] at hj; cases hj
  exact ⟨fun j hj k hk => (hh j hj k hk).elim, fun i j hi _ _ k hk => (hh i hi k hk).elim⟩
theorem ct {b : Bool} {A B : Prop} (h : b = true) (a : A) : (bif b then A else B) := by subst h; exact a
theorem cf {b : Bool} {A B : Prop} (h : b = false) (a : B) : (bif b then A else B) := by subst h; exact a
theorem wnt_g {ops : Array Oper} {o : Oper} {j d : Nat} {want b r : Bool} (hg : o.guard = some (j, want)) (hd : (ops[j]?).bind (·.dst) = some d) (hn : Nat.blt d n = true) (hv : look l d = .bool b) (hr : (b == want) = r) : wnt n l ops o = r := by
  unfold wnt
  simp only [hg, hd, hn, cond_true, hv]
  subst hr
  cases b <;> cases want <;> rfl
theorem n_then {Q : Exit → Act → World → Prop} {next : Act → World → Prop} {a : Act} {w : World} (h : next a w) : Exit.then next Q .normal a w := h
theorem n_blk {Q : Exit → Act → World → Prop} {id : Nat} {a : Act} {w : World} (h : Q .normal a w) : Exit.inBlock id Q .normal a w := h
theorem x_then {Q : Exit → Act → World → Prop} {next : Act → World → Prop} {id : Nat} {a : Act} {w : World} (h : Q (.exit id) a w) : Exit.then next Q (.exit id) a w := h
theorem x_blk {Q : Exit → Act → World → Prop} {id : Nat} {a : Act} {w : World} (h : Q .normal a w) : Exit.inBlock id Q (.exit id) a w := by simp only [Exit.inBlock, if_true]; exact h
theorem r_then {Q : Exit → Act → World → Prop} {next : Act → World → Prop} {a : Act} {w : World} (h : Q .ret a w) : Exit.then next Q .ret a w := h
theorem r_blk {Q : Exit → Act → World → Prop} {id : Nat} {a : Act} {w : World} (h : Q .ret a w) : Exit.inBlock id Q .ret a w := h
variable {o : Oper} {w : World} {K : Act → World → Prop}
theorem o_mv (x : Operand) (p : Value) (ho : ∀ ρ, execOp ρ o = pure (.value (ρ x))) (hx : evl n l x = p) (hk : K (fr n (ext l o.dst p)) w) : o.wp P (fr n l) w K Q := by
  refine o_val p ?_ hk
  rw [ho, hx]; rfl
theorem o_un (F : Value → Sem Value) (x : Operand) (p v : Value) (ho : ∀ ρ, execOp ρ o = (do pure (.value (← F (ρ x))))) (hx : evl n l x = p) (h : (F p).run P w = .ok v w) (hk : K (fr n (ext l o.dst v)) w) : o.wp P (fr n l) w K Q := by
  refine o_val v ?_ hk
  rw [ho, hx]; simp [h]
theorem o_bin (F : Value → Value → Sem Value) (x y : Operand) (p q v : Value) (ho : ∀ ρ, execOp ρ o = (do pure (.value (← F (ρ x) (ρ y))))) (hx : evl n l x = p) (hy : evl n l y = q) (h : (F p q).run P w = .ok v w) (hk : K (fr n (ext l o.dst v)) w) : o.wp P (fr n l) w K Q := by
  refine o_val v ?_ hk
  rw [ho, hx, hy]; simp [h]
theorem o_build (t : TypeId) (xs : List (Nat × Operand)) (ps : List (Nat × Value)) (v : Value) (ho : o.op = .build t xs.toArray) (hx : xs.map (fun p => (p.1, evl n l p.2)) = ps) (h : (Instr.build t ps.toArray).run P w = .ok v w) (hk : K (fr n (ext l o.dst v)) w) : o.wp P (fr n l) w K Q := by
  refine o_val v ?_ hk
  subst hx
  simp only [execOp, ho, List.map_toArray]
  simp [h]
theorem o_pick (c x y : Operand) (t : Bool) (v : Value) (ho : ∀ ρ, execOp ρ o = (do pure (.value (if ← asBool (ρ c) then ρ x else ρ y)))) (hc : evl n l c = .bool t) (hv : evl n l (bif t then x else y) = v) (hk : K (fr n (ext l o.dst v)) w) : o.wp P (fr n l) w K Q := by
  refine o_val v ?_ hk
  rw [ho, hc]
  cases t <;> simp at hv <;> simp [asBool, hv]
theorem lp2 {i j : Nat} {a b c d : Value} (h : a = b) (k : c = d) : [(i, a), (j, c)] = [(i, b), (j, d)] := by rw [h, k]
end
end Go.Proofs.Ythfemlhmnjfjiaa

/-
  The laws of the steps over propositions that nothing unfolds by itself.
-/
namespace Go.Proofs.Ythfemlhmnjfjiaa
open Go.RowKit
/-- The least number with a property. -/
theorem exists_least {p : Nat → Prop} (h : ∃ m, p m) : ∃ m, p m ∧ ∀ k, p k → m ≤ k := by
  obtain ⟨m, hm⟩ := h
  induction m using Nat.strongRecOn with
  | ind m ih =>
    by_cases hh : ∃ k, k < m ∧ p k
    · obtain ⟨k, hk, hp⟩ := hh; exact ih k hk hp
    · exact ⟨m, hm, fun k hp => Nat.le_of_not_lt (fun hk => hh ⟨k, hk, hp⟩)⟩
def least (p : Nat → Prop) (m : Nat) : Prop := p m ∧ ∀ k, p k → m ≤ k
theorem least_ok {p : Nat → Prop} (h : ∃ m, p m) : least p (Classical.epsilon (least p)) := Classical.epsilon_spec (exists_least h)
structure WC (P : Program) (c : Code) (Q : Exit → Act → World → Prop) (n : Nat) (l : List (Nat × Value)) (w : World) : Prop where
  out : c.wp P Q (fr n l) w
structure WL (P : Program) (ops : Array Oper) (Q : Exit → Act → World → Prop) (r : List Oper) (n : Nat) (l : List (Nat × Value)) (w : World) : Prop where
  out : wpList P ops Q r (fr n l) w
structure WX (Q : Exit → Act → World → Prop) (e : Exit) (n : Nat) (l : List (Nat × Value)) (w : World) : Prop where
  out : Q e (fr n l) w
structure WO (P : Program) (o : Oper) (n : Nat) (l : List (Nat × Value)) (w : World) (K : Act → World → Prop) (Q : Exit → Act → World → Prop) : Prop where
  out : o.wp P (fr n l) w K Q
section
variable {P : Program} {o : Oper} {n : Nat} {l : List (Nat × Value)} {w : World} {ops : Array Oper} {rest : List Oper} {Q : Exit → Act → World → Prop} {K : Act → World → Prop}
theorem w_enter {f : FuncId} {fn : Func} {c : Code} {args : Array Value} {R : Ending → World → Prop} (n : Nat) (hf : P.funcs[f]? = some fn) (hn : fn.ntmps = n) (hb : fn.body = some c)
    (ha : Nat.ble args.size n = true) (h : WC P c (bodyPost P fn R) n (argl 0 args.toList) w) : Calls P f args w R := f_enter n hf hn hb ha h.out
theorem w_seq {x y : Code} (h : WC P x (Exit.then (y.wp P Q) Q) n l w) : WC P (Code.seq x y) Q n l w := ⟨wp_seq h.out⟩
theorem w_block {id : Nat} {c : Code} (h : WC P c (Exit.inBlock id Q) n l w) : WC P (Code.block id c) Q n l w := ⟨wp_block h.out⟩
theorem w_skip (h : WX Q .normal n l w) : WC P .skip Q n l w := ⟨wp_skip h.out⟩
theorem w_ret (h : WX Q .ret n l w) : WC P .ret Q n l w := ⟨wp_ret h.out⟩
theorem w_exit {id : Nat} (h : WX Q (.exit id) n l w) : WC P (.exit id) Q n l w := ⟨wp_exit h.out⟩
theorem w_condT {c : Operand} {x y : Code} (hc : evl n l c = .bool true) (h : WC P x Q n l w) : WC P (Code.cond c x y) Q n l w := ⟨c_cond true hc h.out⟩
theorem w_condF {c : Operand} {x y : Code} (hc : evl n l c = .bool false) (h : WC P y Q n l w) : WC P (Code.cond c x y) Q n l w := ⟨c_cond false hc h.out⟩
theorem w_reg {id : Nat} {ol : List Oper} (h : WL P ol.toArray Q ol n l w) : WC P (Code.region id ol.toArray false) Q n l w := ⟨wp_region_lit h.out⟩
theorem w_nil (h : WX Q .normal n l w) : WL P ops Q [] n l w := ⟨wpList_nil h.out⟩
theorem xn_then {y : Code} {Q' : Exit → Act → World → Prop} (h : WC P y Q n l w) : WX (Exit.then (y.wp P Q) Q') .normal n l w := ⟨n_then h.out⟩
theorem xn_blk {id : Nat} (h : WX Q .normal n l w) : WX (Exit.inBlock id Q) .normal n l w := ⟨n_blk h.out⟩
theorem xx_then {next : Act → World → Prop} {id : Nat} (h : WX Q (.exit id) n l w) : WX (Exit.then next Q) (.exit id) n l w := ⟨x_then h.out⟩
theorem xx_blk {id : Nat} (h : WX Q .normal n l w) : WX (Exit.inBlock id Q) (.exit id) n l w := ⟨x_blk h.out⟩
theorem xr_then {next : Act → World → Prop} (h : WX Q .ret n l w) : WX (Exit.then next Q) .ret n l w := ⟨r_then h.out⟩
theorem xr_blk {id : Nat} (h : WX Q .ret n l w) : WX (Exit.inBlock id Q) .ret n l w := ⟨r_blk h.out⟩
theorem w_ret1 {fn : Func} {R : Ending → World → Prop} (x : ResultVar) (v : Value) (hf : fn.results = #[x]) (h : resv n l P w v x) (hR : R (.returned v) w) : WX (bodyPost P fn R) .ret n l w := ⟨c_ret1 x v hf h hR⟩
theorem w_ret2 {fn : Func} {R : Ending → World → Prop} (x y : ResultVar) (v u : Value) (hf : fn.results = #[x, y]) (h : resv n l P w v x) (g : resv n l P w u y) (hR : R (.returned (.tuple #[v, u])) w) : WX (bodyPost P fn R) .ret n l w := ⟨c_ret2 x y v u hf h g hR⟩
/-- A loop: what holds ahead of each round, of the frame's list and the world, with a number that falls. -/
theorem w_loop {c : Code} (I : Nat → List (Nat × Value) → World → Prop) (m : Nat) (h0 : I m l w)
    (round : ∀ m l w, I m l w → WC P c (Exit.then (fun a w' => ∃ m' l', m' < m ∧ a = fr n l' ∧ I m' l' w') Q) n l w) : WC P (Code.loop c) Q n l w := by
  refine ⟨?_⟩
  have key : ∀ m : Nat, ∀ l w, I m l w → (Code.loop c).wp P Q (fr n l) w := by
    intro m0 l0 w0 hI0
    refine wp_loop (fun a w => ∃ m l, a = fr n l ∧ I m l w) (fun a w => Classical.epsilon (least (fun m => ∃ l, a = fr n l ∧ I m l w))) ⟨m0, l0, rfl, hI0⟩ ?_
    rintro a w ⟨m, l, rfl, hI⟩
    obtain ⟨l2, e2, hI2⟩ := (least_ok (p := fun m => ∃ l', fr n l = fr n l' ∧ I m l' w) ⟨m, l, rfl, hI⟩).1
    rw [e2]
    refine Code.wp_mono ?_ (round _ l2 w hI2).out
    intro e a' w' hq
    cases e with
    | normal =>
      obtain ⟨m', l', hlt, rfl, hI'⟩ := hq
      refine ⟨⟨m', l', rfl, hI'⟩, Nat.lt_of_le_of_lt ((least_ok (p := fun m => ∃ l'', fr n l' = fr n l'' ∧ I m l'' w') ⟨m', l', rfl, hI'⟩).2 m' ⟨l', rfl, hI'⟩) ?_⟩
      rw [← e2]; exact hlt
    | _ => exact hq
  exact key m l w h0
theorem xn_loop {I : Nat → List (Nat × Value) → World → Prop} {m : Nat} (m' : Nat) (hlt : m' < m) (h : I m' l w) : WX (Exit.then (fun a w' => ∃ m' l', m' < m ∧ a = fr n l' ∧ I m' l' w') Q) .normal n l w := ⟨⟨m', l, hlt, rfl, h⟩⟩
theorem wl_val (v : Value) (h : (execOp (evl n l) o).run P w = .ok (.value v) w) (hg : wnt n l ops o = true) (hk : WL P ops Q rest n (ext l o.dst v) w) : WL P ops Q (o :: rest) n l w :=
  ⟨l_step hg (o_val v h hk.out)⟩
theorem wo_val (v : Value) (h : (execOp (evl n l) o).run P w = .ok (.value v) w) (hk : K (fr n (ext l o.dst v)) w) : WO P o n l w K Q := ⟨o_val v h hk⟩
theorem wl_mv (x : Operand) (p : Value) (ho : ∀ ρ, execOp ρ o = pure (.value (ρ x))) (hx : evl n l x = p) (hg : wnt n l ops o = true) (hk : WL P ops Q rest n (ext l o.dst p) w) : WL P ops Q (o :: rest) n l w :=
  ⟨l_step hg (o_mv x p ho hx hk.out)⟩
theorem wo_mv (x : Operand) (p : Value) (ho : ∀ ρ, execOp ρ o = pure (.value (ρ x))) (hx : evl n l x = p) (hk : K (fr n (ext l o.dst p)) w) : WO P o n l w K Q := ⟨o_mv x p ho hx hk⟩
theorem wl_un (F : Value → Sem Value) (x : Operand) (p v : Value) (ho : ∀ ρ, execOp ρ o = (do pure (.value (← F (ρ x))))) (hx : evl n l x = p) (h : (F p).run P w = .ok v w) (hg : wnt n l ops o = true) (hk : WL P ops Q rest n (ext l o.dst v) w) : WL P ops Q (o :: rest) n l w :=
  ⟨l_step hg (o_un F x p v ho hx h hk.out)⟩
theorem wo_un (F : Value → Sem Value) (x : Operand) (p v : Value) (ho : ∀ ρ, execOp ρ o = (do pure (.value (← F (ρ x))))) (hx : evl n l x = p) (h : (F p).run P w = .ok v w) (hk : K (fr n (ext l o.dst v)) w) : WO P o n l w K Q := ⟨o_un F x p v ho hx h hk⟩
theorem wl_bin (F : Value → Value → Sem Value) (x y : Operand) (p q v : Value) (ho : ∀ ρ, execOp ρ o = (do pure (.value (← F (ρ x) (ρ y))))) (hx : evl n l x = p) (hy : evl n l y = q) (h : (F p q).run P w = .ok v w) (hg : wnt n l ops o = true) (hk : WL P ops Q rest n (ext l o.dst v) w) : WL P ops Q (o :: rest) n l w :=
  ⟨l_step hg (o_bin F x y p q v ho hx hy h hk.out)⟩
theorem wo_bin (F : Value → Value → Sem Value) (x y : Operand) (p q v : Value) (ho : ∀ ρ, execOp ρ o = (do pure (.value (← F (ρ x) (ρ y))))) (hx : evl n l x = p) (hy : evl n l y = q) (h : (F p q).run P w = .ok v w) (hk : K (fr n (ext l o.dst v)) w) : WO P o n l w K Q := ⟨o_bin F x y p q v ho hx hy h hk⟩
theorem wl_pick (c x y : Operand) (t : Bool) (v : Value) (ho : ∀ ρ, execOp ρ o = (do pure (.value (if ← asBool (ρ c) then ρ x else ρ y)))) (hc : evl n l c = .bool t) (hv : evl n l (bif t then x else y) = v) (hg : wnt n l ops o = true) (hk : WL P ops Q rest n (ext l o.dst v) w) : WL P ops Q (o :: rest) n l w :=
  ⟨l_step hg (o_pick c x y t v ho hc hv hk.out)⟩
theorem wo_pick (c x y : Operand) (t : Bool) (v : Value) (ho : ∀ ρ, execOp ρ o = (do pure (.value (if ← asBool (ρ c) then ρ x else ρ y)))) (hc : evl n l c = .bool t) (hv : evl n l (bif t then x else y) = v) (hk : K (fr n (ext l o.dst v)) w) : WO P o n l w K Q := ⟨o_pick c x y t v ho hc hv hk⟩
theorem wl_build (t : TypeId) (xs : List (Nat × Operand)) (ps : List (Nat × Value)) (v : Value) (ho : o.op = .build t xs.toArray) (hx : xs.map (fun p => (p.1, evl n l p.2)) = ps) (h : (Instr.build t ps.toArray).run P w = .ok v w) (hg : wnt n l ops o = true) (hk : WL P ops Q rest n (ext l o.dst v) w) : WL P ops Q (o :: rest) n l w :=
  ⟨l_step hg (o_build t xs ps v ho hx h hk.out)⟩
theorem wo_build (t : TypeId) (xs : List (Nat × Operand)) (ps : List (Nat × Value)) (v : Value) (ho : o.op = .build t xs.toArray) (hx : xs.map (fun p => (p.1, evl n l p.2)) = ps) (h : (Instr.build t ps.toArray).run P w = .ok v w) (hk : K (fr n (ext l o.dst v)) w) : WO P o n l w K Q := ⟨o_build t xs ps v ho hx h hk⟩
theorem wl_load (ty : TypeId) (x : Operand) (p v : Value) (ho : o.op = .load ty x) (hx : evl n l x = p) (h : (Instr.loadAt ty p).run P w = .ok v w) (hg : wnt n l ops o = true) (hk : WL P ops Q rest n (ext l o.dst v) w) : WL P ops Q (o :: rest) n l w :=
  ⟨l_step hg (o_load ty x p v ho hx h hk.out)⟩
theorem wo_load (ty : TypeId) (x : Operand) (p v : Value) (ho : o.op = .load ty x) (hx : evl n l x = p) (h : (Instr.loadAt ty p).run P w = .ok v w) (hk : K (fr n (ext l o.dst v)) w) : WO P o n l w K Q := ⟨o_load ty x p v ho hx h hk⟩
theorem wl_m (x : Operand) (p : Value) (hk : WL P ops Q rest n (ext l o.dst p) w) (ho : ∀ ρ, execOp ρ o = pure (.value (ρ x)) := by exact fun _ => rfl) (hx : evl n l x = p := by rfl) (hg : wnt n l ops o = true := by rfl) : WL P ops Q (o :: rest) n l w := wl_mv x p ho hx hg hk
theorem wl_b (b : BinOp) (t : TypeId) (x y : Operand) (p q v : Value) (h : (do eqGuard b t x y p q; binOp b t p q).run P w = .ok v w) (hk : WL P ops Q rest n (ext l o.dst v) w) (ho : ∀ ρ, execOp ρ o = (do pure (.value (← (do eqGuard b t x y (ρ x) (ρ y); binOp b t (ρ x) (ρ y))))) := by exact fun _ => rfl) (hx : evl n l x = p := by rfl) (hy : evl n l y = q := by rfl) (hg : wnt n l ops o = true := by rfl) : WL P ops Q (o :: rest) n l w := wl_bin (fun u z => do eqGuard b t x y u z; binOp b t u z) x y p q v ho hx hy h hg hk
theorem wl_f (t : TypeId) (i : Nat) (x : Operand) (p v : Value) (hk : WL P ops Q rest n (ext l o.dst v) w) (h : (Instr.fieldAt t p i).run P w = .ok v w := by kernel_rfl) (ho : ∀ ρ, execOp ρ o = (do pure (.value (← Instr.fieldAt t (ρ x) i))) := by exact fun _ => rfl) (hx : evl n l x = p := by rfl) (hg : wnt n l ops o = true := by rfl) : WL P ops Q (o :: rest) n l w := wl_un (fun v => Instr.fieldAt t v i) x p v ho hx h hg hk
theorem wl_l (t : TypeId) (x : Operand) (p v : Value) (h : (Instr.loadAt t p).run P w = .ok v w) (hk : WL P ops Q rest n (ext l o.dst v) w) (ho : o.op = .load t x := by rfl) (hx : evl n l x = p := by rfl) (hg : wnt n l ops o = true := by rfl) : WL P ops Q (o :: rest) n l w := wl_load t x p v ho hx h hg hk
theorem wl_alloc (ty : TypeId) (zs : Array Value) (ho : o.op = .alloc ty) (h : ∀ w, (Instr.alloc ty true (.tuple #[])).run P w = .ok (pt w.heap.size 0) (w.alloc (.cells zs ty))) (hg : wnt n l ops o = true) (hk : ∀ k w', w.heap.size = k → w'.heap.size = k + 1 → Mo w w' → At w' k zs.toList → WL P ops Q rest n (ext l o.dst (pt k 0)) w') : WL P ops Q (o :: rest) n l w :=
  ⟨l_step hg (o_alloc ty zs ho h (fun k w' a b c d => (hk k w' a b c d).out))⟩
theorem wl_box (ty : TypeId) (x : Operand) (v : Value) (cs : Array Value) (ho : o.op = .box ty x) (hx : evl n l x = v) (h : ∀ w, (Instr.box ty v).run P w = .ok (pt w.heap.size 0) (w.alloc (.cells cs ty))) (hg : wnt n l ops o = true) (hk : ∀ k w', w.heap.size = k → w'.heap.size = k + 1 → Mo w w' → At w' k cs.toList → WL P ops Q rest n (ext l o.dst (pt k 0)) w') : WL P ops Q (o :: rest) n l w :=
  ⟨l_step hg (o_box ty x v cs ho hx h (fun k w' a b c d => (hk k w' a b c d).out))⟩
theorem wl_call (g : FuncId) (xs : List Operand) (ats : Array TypeId) (args : List Value) (v : Value) (ho : o.op = .call { callee := .value (.func g), args := xs.toArray, argTypes := ats }) (hx : xs.map (evl n l) = args) (h : ∀ args w, (callFunc g args).run P w = .ok (.enter g args) w) (hc : Calls P g args.toArray w fun e w' => e = .returned v ∧ Mo w w') (hg : wnt n l ops o = true) (hk : ∀ w', Mo w w' → WL P ops Q rest n (ext l o.dst v) w') : WL P ops Q (o :: rest) n l w :=
  ⟨l_step hg (o_call g xs ats args v ho hx h hc (fun w' m => (hk w' m).out))⟩
theorem wo_call (g : FuncId) (xs : List Operand) (ats : Array TypeId) (args : List Value) (v : Value) (ho : o.op = .call { callee := .value (.func g), args := xs.toArray, argTypes := ats }) (hx : xs.map (evl n l) = args) (h : ∀ args w, (callFunc g args).run P w = .ok (.enter g args) w) (hc : Calls P g args.toArray w fun e w' => e = .returned v ∧ Mo w w') (hk : ∀ w', Mo w w' → K (fr n (ext l o.dst v)) w') : WO P o n l w K Q := ⟨o_call g xs ats args v ho hx h hc (fun w' m => (hk w' m))⟩
theorem wl_skip (hg : wnt n l ops o = false) (h : WL P ops Q rest n (ext l o.dst undef) w) : WL P ops Q (o :: rest) n l w := ⟨l_skip hg h.out⟩
theorem wl_st (ty : TypeId) (x y : Operand) (k off : Nat) (us : Array Value) (vs vs' : List Value) (hA : At w k vs) (ho : o.op = .store ty x y) (hd : o.dst = none) (hx : evl n l x = pt k off) (hy : evl n l y = .agg us)
    (hl : Nat.ble (off + us.size) vs.length = true) (hi : (P.info? ty).map (·.size) = some us.size) (h1 : us.toList.all (·.oneCell') = true) (hvs : vs' = vs.take off ++ us.toList ++ vs.drop (off + us.toList.length)) (hg : wnt n l ops o = true)
    (hk : ∀ w', St k w w' → At w' k vs' → WL P ops Q rest n l w') : WL P ops Q (o :: rest) n l w :=
  ⟨l_step hg (o_st ty x y k off us vs vs' hA ho hd hx hy hl hi h1 hvs (fun w' a b => (hk w' a b).out))⟩
theorem wl_st1 (ty : TypeId) (x y : Operand) (k off : Nat) (v : Value) (vs vs' : List Value) (hA : At w k vs) (ho : o.op = .store ty x y) (hd : o.dst = none) (hx : evl n l x = pt k off) (hy : evl n l y = v)
    (hl : Nat.blt off vs.length = true) (hi : (P.info? ty).map (·.size) = some 1) (hv : v.cells = #[v]) (h1 : v.oneCell' = true) (hvs : vs' = vs.take off ++ [v] ++ vs.drop (off + 1)) (hg : wnt n l ops o = true)
    (hk : ∀ w', St k w w' → At w' k vs' → WL P ops Q rest n l w') : WL P ops Q (o :: rest) n l w :=
  ⟨l_step hg (o_st1 ty x y k off v vs vs' hA ho hd hx hy hl hi hv h1 hvs (fun w' a b => (hk w' a b).out))⟩
/-- Is it run, or passed by? -/
structure Go1 (P : Program) (ops : List Oper) (Q : Exit → Act → World → Prop) (n : Nat) (l : List (Nat × Value)) (w : World) (K : Act → World → Prop) (o : Oper) : Prop where
  out : (wnt n l ops.toArray o = true ∧ WO P o n l w K Q) ∨ (wnt n l ops.toArray o = false ∧ K (fr n (ext l o.dst undef)) w)
theorem go_run {ol : List Oper} (hg : wnt n l ol.toArray o = true) (h : WO P o n l w K Q) : Go1 P ol Q n l w K o := ⟨Or.inl ⟨hg, h⟩⟩
structure OgW (P : Program) (ops : List Oper) (Q : Exit → Act → World → Prop) (n : Nat) (l : List (Nat × Value)) (m : Nat) (W : World) (sp : List Sp) (i : Nat) (o : Oper) : Prop where
  out : ∀ f w, Mo W w → (∀ j, depb o j = true → spDen W.heap.size (spAt sp j) (f j) w) → ∀ K : Act → World → Prop,
    (match spAt sp i with
      | .inl v => ∀ w', Mo w w' → K (fr n (ext (asg f 0 (ops.take m) l) o.dst v)) w'
      | .inr zs => ∀ k w', w.heap.size = k → w'.heap.size = k + 1 → Mo w w' → At w' k zs → K (fr n (ext (asg f 0 (ops.take m) l) o.dst (pt k 0))) w') →
    Go1 P ops Q n (asg f 0 (ops.take m) l) w K o
theorem og_eq {ol : List Oper} {m : Nat} {W : World} {sp : List Sp} {i : Nat} (v : Value) (hs : spAt sp i = .inl v)
    (h : ∀ f w, Mo W w → (∀ j, depb o j = true → spDen W.heap.size (spAt sp j) (f j) w) → ∀ K : Act → World → Prop, (∀ w', Mo w w' → K (fr n (ext (asg f 0 (ol.take m) l) o.dst v)) w') → Go1 P ol Q n (asg f 0 (ol.take m) l) w K o) : OgW P ol Q n l m W sp i o :=
  ⟨fun f w hm hd K hK => h f w hm hd K (by rw [hs] at hK; exact hK)⟩
/-- Something of each operation, with its number. -/
theorem ea_nil {F : Nat → Oper → Prop} {i : Nat} : Each F i [] := trivial
theorem ea_cons {F : Nat → Oper → Prop} {i : Nat} {o : Oper} {r : List Oper} (h : F i o) (k : Each F (i + 1) r) : Each F i (o :: r) := ⟨h, k⟩
/-- What lies in the slots, by the list. -/
def slo (n : Nat) (l : List (Nat × Value)) (ops : List Oper) (i : Nat) : Value :=
  match (ops[i]?).bind (·.dst) with
  | some d => bif Nat.blt d n then look l d else undef
  | none => undef
theorem slo_eq (ops : List Oper) : slots (fr n l) ops.toArray = slo n l ops := by
  funext i
  unfold slots slo
  simp only [List.getElem?_toArray]
  cases (ops[i]?).bind (·.dst) with
  | none => rfl
  | some d => exact fr_getD n l d
def isPt : Value → Bool
  | .pointer (some _) => true
  | _ => false
theorem Ds.start {sp : List Sp} {f : Nat → Value} (h : (List.range sp.length).all (fun j => !spNew (spAt sp j) || !isPt (f j)) = true) : Ds sp f w := by
  have hh : ∀ j, spNew (spAt sp j) = true → ∀ k, f j ≠ pt k 0 := fun j hj k e => by
    rcases Nat.lt_or_ge j sp.length with hl | hl
    · have := List.all_eq_true.1 h j (List.mem_range.2 hl)
      simp [hj, e, isPt] at this
    · unfold spAt at hj; rw [List.getElem?_eq_none hl] at hj; cases hj
  exact ⟨fun j hj k hk => (hh j hj k hk).elim, fun i j hi _ _ k hk => (hh i hi k hk).elim⟩
theorem la_mv (x : Operand) (p : Value) (ho : ∀ ρ, execOp ρ o = pure (.value (ρ x))) (hx : evl n l x = p) : ∀ w, (execOp (evl n l) o).run P w = .ok (.value p) w := fun w => by rw [ho, hx]; rfl
theorem la_un (F : Value → Sem Value) (x : Operand) (p v : Value) (ho : ∀ ρ, execOp ρ o = (do pure (.value (← F (ρ x))))) (hx : evl n l x = p) (h : ∀ w, (F p).run P w = .ok v w) : ∀ w, (execOp (evl n l) o).run P w = .ok (.value v) w := fun w => by
  rw [ho, hx]; simp [h]
theorem late_nil {ol : List Oper} {m : Nat} {sp : List Sp} : ∀ i, i ∈ ([] : List Nat) → LateO P ol Q n l m sp i := fun i h => absurd h (by simp)
theorem late_cons {ol : List Oper} {m : Nat} {sp : List Sp} {j : Nat} {r : List Nat} (h : LateO P ol Q n l m sp j) (k : ∀ i, i ∈ r → LateO P ol Q n l m sp i) : ∀ i, i ∈ j :: r → LateO P ol Q n l m sp i := fun i hi => by
  rcases List.mem_cons.1 hi with rfl | hi
  · exact h
  · exact k i hi
theorem w_any {id : Nat} {ol : List Oper} (m : Nat) (sp : List Sp) (fs : List Nat) (hm : P.follows .mixedOrders = true)
    (hb : edgesBack .any ol.toArray = true) (hd : dstsApart (ol.take m) = true) (hc : chainB ol m fs = true) (hl : Nat.ble m ol.length = true) (hf : floatB ol m fs = true) (hns : Region.noSelect ol.toArray = true)
    (hlate : ∀ i, i ∈ fs → LateO P ol Q n l m sp i)
    (hD : Ds sp (slo n l (ol.take m)) w)
    (hs : Each (OgW P ol Q n l m w sp) 0 (ol.take m))
    (hend : ∀ kf w', Mo w w' → (∀ i zs, Nat.blt i m = true → spAt sp i = .inr zs → w.heap.size ≤ kf i ∧ At w' (kf i) zs) → (∀ i j, Nat.blt i m = true → Nat.blt j m = true → spNew (spAt sp i) = true → spNew (spAt sp j) = true → i ≠ j → kf i ≠ kf j) →
      WL P ol.toArray Q (ol.drop m) n (asg (spv sp kf) 0 (ol.take m) l) w') : WC P (Code.region id ol.toArray true) Q n l w := by
  refine ⟨r_any m sp fs hm hb hd hc hl hf hns hlate (by rw [slo_eq]; exact hD) (Each.mono ?_ _ 0 hs) (fun kf w' a b c => (hend kf w' a b c).out)⟩
  intro i o h f w' hmo hdep K hK
  rcases (h.out f w' hmo hdep K hK).out with ⟨hg, h⟩ | ⟨hg, h⟩
  · exact ct hg h.out
  · exact cf hg h
end
end Go.Proofs.Ythfemlhmnjfjiaa

/-
  The document's Bit, whatever the number: the walks.
-/
namespace Go.Proofs.Ythfemlhmnjfjiaa
open Go.RowKit
theorem and_one (a : Int) (h0 : 0 ≤ a) (h1 : a < 18446744073709551616) : bits .and .u64 a 1 = a % 2 := by
  obtain ⟨x, rfl⟩ := Int.eq_ofNat_of_zero_le h0
  have e := bits_and_u64_nat x 1 (by omega) (by decide)
  rw [Nat.and_one_is_mod] at e
  rw [show ((1 : Nat) : Int) = 1 from rfl] at e
  rw [e]; omega
theorem sh_bd {a : Int} (h : U1 a) (r : Nat) : 0 ≤ a / 2 ^ r ∧ a / 2 ^ r < 18446744073709551616 := by
  obtain ⟨p, q⟩ := h
  have hp : (0 : Int) < 2 ^ r := Int.pow_pos (by decide)
  refine ⟨Int.ediv_nonneg p (by omega), ?_⟩
  have := Int.ediv_le_self (2 ^ r) p
  omega
end Go.Proofs.Ythfemlhmnjfjiaa

/-
  Decimals as the program holds them, and the smallest functions of package decimal: the walks.
-/
namespace Go.Proofs.Ythfemlhmnjfjiaa
open Go.RowKit
/-- A decimal: its sign, its number, its scale. -/
abbrev dc (b : Bool) (n s : Int) : Value := .agg #[.bool b, .int .u64 (l0 n), .int .u64 (l1 n), .int .u64 (l2 n), .int .u64 (l3 n), .int .i64 s]
/-- A number of twice as many bits. -/
abbrev dw (X : Int) : Value := .agg #[.int .u64 (l0 (X / MM)), .int .u64 (l1 (X / MM)), .int .u64 (l2 (X / MM)), .int .u64 (l3 (X / MM)), .int .u64 (l0 X), .int .u64 (l1 X), .int .u64 (l2 X), .int .u64 (l3 X)]
/-- The block k holds a decimal. -/
def AtD (w : World) (k : Nat) (b : Bool) (n s : Int) : Prop := (w.cell? ⟨k, 0, none⟩ = some (.bool b) ∧ w.cell? ⟨k, 1, none⟩ = some (.int .u64 (l0 n)) ∧ w.cell? ⟨k, 2, none⟩ = some (.int .u64 (l1 n)) ∧ w.cell? ⟨k, 3, none⟩ = some (.int .u64 (l2 n)) ∧ w.cell? ⟨k, 4, none⟩ = some (.int .u64 (l3 n)) ∧ w.cell? ⟨k, 5, none⟩ = some (.int .i64 s)) ∧ Fz w k ∧ k < w.heap.size
theorem AtD.mo {w w' : World} {k : Nat} {b : Bool} {n s : Int} (h : AtD w k b n s) (m : Mo w w') : AtD w' k b n s := by
  obtain ⟨c, f, z⟩ := h
  refine ⟨?_, f.mo m, Nat.lt_of_lt_of_le z m.size⟩
  simp only [m.cell k _ z]; exact c
/-- The block k holds a number of twice as many bits. -/
def AtW (w : World) (k : Nat) (X : Int) : Prop := (w.cell? ⟨k, 0, none⟩ = some (.int .u64 (l0 (X / MM))) ∧ w.cell? ⟨k, 1, none⟩ = some (.int .u64 (l1 (X / MM))) ∧ w.cell? ⟨k, 2, none⟩ = some (.int .u64 (l2 (X / MM))) ∧ w.cell? ⟨k, 3, none⟩ = some (.int .u64 (l3 (X / MM))) ∧ w.cell? ⟨k, 4, none⟩ = some (.int .u64 (l0 X)) ∧ w.cell? ⟨k, 5, none⟩ = some (.int .u64 (l1 X)) ∧ w.cell? ⟨k, 6, none⟩ = some (.int .u64 (l2 X)) ∧ w.cell? ⟨k, 7, none⟩ = some (.int .u64 (l3 X))) ∧ Fz w k ∧ k < w.heap.size
theorem AtW.mo {w w' : World} {k : Nat} {X : Int} (h : AtW w k X) (m : Mo w w') : AtW w' k X := by
  obtain ⟨c, f, z⟩ := h
  refine ⟨?_, f.mo m, Nat.lt_of_lt_of_le z m.size⟩
  simp only [m.cell k _ z]; exact c

/-- The scale may be. -/
def sc (s : Int) : Bool := decide (0 ≤ s) && decide (s ≤ 18)
set_option maxHeartbeats 1000000 in
theorem isScale_n (s : Int) (w : World) : Calls Try.prog 88 #[.int .i64 s] w fun e w' => e = .returned (.bool (sc s)) ∧ Mo w w' := by
  by_cases h : 0 ≤ s
  · have h1 : decide (s ≥ 0) = true := decide_eq_true h
    have e : sc s = decide (s ≤ 18) := by unfold sc; rw [decide_eq_true h]; rfl
    rw [e]
    go_enter Try.func88, Try.ntmps88
    go_wp2
    go_ret
    exact ⟨rfl, Mo.refl _⟩
  · have h1 : decide (s ≥ 0) = false := decide_eq_false h
    have e : sc s = false := by unfold sc; rw [decide_eq_false h]; rfl
    rw [e]
    go_enter Try.func88, Try.ntmps88
    go_wp2
    go_ret
    exact ⟨rfl, Mo.refl _⟩
/-- The number is 0, by its limbs. -/
theorem zb {n : Int} (h0 : 0 ≤ n) (h : n < MM) : (l0 n == 0 && (l1 n == 0 && (l2 n == 0 && l3 n == 0))) = decide (n = 0) := zero4 h0 h
/-- What Check answers. -/
def ck (b : Bool) (n s : Int) : Int := if sc s && !(b && decide (n = 0)) then 0 else 20
set_option maxHeartbeats 2000000 in
theorem check_n (b : Bool) (n s : Int) (w : World) (hn0 : 0 ≤ n) (hn : n < MM) : Calls Try.prog 77 #[dc b n s] w fun e w' => e = .returned (.int .i64 (ck b n s)) ∧ Mo w w' := by
  have q4 := eq4
  have z4 := zb hn0 hn
  have Q : AtD (w.alloc (.cells #[.bool b, .int .u64 (l0 n), .int .u64 (l1 n), .int .u64 (l2 n), .int .u64 (l3 n), .int .i64 s] 40)) w.heap.size b n s := ⟨by simp [go_sem], fun o => by simp [go_sem], by simp⟩
  go_enter Try.func77, Try.ntmps77
  go_wp2_with fail
  refine (isScale_n s _).mono ?_
  rintro e w1 ⟨rfl, hm1⟩
  have M1 : Mo w w1 := ((Mo.refl _).alloc _ _).trans hm1
  obtain ⟨⟨a0, a1, a2, a3, a4, a5⟩, _, sz⟩ := Q.mo hm1
  clear Q hm1
  cases hs : sc s <;> cases hb : b <;> cases hz : decide (n = 0)
  all_goals
    rw [hz] at z4
    go_wp2
    go_ret
    exact ⟨by simp [ck, *], M1⟩
end Go.Proofs.Ythfemlhmnjfjiaa

/-
  decimal.signed, ten, mulDouble: the walks.
-/
namespace Go.Proofs.Ythfemlhmnjfjiaa
open Go.RowKit
set_option maxHeartbeats 2000000 in
theorem dten_n (k : Nat) (w : World) (hk : k ≤ 77) : Calls Try.prog 94 #[.int .i64 (k : Int)] w fun e w' => e = .returned (nv (10 ^ k)) ∧ Mo w w' := by
  go_enter Try.func94, Try.ntmps94
  go_wp2_with fail
  refine (ten_yes k _ hk).mono ?_
  rintro e w1 ⟨rfl, hm1⟩
  have M1 : Mo w w1 := ((Mo.refl _).alloc _ _).trans hm1
  have Q1 : At0 w1 w.heap.size := At0.mo ⟨by simp [At4, go_sem], fun o => by simp [go_sem], by simp <;> omega⟩ hm1
  obtain ⟨⟨a0, a1, a2, a3⟩, fa, sa⟩ := Q1
  have fa := fun o => fa o
  go_wp2
  refine bodyPost_ret (v := nv (10 ^ k)) (by simp [results, Try.results94, go_sem, *]) rfl ?_
  refine ⟨rfl, ?_⟩
  repeat (first | with_reducible exact M1 | with_reducible apply Mo.drew | with_reducible apply Mo.drewN | with_reducible apply Mo.alloc | with_reducible refine Mo.setCell ?_ (by simp <;> omega) _)
theorem zl0 : l0 0 = 0 := rfl
theorem zl1 : l1 0 = 0 := rfl
theorem zl2 : l2 0 = 0 := rfl
theorem zl3 : l3 0 = 0 := rfl
set_option maxHeartbeats 2000000 in
theorem mulDouble_n (A B : Int) (w : World) (hA0 : 0 ≤ A) (hAM : A < MM) (hB0 : 0 ≤ B) (hBM : B < MM) :
    Calls Try.prog 93 #[nv A, nv B] w fun e w' => e = .returned (dw (A * B)) ∧ Mo w w' := by
  go_enter Try.func93, Try.ntmps93
  go_wp2_with fail
  refine (mul_n A B _ hA0 hAM hB0 hBM).mono ?_
  rintro e w1 ⟨rfl, hm1⟩
  have m : Mo w w1 := Mo.trans (by repeat (first | with_reducible exact Mo.refl _ | with_reducible apply Mo.drew | with_reducible apply Mo.alloc)) hm1
  have M := m
  have Qr : AtW w1 (w.heap.size + 1 + 1) 0 := AtW.mo ⟨by simp [go_sem, zl0, zl1, zl2, zl3], fun o => by simp [go_sem], by simp <;> omega⟩ hm1
  clear hm1 m
  have Or := Qr
  obtain ⟨⟨cr0, cr1, cr2, cr3, cr4, cr5, cr6, cr7⟩, fr, sr⟩ := Or
  have fr := fun o => fr o
  have sxr : w.heap.size + 1 + 1 < w1.heap.size + 1 := by omega
  have syr : w.heap.size + 1 + 1 < w1.heap.size + 1 + 1 := by omega
  have a : Mo w1 ((((w1).alloc (.cells #[.int .u64 (l0 (A * B / MM)), .int .u64 (l1 (A * B / MM)), .int .u64 (l2 (A * B / MM)), .int .u64 (l3 (A * B / MM))] 38))).alloc (.cells #[.int .u64 (l0 (A * B)), .int .u64 (l1 (A * B)), .int .u64 (l2 (A * B)), .int .u64 (l3 (A * B))] 38)) := by repeat (first | with_reducible exact Mo.refl _ | with_reducible apply Mo.alloc)
  clear cr0 cr1 cr2 cr3 cr4 cr5 cr6 cr7 fr sr sxr syr
  have Qr := Qr.mo a
  have M := M.trans a
  have Qh : AtN ((((w1).alloc (.cells #[.int .u64 (l0 (A * B / MM)), .int .u64 (l1 (A * B / MM)), .int .u64 (l2 (A * B / MM)), .int .u64 (l3 (A * B / MM))] 38))).alloc (.cells #[.int .u64 (l0 (A * B)), .int .u64 (l1 (A * B)), .int .u64 (l2 (A * B)), .int .u64 (l3 (A * B))] 38)) (w1.heap.size) (A * B / MM) := ⟨by simp [At4, go_sem], fun o => by simp [go_sem], by simp <;> omega⟩
  have Ql : AtN ((((w1).alloc (.cells #[.int .u64 (l0 (A * B / MM)), .int .u64 (l1 (A * B / MM)), .int .u64 (l2 (A * B / MM)), .int .u64 (l3 (A * B / MM))] 38))).alloc (.cells #[.int .u64 (l0 (A * B)), .int .u64 (l1 (A * B)), .int .u64 (l2 (A * B)), .int .u64 (l3 (A * B))] 38)) (w1.heap.size + 1) (A * B) := ⟨by simp [At4, go_sem], fun o => by simp [go_sem], by simp <;> omega⟩
  clear a
  go_upto_region 2 with fail
  generalize ((((w1).alloc (.cells #[.int .u64 (l0 (A * B / MM)), .int .u64 (l1 (A * B / MM)), .int .u64 (l2 (A * B / MM)), .int .u64 (l3 (A * B / MM))] 38))).alloc (.cells #[.int .u64 (l0 (A * B)), .int .u64 (l1 (A * B)), .int .u64 (l2 (A * B)), .int .u64 (l3 (A * B))] 38)) = W0 at *
  have Or := Qr
  obtain ⟨⟨cr0, cr1, cr2, cr3, cr4, cr5, cr6, cr7⟩, fr, sr⟩ := Or
  have fr := fun o => fr o
  have sxr : w.heap.size + 1 + 1 < W0.heap.size + 1 := by omega
  have syr : w.heap.size + 1 + 1 < W0.heap.size + 1 + 1 := by omega
  have Oh := Qh
  obtain ⟨⟨ch0, ch1, ch2, ch3⟩, fh, sh⟩ := Oh
  have fh := fun o => fh o
  have sxh : w1.heap.size < W0.heap.size + 1 := by omega
  have syh : w1.heap.size < W0.heap.size + 1 + 1 := by omega
  have Ol := Ql
  obtain ⟨⟨cl0, cl1, cl2, cl3⟩, fl, sl⟩ := Ol
  have fl := fun o => fl o
  have sxl : w1.heap.size + 1 < W0.heap.size + 1 := by omega
  have syl : w1.heap.size + 1 < W0.heap.size + 1 + 1 := by omega
  go_wp2
  refine bodyPost_ret (v := dw (A * B)) (by simp [results, Try.results93, go_sem, *]) rfl ?_
  refine ⟨rfl, ?_⟩
  repeat (first | with_reducible exact M | with_reducible exact Mo.refl _ | with_reducible apply Mo.drew | with_reducible apply Mo.drewN | with_reducible apply Mo.alloc | with_reducible refine Mo.setCell ?_ (by simp <;> omega) _)
end Go.Proofs.Ythfemlhmnjfjiaa

/-
  == of decimals and of numbers of twice as many bits.
-/
namespace Go.Proofs.Ythfemlhmnjfjiaa
open Go.RowKit
theorem eq4d (d : Nat) (a b c e f g h i : Int) (w : World) : (Op.equalIn (d + 1 + 1) 38 (.agg #[.int .u64 a, .int .u64 b, .int .u64 c, .int .u64 e]) (.agg #[.int .u64 f, .int .u64 g, .int .u64 h, .int .u64 i])).run Try.prog w = .ok (a == f && (b == g && (c == h && e == i))) w := by
  obtain ⟨j, hj⟩ := info22
  rw [run_equalIn_array w (d + 1) _ _ Try.underlying38 hj, cells22]
  have q : ∀ (x y : Int), (Op.equalIn (d + 1) 34 (.int .u64 x) (.int .u64 y)).run Try.prog w = .ok (x == y) w := fun x y => run_equalIn_int w d 34 .u64 .u64 x y Try.underlying34
  rw [show List.range 4 = [0, 1, 2, 3] from rfl]
  cases ha : a == f <;> cases hb : b == g <;> cases hc : c == h <;> cases hd : e == i <;> simp [Op.eqItems, Sem.run_bind, part0, part1, part2, part3, Result.andThen_ok, q, ha, hb, hc, hd, Sem.run_pure]
theorem ht40 : Try.prog.underlying 40 = some (.struct (Try.prog.fieldsOf 40)) := by kernel_rfl
theorem ht81 : Try.prog.underlying 136 = some (.struct (Try.prog.fieldsOf 136)) := by kernel_rfl
theorem hp40 : Try.prog.stoodInHeld 40 = false := by kernel_rfl
theorem hp81 : Try.prog.stoodInHeld 136 = false := by kernel_rfl
theorem fo40 : (Try.prog.fieldsOf 40).toList.map (fun f => (f.name, f.type, f.offset)) = [("Neg", 4, 0), ("N", 38, 1), ("Scale", 3, 5)] := by kernel_rfl
theorem fo81 : (Try.prog.fieldsOf 136).toList.map (fun f => (f.name, f.type, f.offset)) = [("high", 38, 0), ("low", 38, 4)] := by kernel_rfl
theorem pt40 (x0 x1 x2 x3 x4 x5 : Value) (w : World) : (part 4 #[x0, x1, x2, x3, x4, x5] 0).run Try.prog w = .ok x0 w := by kernel_rfl
theorem pt41 (x0 x1 x2 x3 x4 x5 : Value) (w : World) : (part 38 #[x0, x1, x2, x3, x4, x5] 1).run Try.prog w = .ok (.agg #[x1, x2, x3, x4]) w := by kernel_rfl
theorem pt45 (x0 x1 x2 x3 x4 x5 : Value) (w : World) : (part 3 #[x0, x1, x2, x3, x4, x5] 5).run Try.prog w = .ok x5 w := by kernel_rfl
theorem pt80 (x0 x1 x2 x3 x4 x5 x6 x7 : Value) (w : World) : (part 38 #[x0, x1, x2, x3, x4, x5, x6, x7] 0).run Try.prog w = .ok (.agg #[x0, x1, x2, x3]) w := by kernel_rfl
theorem pt84 (x0 x1 x2 x3 x4 x5 x6 x7 : Value) (w : World) : (part 38 #[x0, x1, x2, x3, x4, x5, x6, x7] 4).run Try.prog w = .ok (.agg #[x4, x5, x6, x7]) w := by kernel_rfl
theorem eq81n (a0 a1 a2 a3 a4 a5 a6 a7 b0 b1 b2 b3 b4 b5 b6 b7 : Int) (w : World) : (Op.equalIn 10000 136 (.agg #[.int .u64 a0, .int .u64 a1, .int .u64 a2, .int .u64 a3, .int .u64 a4, .int .u64 a5, .int .u64 a6, .int .u64 a7]) (.agg #[.int .u64 b0, .int .u64 b1, .int .u64 b2, .int .u64 b3, .int .u64 b4, .int .u64 b5, .int .u64 b6, .int .u64 b7])).run Try.prog w = .ok ((a0 == b0 && (a1 == b1 && (a2 == b2 && a3 == b3))) && (a4 == b4 && (a5 == b5 && (a6 == b6 && a7 == b7)))) w := by
  rw [show (10000 : Nat) = 9999 + 1 from rfl, run_equalIn_struct w 9999 136 _ _ ht81 hp81]
  have h := fo81
  generalize (Try.prog.fieldsOf 136).toList = L at h
  have hl : L.length = 2 := by have := congrArg List.length h; simpa using this
  match L, hl with
  | [f0, f1], _ =>
    simp at h
    obtain ⟨⟨x0, x1, x2⟩, ⟨y0, y1, y2⟩⟩ := h
    have q1 := eq4d 9997 a0 a1 a2 a3 b0 b1 b2 b3 w
    have q2 := eq4d 9997 a4 a5 a6 a7 b4 b5 b6 b7 w
    generalize hz : (a0 == b0 && (a1 == b1 && (a2 == b2 && a3 == b3))) = z at q1 ⊢
    generalize hz : (a4 == b4 && (a5 == b5 && (a6 == b6 && a7 == b7))) = y at q2 ⊢
    simp only [Op.eqFields, x0, x1, x2, y0, y1, y2]
    cases z <;> cases y <;> simp [Sem.run_bind, pt80, pt84, Result.andThen_ok, q1, q2, Sem.run_pure]
/-- Two numbers of 256 bits are the same just if their limbs are. -/
theorem limbs_eq {n m : Int} (hn0 : 0 ≤ n) (hn : n < MM) (hm0 : 0 ≤ m) (hm : m < MM) : (l0 n == l0 m && (l1 n == l1 m && (l2 n == l2 m && l3 n == l3 m))) = decide (n = m) := by
  rw [Bool.eq_iff_iff]
  simp
  constructor
  · rintro ⟨a, b, c, d⟩; exact nv_inj hn0 hn hm0 hm ⟨a, b, c, d⟩
  · rintro rfl; exact ⟨rfl, rfl, rfl, rfl⟩
theorem l0_mod (n : Int) : l0 (n % MM) = l0 n := by unfold l0 MM; omega
theorem l1_mod (n : Int) : l1 (n % MM) = l1 n := by unfold l1 MM; omega
theorem l2_mod (n : Int) : l2 (n % MM) = l2 n := by unfold l2 MM; omega
theorem l3_mod (n : Int) : l3 (n % MM) = l3 n := by unfold l3 MM; omega
theorem wide_eqn {X Y : Int} (hX0 : 0 ≤ X) (hX : X < MM * MM) (hY0 : 0 ≤ Y) (hY : Y < MM * MM) : ((l0 (X / MM) == l0 (Y / MM) && (l1 (X / MM) == l1 (Y / MM) && (l2 (X / MM) == l2 (Y / MM) && l3 (X / MM) == l3 (Y / MM)))) && (l0 X == l0 Y && (l1 X == l1 Y && (l2 X == l2 Y && l3 X == l3 Y)))) = decide (X = Y) := by
  have p : (0 : Int) < MM := by decide
  rw [limbs_eq (Int.ediv_nonneg hX0 (by omega)) (Int.ediv_lt_of_lt_mul p hX) (Int.ediv_nonneg hY0 (by omega)) (Int.ediv_lt_of_lt_mul p hY), ← l0_mod X, ← l1_mod X, ← l2_mod X, ← l3_mod X, ← l0_mod Y, ← l1_mod Y, ← l2_mod Y, ← l3_mod Y, limbs_eq (Int.emod_nonneg _ (by omega)) (Int.emod_lt_of_pos _ p) (Int.emod_nonneg _ (by omega)) (Int.emod_lt_of_pos _ p)]
  rw [Bool.eq_iff_iff]
  simp
  constructor
  · rintro ⟨a, b⟩
    rw [← Int.mul_ediv_add_emod X MM, ← Int.mul_ediv_add_emod Y MM, a, b]
  · rintro rfl; exact ⟨rfl, rfl⟩
theorem eq81 (a0 a1 a2 a3 a4 a5 a6 a7 b0 b1 b2 b3 b4 b5 b6 b7 : Int) (w : World) : (Op.equalIn 10000 136 (.agg #[.int .u64 a0, .int .u64 a1, .int .u64 a2, .int .u64 a3, .int .u64 a4, .int .u64 a5, .int .u64 a6, .int .u64 a7]) (.agg #[.int .u64 b0, .int .u64 b1, .int .u64 b2, .int .u64 b3, .int .u64 b4, .int .u64 b5, .int .u64 b6, .int .u64 b7])).run Try.prog w = .ok (a0 == b0 && (a1 == b1 && (a2 == b2 && (a3 == b3 && (a4 == b4 && (a5 == b5 && (a6 == b6 && a7 == b7))))))) w := by
  rw [eq81n]; simp only [Bool.and_assoc]
theorem wide_eq {X Y : Int} (hX0 : 0 ≤ X) (hX : X < MM * MM) (hY0 : 0 ≤ Y) (hY : Y < MM * MM) : (l0 (X / MM) == l0 (Y / MM) && (l1 (X / MM) == l1 (Y / MM) && (l2 (X / MM) == l2 (Y / MM) && (l3 (X / MM) == l3 (Y / MM) && (l0 X == l0 Y && (l1 X == l1 Y && (l2 X == l2 Y && l3 X == l3 Y))))))) = decide (X = Y) := by
  rw [← wide_eqn hX0 hX hY0 hY]; simp only [Bool.and_assoc]
end Go.Proofs.Ythfemlhmnjfjiaa

/-
  decimal.fit and cmpDouble: the walks.
-/
namespace Go.Proofs.Ythfemlhmnjfjiaa
open Go.RowKit
/-- An error, and no number. -/
abbrev er (c : Int) : Value := .tuple #[.agg #[.bool false, .int .u64 0, .int .u64 0, .int .u64 0, .int .u64 0, .int .i64 0], .int .i64 c]
theorem cmp_m (A B : Int) (w : World) : Calls Try.prog 92 #[nv A, nv B] w fun e w' => e = .returned (.int .i64 (cm (A % MM) (B % MM))) ∧ Mo w w' := by
  have h := cmp15_any (l0 A) (l1 A) (l2 A) (l3 A) (l0 B) (l1 B) (l2 B) (l3 B) w (u4_lb A) (u4_lb B)
  rw [vl_nv, vl_nv] at h
  exact h
theorem cm_wide {X Y : Int} : cm X Y = if cm (X / MM) (Y / MM) = 0 then cm (X % MM) (Y % MM) else cm (X / MM) (Y / MM) := by
  have p : (0 : Int) < MM := by decide
  have eX := Int.mul_ediv_add_emod X MM
  have eY := Int.mul_ediv_add_emod Y MM
  have cX := Int.emod_nonneg X (show MM ≠ 0 by omega)
  have dX := Int.emod_lt_of_pos X p
  have cY := Int.emod_nonneg Y (show MM ≠ 0 by omega)
  have dY := Int.emod_lt_of_pos Y p
  unfold cm
  unfold MM at *
  split <;> split <;> split <;> (try split) <;> (try split) <;> (try split) <;> omega
set_option maxHeartbeats 4000000 in
theorem cmpDouble_n (X Y : Int) (w : World) (hX0 : 0 ≤ X) (hX : X < MM * MM) (hY0 : 0 ≤ Y) (hY : Y < MM * MM) :
    Calls Try.prog 86 #[dw X, dw Y] w fun e w' => e = .returned (.int .i64 (cm X Y)) ∧ Mo w w' := by
  have q8 := eq81
  have we := wide_eq hX0 hX hY0 hY
  have p : (0 : Int) < MM := by decide
  have a1 : X / MM % MM = X / MM := Int.emod_eq_of_lt (Int.ediv_nonneg hX0 (by omega)) (Int.ediv_lt_of_lt_mul p hX)
  have b1 : Y / MM % MM = Y / MM := Int.emod_eq_of_lt (Int.ediv_nonneg hY0 (by omega)) (Int.ediv_lt_of_lt_mul p hY)
  have A1 : Hid _ := a1
  have B1 : Hid _ := b1
  clear a1 b1 p
  by_cases h : X = Y
  · rw [decide_eq_true h] at we
    have e : Hid (cm X Y = 0) := by show _ = _; subst h; unfold cm; simp
    clear h
    go_enter Try.func86, Try.ntmps86
    go_wp2
    go_ret
    exact ⟨by rw [e.out]; rfl, ((Mo.refl _).alloc _ _).alloc _ _⟩
  · rw [decide_eq_false h] at we
    have e : Hid _ := cm_wide (X := X) (Y := Y)
    clear h
    go_enter Try.func86, Try.ntmps86
    go_wp2_with fail
    refine (cmp_m (X / MM) (Y / MM) _).mono ?_
    rintro e w1 ⟨rfl, hm1⟩
    rw [A1.out, B1.out]
    have m : Mo w w1 := Mo.trans (by repeat (first | with_reducible exact Mo.refl _ | with_reducible apply Mo.drew | with_reducible apply Mo.alloc)) hm1
    have M := m
    have Qx : AtW w1 (w.heap.size) X := AtW.mo ⟨by simp [go_sem], fun o => by simp [go_sem], by simp <;> omega⟩ hm1
    have Qy : AtW w1 (w.heap.size + 1) Y := AtW.mo ⟨by simp [go_sem], fun o => by simp [go_sem], by simp <;> omega⟩ hm1
    clear hm1 m
    have Ox := Qx
    obtain ⟨⟨cx0, cx1, cx2, cx3, cx4, cx5, cx6, cx7⟩, fx, sx⟩ := Ox
    have fx := fun o => fx o
    have sxx : w.heap.size < w1.heap.size + 1 := by omega
    have syx : w.heap.size < w1.heap.size + 1 + 1 := by omega
    have Oy := Qy
    obtain ⟨⟨cy0, cy1, cy2, cy3, cy4, cy5, cy6, cy7⟩, fy, sy⟩ := Oy
    have fy := fun o => fy o
    have sxy : w.heap.size + 1 < w1.heap.size + 1 := by omega
    have syy : w.heap.size + 1 < w1.heap.size + 1 + 1 := by omega
    by_cases hz : cm (X / MM) (Y / MM) = 0
    · have hb : (cm (X / MM) (Y / MM) == 0) = true := by rw [hz]; rfl
      have e2 := e.out
      rw [if_pos hz] at e2
      have E2 : Hid _ := e2
      clear e2 hz
      go_wp2_with fail
      refine (cmp_m X Y _).mono ?_
      rintro e w2 ⟨rfl, hm2⟩
      have m : Mo w1 w2 := Mo.trans (by repeat (first | with_reducible exact Mo.refl _ | with_reducible apply Mo.drew | with_reducible apply Mo.alloc)) hm2
      clear cx0 cx1 cx2 cx3 cx4 cx5 cx6 cx7 fx sx sxx syx cy0 cy1 cy2 cy3 cy4 cy5 cy6 cy7 fy sy sxy syy
      have Qx := Qx.mo m
      have Qy := Qy.mo m
      have M := M.trans m
      clear hm2 m
      have Ox := Qx
      obtain ⟨⟨cx0, cx1, cx2, cx3, cx4, cx5, cx6, cx7⟩, fx, sx⟩ := Ox
      have fx := fun o => fx o
      have sxx : w.heap.size < w2.heap.size + 1 := by omega
      have syx : w.heap.size < w2.heap.size + 1 + 1 := by omega
      have Oy := Qy
      obtain ⟨⟨cy0, cy1, cy2, cy3, cy4, cy5, cy6, cy7⟩, fy, sy⟩ := Oy
      have fy := fun o => fy o
      have sxy : w.heap.size + 1 < w2.heap.size + 1 := by omega
      have syy : w.heap.size + 1 < w2.heap.size + 1 + 1 := by omega
      go_wp2
      go_ret
      exact ⟨by rw [E2.out]; rfl, M⟩
    · have hb : (cm (X / MM) (Y / MM) == 0) = false := by simp [hz]
      have e2 := e.out
      rw [if_neg hz] at e2
      have E2 : Hid _ := e2
      clear e2 hz
      go_wp2
      go_ret
      exact ⟨by rw [E2.out]; rfl, M⟩
end Go.Proofs.Ythfemlhmnjfjiaa

/-
  decimal.checkBoth, Neg, Abs, Sign: the walks.
-/
namespace Go.Proofs.Ythfemlhmnjfjiaa
open Go.RowKit
theorem ck_20 {b : Bool} {n s : Int} (h : ck b n s ≠ 0) : ck b n s = 20 := by unfold ck at *; split at h <;> simp_all
theorem check_ok (b : Bool) (n s : Int) (w : World) (hn0 : 0 ≤ n) (hn : n < MM) (h : ck b n s = 0) : Calls Try.prog 77 #[dc b n s] w fun e w' => e = .returned (.int .i64 0) ∧ Mo w w' := by
  have := check_n b n s w hn0 hn
  rw [h] at this
  exact this
theorem check_no (b : Bool) (n s : Int) (w : World) (hn0 : 0 ≤ n) (hn : n < MM) (h : ck b n s ≠ 0) : Calls Try.prog 77 #[dc b n s] w fun e w' => e = .returned (.int .i64 20) ∧ Mo w w' := by
  have := check_n b n s w hn0 hn
  rw [ck_20 h] at this
  exact this
set_option maxHeartbeats 4000000 in
theorem both_ok (b : Bool) (n s : Int) (c : Bool) (m t : Int) (w : World) (hn0 : 0 ≤ n) (hn : n < MM) (hm0 : 0 ≤ m) (hm : m < MM) (h1 : ck b n s = 0) (h2 : ck c m t = 0) :
    Calls Try.prog 83 #[dc b n s, dc c m t] w fun e w' => e = .returned (.int .i64 0) ∧ Mo w w' := by
  go_enter Try.func83, Try.ntmps83
  go_wp2_with fail
  refine (check_ok b n s _ hn0 hn h1).mono ?_
  rintro e w1 ⟨rfl, hm1⟩
  have mz : Mo w w1 := Mo.trans (by repeat (first | with_reducible exact Mo.refl _ | with_reducible apply Mo.drew | with_reducible apply Mo.alloc)) hm1
  have M := mz
  have Qa : AtD w1 (w.heap.size) b n s := AtD.mo ⟨by simp [go_sem], fun o => by simp [go_sem], by simp <;> omega⟩ hm1
  have Qb : AtD w1 (w.heap.size + 1) c m t := AtD.mo ⟨by simp [go_sem], fun o => by simp [go_sem], by simp <;> omega⟩ hm1
  clear hm1 mz
  have Oa := Qa
  obtain ⟨⟨ca0, ca1, ca2, ca3, ca4, ca5⟩, fa, sa⟩ := Oa
  have fa := fun o => fa o
  have sxa : w.heap.size < w1.heap.size + 1 := by omega
  have sya : w.heap.size < w1.heap.size + 1 + 1 := by omega
  have Ob := Qb
  obtain ⟨⟨cb0, cb1, cb2, cb3, cb4, cb5⟩, fb, sb⟩ := Ob
  have fb := fun o => fb o
  have sxb : w.heap.size + 1 < w1.heap.size + 1 := by omega
  have syb : w.heap.size + 1 < w1.heap.size + 1 + 1 := by omega
  go_wp2_with fail
  refine (check_ok c m t _ hm0 hm h2).mono ?_
  rintro e w2 ⟨rfl, hm2⟩
  have mz : Mo w1 w2 := Mo.trans (by repeat (first | with_reducible exact Mo.refl _ | with_reducible apply Mo.drew | with_reducible apply Mo.alloc)) hm2
  clear ca0 ca1 ca2 ca3 ca4 ca5 fa sa sxa sya cb0 cb1 cb2 cb3 cb4 cb5 fb sb sxb syb
  have Qa := Qa.mo mz
  have Qb := Qb.mo mz
  have M := M.trans mz
  clear hm2 mz
  have Oa := Qa
  obtain ⟨⟨ca0, ca1, ca2, ca3, ca4, ca5⟩, fa, sa⟩ := Oa
  have fa := fun o => fa o
  have sxa : w.heap.size < w2.heap.size + 1 := by omega
  have sya : w.heap.size < w2.heap.size + 1 + 1 := by omega
  have Ob := Qb
  obtain ⟨⟨cb0, cb1, cb2, cb3, cb4, cb5⟩, fb, sb⟩ := Ob
  have fb := fun o => fb o
  have sxb : w.heap.size + 1 < w2.heap.size + 1 := by omega
  have syb : w.heap.size + 1 < w2.heap.size + 1 + 1 := by omega
  go_wp2
  go_ret
  exact ⟨rfl, M⟩
set_option maxHeartbeats 4000000 in
theorem both_no1 (b : Bool) (n s : Int) (c : Bool) (m t : Int) (w : World) (hn0 : 0 ≤ n) (hn : n < MM) (_hm0 : 0 ≤ m) (_hm : m < MM) (h1 : ck b n s ≠ 0)  :
    Calls Try.prog 83 #[dc b n s, dc c m t] w fun e w' => e = .returned (.int .i64 20) ∧ Mo w w' := by
  go_enter Try.func83, Try.ntmps83
  go_wp2_with fail
  refine (check_no b n s _ hn0 hn h1).mono ?_
  rintro e w1 ⟨rfl, hm1⟩
  have mz : Mo w w1 := Mo.trans (by repeat (first | with_reducible exact Mo.refl _ | with_reducible apply Mo.drew | with_reducible apply Mo.alloc)) hm1
  have M := mz
  have Qa : AtD w1 (w.heap.size) b n s := AtD.mo ⟨by simp [go_sem], fun o => by simp [go_sem], by simp <;> omega⟩ hm1
  have Qb : AtD w1 (w.heap.size + 1) c m t := AtD.mo ⟨by simp [go_sem], fun o => by simp [go_sem], by simp <;> omega⟩ hm1
  clear hm1 mz
  have Oa := Qa
  obtain ⟨⟨ca0, ca1, ca2, ca3, ca4, ca5⟩, fa, sa⟩ := Oa
  have fa := fun o => fa o
  have sxa : w.heap.size < w1.heap.size + 1 := by omega
  have sya : w.heap.size < w1.heap.size + 1 + 1 := by omega
  have Ob := Qb
  obtain ⟨⟨cb0, cb1, cb2, cb3, cb4, cb5⟩, fb, sb⟩ := Ob
  have fb := fun o => fb o
  have sxb : w.heap.size + 1 < w1.heap.size + 1 := by omega
  have syb : w.heap.size + 1 < w1.heap.size + 1 + 1 := by omega
  go_wp2
  go_ret
  exact ⟨rfl, M⟩
set_option maxHeartbeats 4000000 in
theorem both_no2 (b : Bool) (n s : Int) (c : Bool) (m t : Int) (w : World) (hn0 : 0 ≤ n) (hn : n < MM) (hm0 : 0 ≤ m) (hm : m < MM) (h1 : ck b n s = 0) (h2 : ck c m t ≠ 0) :
    Calls Try.prog 83 #[dc b n s, dc c m t] w fun e w' => e = .returned (.int .i64 20) ∧ Mo w w' := by
  go_enter Try.func83, Try.ntmps83
  go_wp2_with fail
  refine (check_ok b n s _ hn0 hn h1).mono ?_
  rintro e w1 ⟨rfl, hm1⟩
  have mz : Mo w w1 := Mo.trans (by repeat (first | with_reducible exact Mo.refl _ | with_reducible apply Mo.drew | with_reducible apply Mo.alloc)) hm1
  have M := mz
  have Qa : AtD w1 (w.heap.size) b n s := AtD.mo ⟨by simp [go_sem], fun o => by simp [go_sem], by simp <;> omega⟩ hm1
  have Qb : AtD w1 (w.heap.size + 1) c m t := AtD.mo ⟨by simp [go_sem], fun o => by simp [go_sem], by simp <;> omega⟩ hm1
  clear hm1 mz
  have Oa := Qa
  obtain ⟨⟨ca0, ca1, ca2, ca3, ca4, ca5⟩, fa, sa⟩ := Oa
  have fa := fun o => fa o
  have sxa : w.heap.size < w1.heap.size + 1 := by omega
  have sya : w.heap.size < w1.heap.size + 1 + 1 := by omega
  have Ob := Qb
  obtain ⟨⟨cb0, cb1, cb2, cb3, cb4, cb5⟩, fb, sb⟩ := Ob
  have fb := fun o => fb o
  have sxb : w.heap.size + 1 < w1.heap.size + 1 := by omega
  have syb : w.heap.size + 1 < w1.heap.size + 1 + 1 := by omega
  go_wp2_with fail
  refine (check_no c m t _ hm0 hm h2).mono ?_
  rintro e w2 ⟨rfl, hm2⟩
  have mz : Mo w1 w2 := Mo.trans (by repeat (first | with_reducible exact Mo.refl _ | with_reducible apply Mo.drew | with_reducible apply Mo.alloc)) hm2
  clear ca0 ca1 ca2 ca3 ca4 ca5 fa sa sxa sya cb0 cb1 cb2 cb3 cb4 cb5 fb sb sxb syb
  have Qa := Qa.mo mz
  have Qb := Qb.mo mz
  have M := M.trans mz
  clear hm2 mz
  have Oa := Qa
  obtain ⟨⟨ca0, ca1, ca2, ca3, ca4, ca5⟩, fa, sa⟩ := Oa
  have fa := fun o => fa o
  have sxa : w.heap.size < w2.heap.size + 1 := by omega
  have sya : w.heap.size < w2.heap.size + 1 + 1 := by omega
  have Ob := Qb
  obtain ⟨⟨cb0, cb1, cb2, cb3, cb4, cb5⟩, fb, sb⟩ := Ob
  have fb := fun o => fb o
  have sxb : w.heap.size + 1 < w2.heap.size + 1 := by omega
  have syb : w.heap.size + 1 < w2.heap.size + 1 + 1 := by omega
  go_wp2
  go_ret
  exact ⟨rfl, M⟩
theorem both_no (b : Bool) (n s : Int) (c : Bool) (m t : Int) (w : World) (hn0 : 0 ≤ n) (hn : n < MM) (hm0 : 0 ≤ m) (hm : m < MM) (h : ¬ (ck b n s = 0 ∧ ck c m t = 0)) :
    Calls Try.prog 83 #[dc b n s, dc c m t] w fun e w' => e = .returned (.int .i64 20) ∧ Mo w w' := by
  by_cases h1 : ck b n s = 0
  · exact both_no2 b n s c m t w hn0 hn hm0 hm h1 (fun h2 => h ⟨h1, h2⟩)
  · exact both_no1 b n s c m t w hn0 hn hm0 hm h1
/-- A number's sign. -/
def sg (b : Bool) (n : Int) : Int := if n = 0 then 0 else if b then -1 else 1
set_option maxHeartbeats 4000000 in
theorem sign_n (b : Bool) (n s : Int) (w : World) (hn0 : 0 ≤ n) (hn : n < MM) : Calls Try.prog 85 #[dc b n s] w fun e w' => e = .returned (.int .i64 (sg b n)) ∧ Mo w w' := by
  have q4 := eq4
  have z4 := zb hn0 hn
  cases hz : decide (n = 0) <;> cases hb : b
  all_goals
    rw [hz] at z4
    have hz2 : Hid _ := hz
    clear hz
    go_enter Try.func85, Try.ntmps85
    go_wp2
    go_ret
    exact ⟨by have := hz2.out; simp at this; simp [sg, this], (Mo.refl _).alloc _ _⟩
end Go.Proofs.Ythfemlhmnjfjiaa

/-
  decimal.lift: the walk.
-/
namespace Go.Proofs.Ythfemlhmnjfjiaa
open Go.RowKit
theorem ten_bd (k : Nat) (h : k ≤ 77) : (0 : Int) < 10 ^ k ∧ (10 : Int) ^ k < MM := by
  refine ⟨Int.pow_pos (by decide), ?_⟩
  have h1 : (10 : Nat) ^ k ≤ 10 ^ 77 := Nat.pow_le_pow_right (by decide) h
  have h2 : (10 : Nat) ^ 77 < 115792089237316195423570985008687907853269984665640564039457584007913129639936 := by decide
  have h3 : ((10 ^ k : Nat) : Int) = (10 : Int) ^ k := by rw [Int.natCast_pow]; rfl
  rw [← h3]
  unfold MM
  omega
set_option maxHeartbeats 4000000 in
theorem lift_n (b : Bool) (n s S : Int) (k : Nat) (w : World) (hn0 : 0 ≤ n) (hn : n < MM) (hk : S - s = (k : Int)) (hk7 : k ≤ 77) :
    Calls Try.prog 87 #[dc b n s, .int .i64 S] w fun e w' => e = .returned (dw (n * 10 ^ k)) ∧ Mo w w' := by
  have wk : IntKind.i64.wrap (k : Int) = (k : Int) := by rw [IntKind.wrap_i64]; omega
  have t0 := (ten_bd k hk7).1
  have t1 := (ten_bd k hk7).2
  go_enter Try.func87, Try.ntmps87
  have a : Mo w ((((w).alloc (.cells #[.bool b, .int .u64 (l0 (n)), .int .u64 (l1 (n)), .int .u64 (l2 (n)), .int .u64 (l3 (n)), .int .i64 (s)] 40))).alloc (.cells #[.int .u64 0, .int .u64 0, .int .u64 0, .int .u64 0, .int .u64 0, .int .u64 0, .int .u64 0, .int .u64 0] 136)) := by repeat (first | with_reducible exact Mo.refl _ | with_reducible apply Mo.alloc)
  have M := a
  have Qd : AtD ((((w).alloc (.cells #[.bool b, .int .u64 (l0 (n)), .int .u64 (l1 (n)), .int .u64 (l2 (n)), .int .u64 (l3 (n)), .int .i64 (s)] 40))).alloc (.cells #[.int .u64 0, .int .u64 0, .int .u64 0, .int .u64 0, .int .u64 0, .int .u64 0, .int .u64 0, .int .u64 0] 136)) (w.heap.size) b n s := ⟨by simp [go_sem], fun o => by simp [go_sem], by simp <;> omega⟩
  have Qr : AtW ((((w).alloc (.cells #[.bool b, .int .u64 (l0 (n)), .int .u64 (l1 (n)), .int .u64 (l2 (n)), .int .u64 (l3 (n)), .int .i64 (s)] 40))).alloc (.cells #[.int .u64 0, .int .u64 0, .int .u64 0, .int .u64 0, .int .u64 0, .int .u64 0, .int .u64 0, .int .u64 0] 136)) (w.heap.size + 1) 0 := ⟨by simp [go_sem, zl0, zl1, zl2, zl3], fun o => by simp [go_sem], by simp <;> omega⟩
  clear a
  go_upto_region 1 with fail
  generalize ((((w).alloc (.cells #[.bool b, .int .u64 (l0 (n)), .int .u64 (l1 (n)), .int .u64 (l2 (n)), .int .u64 (l3 (n)), .int .i64 (s)] 40))).alloc (.cells #[.int .u64 0, .int .u64 0, .int .u64 0, .int .u64 0, .int .u64 0, .int .u64 0, .int .u64 0, .int .u64 0] 136)) = W0 at *
  have Od := Qd
  obtain ⟨⟨cd0, cd1, cd2, cd3, cd4, cd5⟩, fd, sd⟩ := Od
  have fd := fun o => fd o
  have sxd : w.heap.size < W0.heap.size + 1 := by omega
  have syd : w.heap.size < W0.heap.size + 1 + 1 := by omega
  have Or := Qr
  obtain ⟨⟨cr0, cr1, cr2, cr3, cr4, cr5, cr6, cr7⟩, fr, sr⟩ := Or
  have fr := fun o => fr o
  have sxr : w.heap.size + 1 < W0.heap.size + 1 := by omega
  have syr : w.heap.size + 1 < W0.heap.size + 1 + 1 := by omega
  go_region_with
    (first | (go_at_call 94; refine (dten_n k _ hk7).mono ?_; rintro e w1 ⟨rfl, hm1⟩; have m1 : Mo W0 w1 := Mo.trans (by repeat (first | with_reducible exact Mo.refl _ | with_reducible apply Mo.drew | with_reducible apply Mo.alloc)) hm1; have d1 := Qd.mo m1; obtain ⟨⟨x0, x1, x2, x3, x4, x5⟩, _, xs⟩ := d1; have r1 := Qr.mo m1; obtain ⟨⟨y0, y1, y2, y3, y4, y5, y6, y7⟩, yf, ys⟩ := r1; have yf := fun o => yf o) | (go_at_call 93; refine (mulDouble_n n (10 ^ k) _ hn0 hn (by omega) t1).mono ?_; rintro e w2 ⟨rfl, hm2⟩; have m2 : Mo w1 w2 := Mo.trans (by repeat (first | with_reducible exact Mo.refl _ | with_reducible apply Mo.drew | with_reducible apply Mo.alloc)) hm2; have m3 := m1.trans m2; have r2 := Qr.mo m3; obtain ⟨⟨z0, z1, z2, z3, z4, z5, z6, z7⟩, zf, zs⟩ := r2; have zf := fun o => zf o))
  all_goals
    go_wp2
    refine bodyPost_ret (v := dw (n * 10 ^ k)) (by simp [results, Try.results87, go_sem, *]) rfl ?_
    have M := M.trans m3
    refine ⟨rfl, ?_⟩
    repeat (first | with_reducible exact M | with_reducible exact Mo.refl _ | with_reducible apply Mo.drew | with_reducible apply Mo.drewN | with_reducible apply Mo.alloc | with_reducible refine Mo.setCell ?_ (by simp <;> omega) _)
end Go.Proofs.Ythfemlhmnjfjiaa

/-
  Decimals as whole numbers with a scale; decimal.fit by them.
-/
namespace Go.Proofs.Ythfemlhmnjfjiaa
open Go.RowKit
/-- A whole number's size. -/
def ab (v : Int) : Int := if v < 0 then -v else v
/-- The decimal of a whole number and a scale. -/
abbrev dz (v s : Int) : Value := dc (decide (v < 0)) (ab v) s
theorem ab_nn (v : Int) : 0 ≤ ab v := by unfold ab; split <;> omega
theorem ck_dz {v s : Int} (h : sc s = true) : ck (decide (v < 0)) (ab v) s = 0 := by
  unfold ck
  rw [h]
  have : (decide (v < 0) && decide (ab v = 0)) = false := by
    unfold ab
    by_cases hv : v < 0
    · rw [if_pos hv, decide_eq_false (p := -v = 0) (by omega)]; simp
    · rw [decide_eq_false hv]; rfl
  rw [this]; rfl
theorem sc_iff {s : Int} : sc s = true ↔ 0 ≤ s ∧ s ≤ 18 := by unfold sc; simp
/-- A decimal that may be is one of a whole number. -/
theorem dz_of {b : Bool} {n s : Int} (hn : 0 ≤ n) (h : ck b n s = 0) : sc s = true ∧ ∃ v, ab v = n ∧ decide (v < 0) = b := by
  unfold ck at h
  split at h
  next hh =>
    simp at hh
    refine ⟨hh.1, ?_⟩
    cases b
    · exact ⟨n, by unfold ab; rw [if_neg (by omega)], decide_eq_false (by omega)⟩
    · have : n ≠ 0 := fun e => by simp [e] at hh
      exact ⟨-n, by unfold ab; rw [if_pos (by omega)]; omega, decide_eq_true (by omega)⟩
  next => cases h
end Go.Proofs.Ythfemlhmnjfjiaa

/-
  Numbers of twice as many bits as one row of cells: laid and read whole.
-/
namespace Go.Proofs.Ythfemlhmnjfjiaa
open Go.RowKit
/-- The cells of a number of twice as many bits. -/
def dwa (X : Int) : Array Value := #[.int .u64 (l0 (X / MM)), .int .u64 (l1 (X / MM)), .int .u64 (l2 (X / MM)), .int .u64 (l3 (X / MM)), .int .u64 (l0 X), .int .u64 (l1 X), .int .u64 (l2 X), .int .u64 (l3 X)]
abbrev dx (X : Int) : Value := .agg (dwa X)
theorem Mo.there {w w' : World} {k n : Nat} (m : Mo w w') (h : w.there k 0 n) (hk : k < w.heap.size) : w'.there k 0 n := fun j hj => by
  rw [m.cell k _ hk, m.2]; exact h j hj
theorem size_setCells (k : Nat) : ∀ (l : List Value) (o : Nat) (w : World), (w.setCells k o l).heap.size = w.heap.size
  | [], _, _ => rfl
  | v :: r, o, w => by rw [World.setCells, size_setCells k r]; simp [World.setCell]
theorem Mo.setCells {a : World} {k : Nat} (hk : a.heap.size ≤ k) : ∀ (l : List Value) (o : Nat) (b : World), Mo a b → Mo a (b.setCells k o l)
  | [], _, _, h => h
  | v :: r, o, b, h => by rw [World.setCells]; exact Mo.setCells hk r (o + 1) _ (h.setCell hk v)
theorem AtD.other {w : World} {k j : Nat} {b : Bool} {n s : Int} (h : AtD w j b n s) (hk : j ≠ k) (l : List Value) : AtD (w.setCells k 0 l) j b n s := by
  obtain ⟨⟨a0, a1, a2, a3, a4, a5⟩, f, z⟩ := h
  have e : ∀ o, (w.setCells k 0 l).cell? ⟨j, o, none⟩ = w.cell? ⟨j, o, none⟩ := fun o => World.cell?_setCells_out k l 0 w _ (fun hb _ => absurd hb hk)
  exact ⟨by simp only [e]; exact ⟨a0, a1, a2, a3, a4, a5⟩, fun o => by rw [World.frozen?_setCells]; exact f o, by rw [size_setCells]; exact z⟩
theorem lift_x (b : Bool) (n s S : Int) (k : Nat) (w : World) (hn0 : 0 ≤ n) (hn : n < MM) (hk : S - s = (k : Int)) (hk7 : k ≤ 77) :
    Calls Try.prog 87 #[dc b n s, .int .i64 S] w fun e w' => e = .returned (dx (n * 10 ^ k)) ∧ Mo w w' := lift_n b n s S k w hn0 hn hk hk7
theorem cmpDouble_x (X Y : Int) (w : World) (hX0 : 0 ≤ X) (hX : X < MM * MM) (hY0 : 0 ≤ Y) (hY : Y < MM * MM) :
    Calls Try.prog 86 #[dx X, dx Y] w fun e w' => e = .returned (.int .i64 (cm X Y)) ∧ Mo w w' := cmpDouble_n X Y w hX0 hX hY0 hY
end Go.Proofs.Ythfemlhmnjfjiaa

/-
  This program's types: how many cells they have; a builtin.
-/
namespace Go.Proofs.Ythfemlhmnjfjiaa
theorem sz3 : (Try.prog.info? 3).map (·.size) = some 1 := by kernel_rfl
theorem sz4 : (Try.prog.info? 4).map (·.size) = some 1 := by kernel_rfl
theorem sz24 : (Try.prog.info? 38).map (·.size) = some 4 := by kernel_rfl
theorem sz40 : (Try.prog.info? 40).map (·.size) = some 6 := by kernel_rfl
theorem sz87 : (Try.prog.info? 118).map (·.size) = some 8 := by kernel_rfl
theorem max_run (ρ : Operand → Value) (x y : Operand) (a b : Int) (hx : ρ x = .int .i64 a) (hy : ρ y = .int .i64 b) (dst : Option Tmp) (type : TypeId) (pos : String) (after : Array Edge) (guard : Option (Nat × Bool)) (w : World) : (execOp ρ { dst, op := .call { callee := .builtin .max, args := #[x, y], argTypes := #[3, 3] }, type, pos, after, guard }).run Try.prog w = .ok (.value (.int .i64 (max a b))) w := by
  simp [go_sem, hx, hy]
end Go.Proofs.Ythfemlhmnjfjiaa

/-
  Wide numbers: their limbs; sums limb by limb, and bit by bit.
-/
namespace Go.Proofs.Ythfemlhmnjfjiaa
open Go.RowKit
def l4 (n : Int) : Int := n / 115792089237316195423570985008687907853269984665640564039457584007913129639936 % 18446744073709551616
theorem dd2 (a : Int) : a / 340282366920938463463374607431768211456 = a / 18446744073709551616 / 18446744073709551616 := by omega
theorem dd3 (a : Int) : a / 6277101735386680763835789423207666416102355444464034512896 = a / 18446744073709551616 / 18446744073709551616 / 18446744073709551616 := by rw [← dd2]; omega
theorem dd4 (a : Int) : a / 115792089237316195423570985008687907853269984665640564039457584007913129639936 = a / 18446744073709551616 / 18446744073709551616 / 18446744073709551616 / 18446744073709551616 := by rw [← dd3]; omega
theorem add_step (a b c : Int) : (a + b + c) % 18446744073709551616 = (a % 18446744073709551616 + b % 18446744073709551616 + c) % 18446744073709551616 ∧ (a + b + c) / 18446744073709551616 = a / 18446744073709551616 + b / 18446744073709551616 + (a % 18446744073709551616 + b % 18446744073709551616 + c) / 18446744073709551616 := by omega
def c1 (a b : Int) : Int := (l0 a + l0 b + 0) / 18446744073709551616
def c2 (a b : Int) : Int := (l1 a + l1 b + c1 a b) / 18446744073709551616
def c3 (a b : Int) : Int := (l2 a + l2 b + c2 a b) / 18446744073709551616
def c4 (a b : Int) : Int := (l3 a + l3 b + c3 a b) / 18446744073709551616
theorem l_bd (a : Int) : (0 ≤ l0 a ∧ l0 a < 18446744073709551616) ∧ (0 ≤ l1 a ∧ l1 a < 18446744073709551616) ∧ (0 ≤ l2 a ∧ l2 a < 18446744073709551616) ∧ (0 ≤ l3 a ∧ l3 a < 18446744073709551616) ∧ (0 ≤ l4 a ∧ l4 a < 18446744073709551616) := by
  unfold l0 l1 l2 l3 l4; omega
theorem c_bd (a b : Int) : (0 ≤ c1 a b ∧ c1 a b ≤ 1) ∧ (0 ≤ c2 a b ∧ c2 a b ≤ 1) ∧ (0 ≤ c3 a b ∧ c3 a b ≤ 1) ∧ (0 ≤ c4 a b ∧ c4 a b ≤ 1) := by
  have ha := l_bd a; have hb := l_bd b
  have h1 : 0 ≤ c1 a b ∧ c1 a b ≤ 1 := by unfold c1; omega
  have h2 : 0 ≤ c2 a b ∧ c2 a b ≤ 1 := by unfold c2; omega
  have h3 : 0 ≤ c3 a b ∧ c3 a b ≤ 1 := by unfold c3; omega
  have h4 : 0 ≤ c4 a b ∧ c4 a b ≤ 1 := by unfold c4; omega
  exact ⟨h1, h2, h3, h4⟩
theorem add_l (a b : Int) : l0 (a + b) = (l0 a + l0 b + 0) % 18446744073709551616 ∧ l1 (a + b) = (l1 a + l1 b + c1 a b) % 18446744073709551616 ∧ l2 (a + b) = (l2 a + l2 b + c2 a b) % 18446744073709551616 ∧ l3 (a + b) = (l3 a + l3 b + c3 a b) % 18446744073709551616 ∧ l4 (a + b) = (l4 a + l4 b + c4 a b) % 18446744073709551616 := by
  have s0 := add_step a b 0
  have s1 := add_step (a / 18446744073709551616) (b / 18446744073709551616) (c1 a b)
  have s2 := add_step (a / 18446744073709551616 / 18446744073709551616) (b / 18446744073709551616 / 18446744073709551616) (c2 a b)
  have s3 := add_step (a / 18446744073709551616 / 18446744073709551616 / 18446744073709551616) (b / 18446744073709551616 / 18446744073709551616 / 18446744073709551616) (c3 a b)
  have s4 := add_step (a / 18446744073709551616 / 18446744073709551616 / 18446744073709551616 / 18446744073709551616) (b / 18446744073709551616 / 18446744073709551616 / 18446744073709551616 / 18446744073709551616) (c4 a b)
  rw [Int.add_zero] at s0
  have e1 : (a + b) / 18446744073709551616 = a / 18446744073709551616 + b / 18446744073709551616 + c1 a b := by rw [s0.2]; simp only [c1, l0]
  have e2 : (a + b) / 18446744073709551616 / 18446744073709551616 = a / 18446744073709551616 / 18446744073709551616 + b / 18446744073709551616 / 18446744073709551616 + c2 a b := by rw [e1, s1.2]; simp only [c2, l1]
  have e3 : (a + b) / 18446744073709551616 / 18446744073709551616 / 18446744073709551616 = a / 18446744073709551616 / 18446744073709551616 / 18446744073709551616 + b / 18446744073709551616 / 18446744073709551616 / 18446744073709551616 + c3 a b := by rw [e2, s2.2]; simp only [c3, l2, dd2]
  have e4 : (a + b) / 18446744073709551616 / 18446744073709551616 / 18446744073709551616 / 18446744073709551616 = a / 18446744073709551616 / 18446744073709551616 / 18446744073709551616 / 18446744073709551616 + b / 18446744073709551616 / 18446744073709551616 / 18446744073709551616 / 18446744073709551616 + c4 a b := by rw [e3, s3.2]; simp only [c4, l3, dd3]
  refine ⟨?_, ?_, ?_, ?_, ?_⟩
  · unfold l0; rw [s0.1]
  · unfold l1; rw [e1, s1.1]
  · unfold l2; rw [dd2, dd2 a, dd2 b, e2, s2.1]
  · unfold l3; rw [dd3, dd3 a, dd3 b, e3, s3.1]
  · unfold l4; rw [dd4, dd4 a, dd4 b, e4, s4.1]
theorem not_l (a : Int) : l0 (-1 - a) = 18446744073709551615 - l0 a ∧ l1 (-1 - a) = 18446744073709551615 - l1 a ∧ l2 (-1 - a) = 18446744073709551615 - l2 a ∧ l3 (-1 - a) = 18446744073709551615 - l3 a ∧ l4 (-1 - a) = 18446744073709551615 - l4 a := by
  have h : ∀ x : Int, (-1 - x) / 18446744073709551616 = -1 - x / 18446744073709551616 := fun x => by omega
  have g : ∀ x : Int, (-1 - x) % 18446744073709551616 = 18446744073709551615 - x % 18446744073709551616 := fun x => by omega
  unfold l0 l1 l2 l3 l4
  rw [dd2, dd2 a, dd3, dd3 a, dd4, dd4 a]
  simp only [h, g, and_self]
def lim (j : Nat) (v : Int) : Int := v / 2 ^ (64 * j) % 18446744073709551616
theorem two_pos (i : Nat) : (0 : Int) < 2 ^ i := Int.pow_pos (by decide)
theorem mod_mul2 (x P : Int) (hP : 0 < P) (k : Int) : x % (P * k) = x % P + P * (x / P % k) := by
  have h1 := Int.emod_def x (P * k)
  have h2 := Int.emod_def x P
  have h3 := Int.emod_def (x / P) k
  rw [h1, h2, h3, ← Int.ediv_ediv_of_nonneg (Int.le_of_lt hP), Int.mul_sub, Int.mul_assoc]; omega
theorem bit_step (a b : Int) (i : Nat) : (a / 2 ^ i % 2 + b / 2 ^ i % 2 + (a % 2 ^ i + b % 2 ^ i) / 2 ^ i) % 2 = (a + b) / 2 ^ i % 2 ∧ (a / 2 ^ i % 2 + b / 2 ^ i % 2 + (a % 2 ^ i + b % 2 ^ i) / 2 ^ i) / 2 = (a % 2 ^ (i + 1) + b % 2 ^ (i + 1)) / 2 ^ (i + 1) := by
  have hP := two_pos i
  rw [Int.pow_succ]
  generalize (2 : Int) ^ i = P at *
  have h2 : (a + b) / P = a / P + b / P + (a % P + b % P) / P := by
    have e : a + b = (a % P + b % P) + P * (a / P + b / P) := by
      have := Int.emod_add_mul_ediv a P; have := Int.emod_add_mul_ediv b P; rw [Int.mul_add]; omega
    have h3 := Int.add_mul_ediv_left (a % P + b % P) (a / P + b / P) (show P ≠ 0 by omega)
    rw [← e] at h3; rw [h3]; omega
  constructor
  · rw [h2]; omega
  · rw [mod_mul2 a P hP, mod_mul2 b P hP]
    have e : a % P + P * (a / P % 2) + (b % P + P * (b / P % 2)) = (a % P + b % P) + P * (a / P % 2 + b / P % 2) := by rw [Int.mul_add]; omega
    rw [e, ← Int.ediv_ediv_of_nonneg (Int.le_of_lt hP), Int.add_mul_ediv_left _ _ (by omega)]
    congr 1; omega
theorem wcarry_bd (a b : Int) (i : Nat) : 0 ≤ (a % 2 ^ i + b % 2 ^ i) / 2 ^ i ∧ (a % 2 ^ i + b % 2 ^ i) / 2 ^ i ≤ 1 := by
  have hP := two_pos i
  generalize (2 : Int) ^ i = P at *
  have h1 := Int.emod_nonneg a (show P ≠ 0 by omega); have h2 := Int.emod_lt_of_pos a hP
  have h3 := Int.emod_nonneg b (show P ≠ 0 by omega); have h4 := Int.emod_lt_of_pos b hP
  refine ⟨Int.ediv_nonneg (by omega) (by omega), ?_⟩
  have : (a % P + b % P) / P < 2 := Int.ediv_lt_of_lt_mul hP (by omega)
  omega
theorem pw_add (i j : Nat) : (2 : Int) ^ (i + j) = 2 ^ i * 2 ^ j := Int.pow_add 2 i j
theorem p64 : (2 : Int) ^ 64 = 18446744073709551616 := by decide
theorem mod_div (S : Int) (i j : Nat) : S % 2 ^ (i + j) / 2 ^ i = S / 2 ^ i % 2 ^ j := by
  have hP := two_pos i
  rw [pw_add, mod_mul2 S _ hP, Int.add_mul_ediv_left _ _ (by omega), Int.ediv_eq_zero_of_lt (Int.emod_nonneg _ (by omega)) (Int.emod_lt_of_pos _ hP)]; omega
theorem pow_le {r : Nat} (h : r ≤ 64) : (2 : Int) ^ r ≤ 18446744073709551616 := by
  rw [← p64, show 64 = r + (64 - r) by omega, pw_add]
  have := two_pos (64 - r); have h2 := two_pos r
  have : (2 : Int) ^ r * 1 ≤ 2 ^ r * 2 ^ (64 - r) := Int.mul_le_mul_of_nonneg_left (by omega) (by omega)
  omega
theorem lim_at (S : Int) (k r : Nat) (hr : r ≤ 64) : lim k (S % 2 ^ (64 * k + r)) = S / 2 ^ (64 * k) % 2 ^ r := by
  have h1 := two_pos r
  unfold lim
  rw [mod_div]
  have a := Int.emod_nonneg (S / 2 ^ (64 * k)) (show (2 : Int) ^ r ≠ 0 by omega)
  have b := Int.emod_lt_of_pos (S / 2 ^ (64 * k)) h1
  have c := pow_le hr
  exact Int.emod_eq_of_lt a (by omega)
theorem lim_low (S : Int) (j i : Nat) (h : 64 * (j + 1) ≤ i) : lim j (S % 2 ^ i) = lim j S := by
  unfold lim
  rw [show i = 64 * j + (i - 64 * j) by omega, mod_div, show i - 64 * j = 64 + (i - 64 * j - 64) by omega, pw_add, p64]
  rw [mod_mul2 _ 18446744073709551616 (by decide), Int.add_mul_emod_self_left, Int.emod_emod]
theorem lim_high (S : Int) (j i : Nat) (h : i ≤ 64 * j) : lim j (S % 2 ^ i) = 0 := by
  have h1 := two_pos i
  have a := Int.emod_nonneg S (show (2 : Int) ^ i ≠ 0 by omega)
  have b := Int.emod_lt_of_pos S h1
  have c : (2 : Int) ^ i ≤ 2 ^ (64 * j) := by
    rw [show 64 * j = i + (64 * j - i) by omega, pw_add]
    have := two_pos (64 * j - i)
    have : (2 : Int) ^ i * 1 ≤ 2 ^ i * 2 ^ (64 * j - i) := Int.mul_le_mul_of_nonneg_left (by omega) (by omega)
    omega
  unfold lim
  rw [Int.ediv_eq_zero_of_lt a (by omega)]; rfl
/-- What one round does to the limbs. -/
theorem lim_step (S : Int) (k r : Nat) (hr : r < 64) (j : Nat) : lim j (S % 2 ^ (64 * k + r + 1)) = if j = k then lim k (S % 2 ^ (64 * k + r)) + S / 2 ^ (64 * k + r) % 2 * 2 ^ r else lim j (S % 2 ^ (64 * k + r)) := by
  by_cases h : j = k
  · subst h
    rw [if_pos rfl, Nat.add_assoc, lim_at S j (r + 1) (by omega), lim_at S j r (by omega), Int.pow_succ, mod_mul2 _ _ (two_pos r), pw_add (64 * j) r, ← Int.ediv_ediv_of_nonneg (Int.le_of_lt (two_pos _)), Int.mul_comm (2 ^ r)]
  · rw [if_neg h]
    by_cases h2 : j < k
    · rw [lim_low S j _ (by omega), lim_low S j _ (by omega)]
    · rw [lim_high S j _ (by omega), lim_high S j _ (by omega)]
theorem lim_lt (S : Int) (k r : Nat) (hr : r < 64) : 0 ≤ lim k (S % 2 ^ (64 * k + r)) ∧ lim k (S % 2 ^ (64 * k + r)) < 2 ^ r := by
  rw [lim_at S k r (by omega)]
  have h1 := two_pos r
  exact ⟨Int.emod_nonneg _ (by omega), Int.emod_lt_of_pos _ h1⟩
theorem lim_all (S : Int) (j : Nat) (h : j < 5) : lim j (S % 2 ^ 320) = lim j S := lim_low S j 320 (by omega)
theorem lim_is (v : Int) : lim 0 v = l0 v ∧ lim 1 v = l1 v ∧ lim 2 v = l2 v ∧ lim 3 v = l3 v ∧ lim 4 v = l4 v := by
  unfold lim l0 l1 l2 l3 l4
  refine ⟨?_, rfl, rfl, rfl, rfl⟩
  show v / 1 % _ = _
  rw [Int.ediv_one]
section
variable {P : Program} {n : Nat} {l : List (Nat × Value)} {w : World} {Q : Exit → Act → World → Prop} {c : Code}
theorem w_rounds (N : Nat) (h : WC P c (Exit.then (Code.rounds P c Q N) Q) n l w) : WC P (Code.loop c) Q n l w := ⟨wp_loop_rounds (N + 1) h.out⟩
theorem xn_rounds {N : Nat} (h : WC P c (Exit.then (Code.rounds P c Q N) Q) n l w) : WX (Exit.then (Code.rounds P c Q (N + 1)) Q) .normal n l w := ⟨h.out⟩
end
def wv (v : Int) : Value := .agg #[.int .u64 (l0 v), .int .u64 (l1 v), .int .u64 (l2 v), .int .u64 (l3 v), .int .u64 (l4 v)]
theorem sz22 : (Try.prog.info? 34).map (·.size) = some 1 := by kernel_rfl
theorem sz31 : (Try.prog.info? 36).map (·.size) = some 5 := by kernel_rfl
theorem sz33 : (Try.prog.info? 42).map (·.size) = some 23 := by kernel_rfl
theorem add64_op {n : Nat} {l : List (Nat × Value)} (x y c : Int) (hx : 0 ≤ x) (hy : 0 ≤ y) (hc0 : 0 ≤ c) (hc : c ≤ 1) (X Y Z : Operand) (eX : evl n l X = .int .u64 x) (eY : evl n l Y = .int .u64 y) (eZ : evl n l Z = .int .u64 c) (dst : Option Tmp) (ats : Array TypeId) (ty : TypeId) (pos : String) (after : Array Edge) (guard : Option (Nat × Bool)) (w : World) :
    (execOp (evl n l) { dst, op := .call { callee := .value (.func 74), args := #[X, Y, Z], argTypes := ats }, type := ty, pos, after, guard }).run Try.prog w = .ok (.value (.tuple #[.int .u64 ((x + y + c) % 18446744073709551616), .int .u64 ((x + y + c) / 18446744073709551616)])) w := by
  have e2 := execOp_call_go (fr n l) dst 74 #[X, Y, Z] ats ty pos after guard
  rw [fr_eval] at e2
  rw [e2]
  have : (#[X, Y, Z] : Array Operand).map (evl n l) = #[.int .u64 x, .int .u64 y, .int .u64 c] := by simp [eX, eY, eZ]
  rw [this]
  exact add64 x y c hx hy hc0 hc w
end Go.Proofs.Ythfemlhmnjfjiaa

/-
  AddWide and minus, the program's.
-/
namespace Go.Proofs.Ythfemlhmnjfjiaa
open Go.RowKit
section
variable {w : World}
theorem addw_n (a b : Int) : Calls Try.prog 63 #[wv a, wv b] w fun e w' => e = .returned (wv (a + b)) ∧ Mo w w' := by
  have ha := l_bd a
  have hb := l_bd b
  have hc := c_bd a b
  obtain ⟨e0, e1, e2, e3, e4⟩ := add_l a b
  refine w_enter 26 Try.func63 Try.ntmps63 rfl rfl ?_
  have M : Mo w w := Mo.refl _
  refine w_seq (w_reg ?_)
  refine wl_box 36 (.tmp 0) (.agg #[.int .u64 (l0 (a)), .int .u64 (l1 (a)), .int .u64 (l2 (a)), .int .u64 (l3 (a)), .int .u64 (l4 (a))]) (#[.int .u64 (l0 (a)), .int .u64 (l1 (a)), .int .u64 (l2 (a)), .int .u64 (l3 (a)), .int .u64 (l4 (a))]) rfl rfl (fun _ => by kernel_rfl) rfl ?_
  intro k1 w1 hk hz hq Q1
  have N_k1 : w.heap.size ≤ k1 := by have := M.size; omega
  replace M := M.trans hq
  clear hk hz hq
  refine wl_box 36 (.tmp 1) (.agg #[.int .u64 (l0 (b)), .int .u64 (l1 (b)), .int .u64 (l2 (b)), .int .u64 (l3 (b)), .int .u64 (l4 (b))]) (#[.int .u64 (l0 (b)), .int .u64 (l1 (b)), .int .u64 (l2 (b)), .int .u64 (l3 (b)), .int .u64 (l4 (b))]) rfl rfl (fun _ => by kernel_rfl) rfl ?_
  intro k2 w2 hk hz hq Q2
  have ne_k1_k2 : k1 ≠ k2 := by have := Q1.lt; omega
  have N_k2 : w.heap.size ≤ k2 := by have := M.size; omega
  replace Q1 := Q1.mo hq
  replace M := M.trans hq
  clear hk hz hq
  refine wl_alloc 36 #[.int .u64 0, .int .u64 0, .int .u64 0, .int .u64 0, .int .u64 0] rfl (fun _ => by kernel_rfl) rfl ?_
  intro k3 w3 hk hz hq Q3
  have ne_k1_k3 : k1 ≠ k3 := by have := Q1.lt; omega
  have ne_k2_k3 : k2 ≠ k3 := by have := Q2.lt; omega
  have N_k3 : w.heap.size ≤ k3 := by have := M.size; omega
  replace Q1 := Q1.mo hq
  replace Q2 := Q2.mo hq
  replace M := M.trans hq
  clear hk hz hq
  refine w_nil (xn_then (w_seq (w_reg ?_)))
  refine wl_alloc 36 #[.int .u64 0, .int .u64 0, .int .u64 0, .int .u64 0, .int .u64 0] rfl (fun _ => by kernel_rfl) rfl ?_
  intro k4 w4 hk hz hq Q4
  have ne_k1_k4 : k1 ≠ k4 := by have := Q1.lt; omega
  have ne_k2_k4 : k2 ≠ k4 := by have := Q2.lt; omega
  have ne_k3_k4 : k3 ≠ k4 := by have := Q3.lt; omega
  have N_k4 : w.heap.size ≤ k4 := by have := M.size; omega
  replace Q1 := Q1.mo hq
  replace Q2 := Q2.mo hq
  replace Q3 := Q3.mo hq
  replace M := M.trans hq
  clear hk hz hq
  refine w_nil (xn_then (w_seq (w_reg ?_)))
  refine wl_m (.const (.int .u64 (0))) (.int .u64 (0)) ?_
  refine w_nil (xn_then (w_seq (w_seq (w_reg ?_))))
  refine wl_m (.const (.int .i64 (0))) (.int .i64 (0)) ?_
  refine w_nil (xn_then (w_block ?_))
  refine w_rounds 5 ?_
  refine w_seq (w_reg ?_)
  refine wl_b .lss 3 (.tmp 8) (.const (.int .i64 (5))) (.int .i64 (0)) (.int .i64 (5)) (.bool true) (by kernel_rfl) ?_
  refine w_nil (xn_then (w_seq (w_condT rfl (w_skip (xn_then (w_seq (w_block (w_seq (w_reg ?_)))))))))
  refine wl_m (.tmp 8) (.int .i64 (0)) ?_
  refine wl_m (.tmp 10) (.int .i64 (0)) ?_
  refine w_nil (xn_then ?_)
  refine w_any 13 [.inl (.int .i64 (0)), .inl (.int .i64 (0)), .inl (pt k1 0), .inl (.int .u64 (l0 (a))), .inl (.int .i64 (0)), .inl (pt k2 0), .inl (.int .u64 (l0 (b))), .inl (.int .u64 (0)), .inl (.tuple #[.int .u64 ((l0 (a) + l0 (b) + 0) % 18446744073709551616), .int .u64 (c1 a b)]), .inl (.tuple #[.int .u64 ((l0 (a) + l0 (b) + 0) % 18446744073709551616), .int .u64 (c1 a b)]), .inl (.int .u64 ((l0 (a) + l0 (b) + 0) % 18446744073709551616)), .inl (.int .u64 (c1 a b)), .inl (pt k4 0)] [11] (by kernel_rfl) (by kernel_rfl) (by kernel_rfl) (by kernel_rfl) rfl (by kernel_rfl) (by kernel_rfl) (late_cons ⟨_, _, rfl, rfl, fun _ _ _ _ h => h, fun f hd => ⟨rfl, la_un (fun v => Instr.extract v 1) (.tmp 11) (.tuple #[.int .u64 ((l0 (a) + l0 (b) + 0) % 18446744073709551616), .int .u64 (c1 a b)]) (.int .u64 (c1 a b)) (fun _ => rfl) (hd 9 rfl _ rfl) (fun w => by kernel_rfl)⟩⟩ late_nil) ?_ ?_ ?_
  · exact Ds.none rfl
  · refine ea_cons ?_ (ea_cons ?_ (ea_cons ?_ (ea_cons ?_ (ea_cons ?_ (ea_cons ?_ (ea_cons ?_ (ea_cons ?_ (ea_cons ?_ (ea_cons ?_ (ea_cons ?_ (ea_cons ?_ (ea_cons ?_ (ea_nil)))))))))))))
    · exact og_eq (.int .i64 (0)) rfl (fun f wf hq hd K hK => go_run rfl (wo_mv (.tmp 7) (.int .i64 (0)) (fun _ => rfl) rfl (hK _ (Mo.refl _))))
    · exact og_eq (.int .i64 (0)) rfl (fun f wf hq hd K hK => go_run rfl (wo_mv (.tmp 7) (.int .i64 (0)) (fun _ => rfl) rfl (hK _ (Mo.refl _))))
    · exact og_eq (pt k1 0) rfl (fun f wf hq hd K hK => go_run rfl (wo_bin (fun x y => Instr.indexAt 36 x y) (.tmp 2) (.tmp 13) (pt k1 0) (.int .i64 (0)) (pt k1 0) (fun _ => rfl) rfl (hd 1 rfl) (by kernel_rfl) (hK _ (Mo.refl _))))
    · exact og_eq (.int .u64 (l0 (a))) rfl (fun f wf hq hd K hK => have Q1 := Q1.mo hq; go_run rfl (wo_load 34 (.tmp 14) (pt k1 0) (.int .u64 (l0 (a))) rfl (hd 2 rfl) (run_one Q1 34 0 rfl Try.underlying34 rfl) (hK _ (Mo.refl _))))
    · exact og_eq (.int .i64 (0)) rfl (fun f wf hq hd K hK => go_run rfl (wo_mv (.tmp 7) (.int .i64 (0)) (fun _ => rfl) rfl (hK _ (Mo.refl _))))
    · exact og_eq (pt k2 0) rfl (fun f wf hq hd K hK => go_run rfl (wo_bin (fun x y => Instr.indexAt 36 x y) (.tmp 3) (.tmp 16) (pt k2 0) (.int .i64 (0)) (pt k2 0) (fun _ => rfl) rfl (hd 4 rfl) (by kernel_rfl) (hK _ (Mo.refl _))))
    · exact og_eq (.int .u64 (l0 (b))) rfl (fun f wf hq hd K hK => have Q2 := Q2.mo hq; go_run rfl (wo_load 34 (.tmp 17) (pt k2 0) (.int .u64 (l0 (b))) rfl (hd 5 rfl) (run_one Q2 34 0 rfl Try.underlying34 rfl) (hK _ (Mo.refl _))))
    · exact og_eq (.int .u64 (0)) rfl (fun f wf hq hd K hK => go_run rfl (wo_mv (.tmp 6) (.int .u64 (0)) (fun _ => rfl) rfl (hK _ (Mo.refl _))))
    · exact og_eq (.tuple #[.int .u64 ((l0 (a) + l0 (b) + 0) % 18446744073709551616), .int .u64 (c1 a b)]) rfl (fun f wf hq hd K hK => go_run rfl (wo_val (.tuple #[.int .u64 ((l0 (a) + l0 (b) + 0) % 18446744073709551616), .int .u64 (c1 a b)]) (add64_op (l0 a) (l0 b) (0) ha.1.1 hb.1.1 (Int.le_refl 0) (by decide) _ _ _ (by exact (hd 3 rfl)) (by exact (hd 6 rfl)) (by exact (hd 7 rfl)) _ _ _ _ _ _ _) (hK _ (Mo.refl _))))
    · exact og_eq (.tuple #[.int .u64 ((l0 (a) + l0 (b) + 0) % 18446744073709551616), .int .u64 (c1 a b)]) rfl (fun f wf hq hd K hK => go_run rfl (wo_mv (.tmp 20) (.tuple #[.int .u64 ((l0 (a) + l0 (b) + 0) % 18446744073709551616), .int .u64 (c1 a b)]) (fun _ => rfl) (hd 8 rfl) (hK _ (Mo.refl _))))
    · exact og_eq (.int .u64 ((l0 (a) + l0 (b) + 0) % 18446744073709551616)) rfl (fun f wf hq hd K hK => go_run rfl (wo_un (fun v => Instr.extract v 0) (.tmp 11) (.tuple #[.int .u64 ((l0 (a) + l0 (b) + 0) % 18446744073709551616), .int .u64 (c1 a b)]) (.int .u64 ((l0 (a) + l0 (b) + 0) % 18446744073709551616)) (fun _ => rfl) (hd 9 rfl) (by kernel_rfl) (hK _ (Mo.refl _))))
    · exact og_eq (.int .u64 (c1 a b)) rfl (fun f wf hq hd K hK => go_run rfl (wo_un (fun v => Instr.extract v 1) (.tmp 11) (.tuple #[.int .u64 ((l0 (a) + l0 (b) + 0) % 18446744073709551616), .int .u64 (c1 a b)]) (.int .u64 (c1 a b)) (fun _ => rfl) (hd 9 rfl) (by kernel_rfl) (hK _ (Mo.refl _))))
    · exact og_eq (pt k4 0) rfl (fun f wf hq hd K hK => go_run rfl (wo_bin (fun x y => Instr.indexAt 36 x y) (.tmp 5) (.tmp 12) (pt k4 0) (.int .i64 (0)) (pt k4 0) (fun _ => rfl) rfl (hd 0 rfl) (by kernel_rfl) (hK _ (Mo.refl _))))
  intro kf5 w5 hq hR hne
  replace Q1 := Q1.mo hq
  replace Q2 := Q2.mo hq
  replace Q3 := Q3.mo hq
  replace Q4 := Q4.mo hq
  replace M := M.trans hq
  clear hq hR hne
  refine wl_st1 34 (.tmp 23) (.tmp 21) k4 0 (.int .u64 ((l0 (a) + l0 (b) + 0) % 18446744073709551616)) [.int .u64 0, .int .u64 0, .int .u64 0, .int .u64 0, .int .u64 0] [.int .u64 ((l0 (a) + l0 (b) + 0) % 18446744073709551616), .int .u64 0, .int .u64 0, .int .u64 0, .int .u64 0] Q4 rfl rfl rfl rfl rfl sz22 rfl rfl rfl rfl ?_
  intro w6 hS Qn
  replace Q4 := Qn
  clear Qn
  replace Q1 := hS.other _ _ ne_k1_k4 Q1
  replace Q2 := hS.other _ _ ne_k2_k4 Q2
  replace Q3 := hS.other _ _ ne_k3_k4 Q3
  replace M := hS.mo _ N_k4 M
  clear hS
  refine wl_m (.tmp 22) (.int .u64 (c1 a b)) ?_
  refine w_nil (xn_blk (xn_then (w_reg ?_)))
  refine wl_b .add 3 (.tmp 8) (.const (.int .i64 (1))) (.int .i64 (0)) (.int .i64 (1)) (.int .i64 (1)) (by kernel_rfl) ?_
  refine wl_m (.tmp 24) (.int .i64 (1)) ?_
  refine w_nil ?_
  refine xn_rounds ?_
  refine w_seq (w_reg ?_)
  refine wl_b .lss 3 (.tmp 8) (.const (.int .i64 (5))) (.int .i64 (1)) (.int .i64 (5)) (.bool true) (by kernel_rfl) ?_
  refine w_nil (xn_then (w_seq (w_condT rfl (w_skip (xn_then (w_seq (w_block (w_seq (w_reg ?_)))))))))
  refine wl_m (.tmp 8) (.int .i64 (1)) ?_
  refine wl_m (.tmp 10) (.int .i64 (1)) ?_
  refine w_nil (xn_then ?_)
  refine w_any 13 [.inl (.int .i64 (1)), .inl (.int .i64 (1)), .inl (pt k1 1), .inl (.int .u64 (l1 (a))), .inl (.int .i64 (1)), .inl (pt k2 1), .inl (.int .u64 (l1 (b))), .inl (.int .u64 (c1 a b)), .inl (.tuple #[.int .u64 ((l1 (a) + l1 (b) + c1 a b) % 18446744073709551616), .int .u64 (c2 a b)]), .inl (.tuple #[.int .u64 ((l1 (a) + l1 (b) + c1 a b) % 18446744073709551616), .int .u64 (c2 a b)]), .inl (.int .u64 ((l1 (a) + l1 (b) + c1 a b) % 18446744073709551616)), .inl (.int .u64 (c2 a b)), .inl (pt k4 1)] [11] (by kernel_rfl) (by kernel_rfl) (by kernel_rfl) (by kernel_rfl) rfl (by kernel_rfl) (by kernel_rfl) (late_cons ⟨_, _, rfl, rfl, fun _ _ _ _ h => h, fun f hd => ⟨rfl, la_un (fun v => Instr.extract v 1) (.tmp 11) (.tuple #[.int .u64 ((l1 (a) + l1 (b) + c1 a b) % 18446744073709551616), .int .u64 (c2 a b)]) (.int .u64 (c2 a b)) (fun _ => rfl) (hd 9 rfl _ rfl) (fun w => by kernel_rfl)⟩⟩ late_nil) ?_ ?_ ?_
  · exact Ds.none rfl
  · refine ea_cons ?_ (ea_cons ?_ (ea_cons ?_ (ea_cons ?_ (ea_cons ?_ (ea_cons ?_ (ea_cons ?_ (ea_cons ?_ (ea_cons ?_ (ea_cons ?_ (ea_cons ?_ (ea_cons ?_ (ea_cons ?_ (ea_nil)))))))))))))
    · exact og_eq (.int .i64 (1)) rfl (fun f wf hq hd K hK => go_run rfl (wo_mv (.tmp 7) (.int .i64 (1)) (fun _ => rfl) rfl (hK _ (Mo.refl _))))
    · exact og_eq (.int .i64 (1)) rfl (fun f wf hq hd K hK => go_run rfl (wo_mv (.tmp 7) (.int .i64 (1)) (fun _ => rfl) rfl (hK _ (Mo.refl _))))
    · exact og_eq (pt k1 1) rfl (fun f wf hq hd K hK => go_run rfl (wo_bin (fun x y => Instr.indexAt 36 x y) (.tmp 2) (.tmp 13) (pt k1 0) (.int .i64 (1)) (pt k1 1) (fun _ => rfl) rfl (hd 1 rfl) (by kernel_rfl) (hK _ (Mo.refl _))))
    · exact og_eq (.int .u64 (l1 (a))) rfl (fun f wf hq hd K hK => have Q1 := Q1.mo hq; go_run rfl (wo_load 34 (.tmp 14) (pt k1 1) (.int .u64 (l1 (a))) rfl (hd 2 rfl) (run_one Q1 34 1 rfl Try.underlying34 rfl) (hK _ (Mo.refl _))))
    · exact og_eq (.int .i64 (1)) rfl (fun f wf hq hd K hK => go_run rfl (wo_mv (.tmp 7) (.int .i64 (1)) (fun _ => rfl) rfl (hK _ (Mo.refl _))))
    · exact og_eq (pt k2 1) rfl (fun f wf hq hd K hK => go_run rfl (wo_bin (fun x y => Instr.indexAt 36 x y) (.tmp 3) (.tmp 16) (pt k2 0) (.int .i64 (1)) (pt k2 1) (fun _ => rfl) rfl (hd 4 rfl) (by kernel_rfl) (hK _ (Mo.refl _))))
    · exact og_eq (.int .u64 (l1 (b))) rfl (fun f wf hq hd K hK => have Q2 := Q2.mo hq; go_run rfl (wo_load 34 (.tmp 17) (pt k2 1) (.int .u64 (l1 (b))) rfl (hd 5 rfl) (run_one Q2 34 1 rfl Try.underlying34 rfl) (hK _ (Mo.refl _))))
    · exact og_eq (.int .u64 (c1 a b)) rfl (fun f wf hq hd K hK => go_run rfl (wo_mv (.tmp 6) (.int .u64 (c1 a b)) (fun _ => rfl) rfl (hK _ (Mo.refl _))))
    · exact og_eq (.tuple #[.int .u64 ((l1 (a) + l1 (b) + c1 a b) % 18446744073709551616), .int .u64 (c2 a b)]) rfl (fun f wf hq hd K hK => go_run rfl (wo_val (.tuple #[.int .u64 ((l1 (a) + l1 (b) + c1 a b) % 18446744073709551616), .int .u64 (c2 a b)]) (add64_op (l1 a) (l1 b) (c1 a b) ha.2.1.1 hb.2.1.1 hc.1.1 hc.1.2 _ _ _ (by exact (hd 3 rfl)) (by exact (hd 6 rfl)) (by exact (hd 7 rfl)) _ _ _ _ _ _ _) (hK _ (Mo.refl _))))
    · exact og_eq (.tuple #[.int .u64 ((l1 (a) + l1 (b) + c1 a b) % 18446744073709551616), .int .u64 (c2 a b)]) rfl (fun f wf hq hd K hK => go_run rfl (wo_mv (.tmp 20) (.tuple #[.int .u64 ((l1 (a) + l1 (b) + c1 a b) % 18446744073709551616), .int .u64 (c2 a b)]) (fun _ => rfl) (hd 8 rfl) (hK _ (Mo.refl _))))
    · exact og_eq (.int .u64 ((l1 (a) + l1 (b) + c1 a b) % 18446744073709551616)) rfl (fun f wf hq hd K hK => go_run rfl (wo_un (fun v => Instr.extract v 0) (.tmp 11) (.tuple #[.int .u64 ((l1 (a) + l1 (b) + c1 a b) % 18446744073709551616), .int .u64 (c2 a b)]) (.int .u64 ((l1 (a) + l1 (b) + c1 a b) % 18446744073709551616)) (fun _ => rfl) (hd 9 rfl) (by kernel_rfl) (hK _ (Mo.refl _))))
    · exact og_eq (.int .u64 (c2 a b)) rfl (fun f wf hq hd K hK => go_run rfl (wo_un (fun v => Instr.extract v 1) (.tmp 11) (.tuple #[.int .u64 ((l1 (a) + l1 (b) + c1 a b) % 18446744073709551616), .int .u64 (c2 a b)]) (.int .u64 (c2 a b)) (fun _ => rfl) (hd 9 rfl) (by kernel_rfl) (hK _ (Mo.refl _))))
    · exact og_eq (pt k4 1) rfl (fun f wf hq hd K hK => go_run rfl (wo_bin (fun x y => Instr.indexAt 36 x y) (.tmp 5) (.tmp 12) (pt k4 0) (.int .i64 (1)) (pt k4 1) (fun _ => rfl) rfl (hd 0 rfl) (by kernel_rfl) (hK _ (Mo.refl _))))
  intro kf7 w7 hq hR hne
  replace Q1 := Q1.mo hq
  replace Q2 := Q2.mo hq
  replace Q3 := Q3.mo hq
  replace Q4 := Q4.mo hq
  replace M := M.trans hq
  clear hq hR hne
  refine wl_st1 34 (.tmp 23) (.tmp 21) k4 1 (.int .u64 ((l1 (a) + l1 (b) + c1 a b) % 18446744073709551616)) [.int .u64 ((l0 (a) + l0 (b) + 0) % 18446744073709551616), .int .u64 0, .int .u64 0, .int .u64 0, .int .u64 0] [.int .u64 ((l0 (a) + l0 (b) + 0) % 18446744073709551616), .int .u64 ((l1 (a) + l1 (b) + c1 a b) % 18446744073709551616), .int .u64 0, .int .u64 0, .int .u64 0] Q4 rfl rfl rfl rfl rfl sz22 rfl rfl rfl rfl ?_
  intro w8 hS Qn
  replace Q4 := Qn
  clear Qn
  replace Q1 := hS.other _ _ ne_k1_k4 Q1
  replace Q2 := hS.other _ _ ne_k2_k4 Q2
  replace Q3 := hS.other _ _ ne_k3_k4 Q3
  replace M := hS.mo _ N_k4 M
  clear hS
  refine wl_m (.tmp 22) (.int .u64 (c2 a b)) ?_
  refine w_nil (xn_blk (xn_then (w_reg ?_)))
  refine wl_b .add 3 (.tmp 8) (.const (.int .i64 (1))) (.int .i64 (1)) (.int .i64 (1)) (.int .i64 (2)) (by kernel_rfl) ?_
  refine wl_m (.tmp 24) (.int .i64 (2)) ?_
  refine w_nil ?_
  refine xn_rounds ?_
  refine w_seq (w_reg ?_)
  refine wl_b .lss 3 (.tmp 8) (.const (.int .i64 (5))) (.int .i64 (2)) (.int .i64 (5)) (.bool true) (by kernel_rfl) ?_
  refine w_nil (xn_then (w_seq (w_condT rfl (w_skip (xn_then (w_seq (w_block (w_seq (w_reg ?_)))))))))
  refine wl_m (.tmp 8) (.int .i64 (2)) ?_
  refine wl_m (.tmp 10) (.int .i64 (2)) ?_
  refine w_nil (xn_then ?_)
  refine w_any 13 [.inl (.int .i64 (2)), .inl (.int .i64 (2)), .inl (pt k1 2), .inl (.int .u64 (l2 (a))), .inl (.int .i64 (2)), .inl (pt k2 2), .inl (.int .u64 (l2 (b))), .inl (.int .u64 (c2 a b)), .inl (.tuple #[.int .u64 ((l2 (a) + l2 (b) + c2 a b) % 18446744073709551616), .int .u64 (c3 a b)]), .inl (.tuple #[.int .u64 ((l2 (a) + l2 (b) + c2 a b) % 18446744073709551616), .int .u64 (c3 a b)]), .inl (.int .u64 ((l2 (a) + l2 (b) + c2 a b) % 18446744073709551616)), .inl (.int .u64 (c3 a b)), .inl (pt k4 2)] [11] (by kernel_rfl) (by kernel_rfl) (by kernel_rfl) (by kernel_rfl) rfl (by kernel_rfl) (by kernel_rfl) (late_cons ⟨_, _, rfl, rfl, fun _ _ _ _ h => h, fun f hd => ⟨rfl, la_un (fun v => Instr.extract v 1) (.tmp 11) (.tuple #[.int .u64 ((l2 (a) + l2 (b) + c2 a b) % 18446744073709551616), .int .u64 (c3 a b)]) (.int .u64 (c3 a b)) (fun _ => rfl) (hd 9 rfl _ rfl) (fun w => by kernel_rfl)⟩⟩ late_nil) ?_ ?_ ?_
  · exact Ds.none rfl
  · refine ea_cons ?_ (ea_cons ?_ (ea_cons ?_ (ea_cons ?_ (ea_cons ?_ (ea_cons ?_ (ea_cons ?_ (ea_cons ?_ (ea_cons ?_ (ea_cons ?_ (ea_cons ?_ (ea_cons ?_ (ea_cons ?_ (ea_nil)))))))))))))
    · exact og_eq (.int .i64 (2)) rfl (fun f wf hq hd K hK => go_run rfl (wo_mv (.tmp 7) (.int .i64 (2)) (fun _ => rfl) rfl (hK _ (Mo.refl _))))
    · exact og_eq (.int .i64 (2)) rfl (fun f wf hq hd K hK => go_run rfl (wo_mv (.tmp 7) (.int .i64 (2)) (fun _ => rfl) rfl (hK _ (Mo.refl _))))
    · exact og_eq (pt k1 2) rfl (fun f wf hq hd K hK => go_run rfl (wo_bin (fun x y => Instr.indexAt 36 x y) (.tmp 2) (.tmp 13) (pt k1 0) (.int .i64 (2)) (pt k1 2) (fun _ => rfl) rfl (hd 1 rfl) (by kernel_rfl) (hK _ (Mo.refl _))))
    · exact og_eq (.int .u64 (l2 (a))) rfl (fun f wf hq hd K hK => have Q1 := Q1.mo hq; go_run rfl (wo_load 34 (.tmp 14) (pt k1 2) (.int .u64 (l2 (a))) rfl (hd 2 rfl) (run_one Q1 34 2 rfl Try.underlying34 rfl) (hK _ (Mo.refl _))))
    · exact og_eq (.int .i64 (2)) rfl (fun f wf hq hd K hK => go_run rfl (wo_mv (.tmp 7) (.int .i64 (2)) (fun _ => rfl) rfl (hK _ (Mo.refl _))))
    · exact og_eq (pt k2 2) rfl (fun f wf hq hd K hK => go_run rfl (wo_bin (fun x y => Instr.indexAt 36 x y) (.tmp 3) (.tmp 16) (pt k2 0) (.int .i64 (2)) (pt k2 2) (fun _ => rfl) rfl (hd 4 rfl) (by kernel_rfl) (hK _ (Mo.refl _))))
    · exact og_eq (.int .u64 (l2 (b))) rfl (fun f wf hq hd K hK => have Q2 := Q2.mo hq; go_run rfl (wo_load 34 (.tmp 17) (pt k2 2) (.int .u64 (l2 (b))) rfl (hd 5 rfl) (run_one Q2 34 2 rfl Try.underlying34 rfl) (hK _ (Mo.refl _))))
    · exact og_eq (.int .u64 (c2 a b)) rfl (fun f wf hq hd K hK => go_run rfl (wo_mv (.tmp 6) (.int .u64 (c2 a b)) (fun _ => rfl) rfl (hK _ (Mo.refl _))))
    · exact og_eq (.tuple #[.int .u64 ((l2 (a) + l2 (b) + c2 a b) % 18446744073709551616), .int .u64 (c3 a b)]) rfl (fun f wf hq hd K hK => go_run rfl (wo_val (.tuple #[.int .u64 ((l2 (a) + l2 (b) + c2 a b) % 18446744073709551616), .int .u64 (c3 a b)]) (add64_op (l2 a) (l2 b) (c2 a b) ha.2.2.1.1 hb.2.2.1.1 hc.2.1.1 hc.2.1.2 _ _ _ (by exact (hd 3 rfl)) (by exact (hd 6 rfl)) (by exact (hd 7 rfl)) _ _ _ _ _ _ _) (hK _ (Mo.refl _))))
    · exact og_eq (.tuple #[.int .u64 ((l2 (a) + l2 (b) + c2 a b) % 18446744073709551616), .int .u64 (c3 a b)]) rfl (fun f wf hq hd K hK => go_run rfl (wo_mv (.tmp 20) (.tuple #[.int .u64 ((l2 (a) + l2 (b) + c2 a b) % 18446744073709551616), .int .u64 (c3 a b)]) (fun _ => rfl) (hd 8 rfl) (hK _ (Mo.refl _))))
    · exact og_eq (.int .u64 ((l2 (a) + l2 (b) + c2 a b) % 18446744073709551616)) rfl (fun f wf hq hd K hK => go_run rfl (wo_un (fun v => Instr.extract v 0) (.tmp 11) (.tuple #[.int .u64 ((l2 (a) + l2 (b) + c2 a b) % 18446744073709551616), .int .u64 (c3 a b)]) (.int .u64 ((l2 (a) + l2 (b) + c2 a b) % 18446744073709551616)) (fun _ => rfl) (hd 9 rfl) (by kernel_rfl) (hK _ (Mo.refl _))))
    · exact og_eq (.int .u64 (c3 a b)) rfl (fun f wf hq hd K hK => go_run rfl (wo_un (fun v => Instr.extract v 1) (.tmp 11) (.tuple #[.int .u64 ((l2 (a) + l2 (b) + c2 a b) % 18446744073709551616), .int .u64 (c3 a b)]) (.int .u64 (c3 a b)) (fun _ => rfl) (hd 9 rfl) (by kernel_rfl) (hK _ (Mo.refl _))))
    · exact og_eq (pt k4 2) rfl (fun f wf hq hd K hK => go_run rfl (wo_bin (fun x y => Instr.indexAt 36 x y) (.tmp 5) (.tmp 12) (pt k4 0) (.int .i64 (2)) (pt k4 2) (fun _ => rfl) rfl (hd 0 rfl) (by kernel_rfl) (hK _ (Mo.refl _))))
  intro kf9 w9 hq hR hne
  replace Q1 := Q1.mo hq
  replace Q2 := Q2.mo hq
  replace Q3 := Q3.mo hq
  replace Q4 := Q4.mo hq
  replace M := M.trans hq
  clear hq hR hne
  refine wl_st1 34 (.tmp 23) (.tmp 21) k4 2 (.int .u64 ((l2 (a) + l2 (b) + c2 a b) % 18446744073709551616)) [.int .u64 ((l0 (a) + l0 (b) + 0) % 18446744073709551616), .int .u64 ((l1 (a) + l1 (b) + c1 a b) % 18446744073709551616), .int .u64 0, .int .u64 0, .int .u64 0] [.int .u64 ((l0 (a) + l0 (b) + 0) % 18446744073709551616), .int .u64 ((l1 (a) + l1 (b) + c1 a b) % 18446744073709551616), .int .u64 ((l2 (a) + l2 (b) + c2 a b) % 18446744073709551616), .int .u64 0, .int .u64 0] Q4 rfl rfl rfl rfl rfl sz22 rfl rfl rfl rfl ?_
  intro w10 hS Qn
  replace Q4 := Qn
  clear Qn
  replace Q1 := hS.other _ _ ne_k1_k4 Q1
  replace Q2 := hS.other _ _ ne_k2_k4 Q2
  replace Q3 := hS.other _ _ ne_k3_k4 Q3
  replace M := hS.mo _ N_k4 M
  clear hS
  refine wl_m (.tmp 22) (.int .u64 (c3 a b)) ?_
  refine w_nil (xn_blk (xn_then (w_reg ?_)))
  refine wl_b .add 3 (.tmp 8) (.const (.int .i64 (1))) (.int .i64 (2)) (.int .i64 (1)) (.int .i64 (3)) (by kernel_rfl) ?_
  refine wl_m (.tmp 24) (.int .i64 (3)) ?_
  refine w_nil ?_
  refine xn_rounds ?_
  refine w_seq (w_reg ?_)
  refine wl_b .lss 3 (.tmp 8) (.const (.int .i64 (5))) (.int .i64 (3)) (.int .i64 (5)) (.bool true) (by kernel_rfl) ?_
  refine w_nil (xn_then (w_seq (w_condT rfl (w_skip (xn_then (w_seq (w_block (w_seq (w_reg ?_)))))))))
  refine wl_m (.tmp 8) (.int .i64 (3)) ?_
  refine wl_m (.tmp 10) (.int .i64 (3)) ?_
  refine w_nil (xn_then ?_)
  refine w_any 13 [.inl (.int .i64 (3)), .inl (.int .i64 (3)), .inl (pt k1 3), .inl (.int .u64 (l3 (a))), .inl (.int .i64 (3)), .inl (pt k2 3), .inl (.int .u64 (l3 (b))), .inl (.int .u64 (c3 a b)), .inl (.tuple #[.int .u64 ((l3 (a) + l3 (b) + c3 a b) % 18446744073709551616), .int .u64 (c4 a b)]), .inl (.tuple #[.int .u64 ((l3 (a) + l3 (b) + c3 a b) % 18446744073709551616), .int .u64 (c4 a b)]), .inl (.int .u64 ((l3 (a) + l3 (b) + c3 a b) % 18446744073709551616)), .inl (.int .u64 (c4 a b)), .inl (pt k4 3)] [11] (by kernel_rfl) (by kernel_rfl) (by kernel_rfl) (by kernel_rfl) rfl (by kernel_rfl) (by kernel_rfl) (late_cons ⟨_, _, rfl, rfl, fun _ _ _ _ h => h, fun f hd => ⟨rfl, la_un (fun v => Instr.extract v 1) (.tmp 11) (.tuple #[.int .u64 ((l3 (a) + l3 (b) + c3 a b) % 18446744073709551616), .int .u64 (c4 a b)]) (.int .u64 (c4 a b)) (fun _ => rfl) (hd 9 rfl _ rfl) (fun w => by kernel_rfl)⟩⟩ late_nil) ?_ ?_ ?_
  · exact Ds.none rfl
  · refine ea_cons ?_ (ea_cons ?_ (ea_cons ?_ (ea_cons ?_ (ea_cons ?_ (ea_cons ?_ (ea_cons ?_ (ea_cons ?_ (ea_cons ?_ (ea_cons ?_ (ea_cons ?_ (ea_cons ?_ (ea_cons ?_ (ea_nil)))))))))))))
    · exact og_eq (.int .i64 (3)) rfl (fun f wf hq hd K hK => go_run rfl (wo_mv (.tmp 7) (.int .i64 (3)) (fun _ => rfl) rfl (hK _ (Mo.refl _))))
    · exact og_eq (.int .i64 (3)) rfl (fun f wf hq hd K hK => go_run rfl (wo_mv (.tmp 7) (.int .i64 (3)) (fun _ => rfl) rfl (hK _ (Mo.refl _))))
    · exact og_eq (pt k1 3) rfl (fun f wf hq hd K hK => go_run rfl (wo_bin (fun x y => Instr.indexAt 36 x y) (.tmp 2) (.tmp 13) (pt k1 0) (.int .i64 (3)) (pt k1 3) (fun _ => rfl) rfl (hd 1 rfl) (by kernel_rfl) (hK _ (Mo.refl _))))
    · exact og_eq (.int .u64 (l3 (a))) rfl (fun f wf hq hd K hK => have Q1 := Q1.mo hq; go_run rfl (wo_load 34 (.tmp 14) (pt k1 3) (.int .u64 (l3 (a))) rfl (hd 2 rfl) (run_one Q1 34 3 rfl Try.underlying34 rfl) (hK _ (Mo.refl _))))
    · exact og_eq (.int .i64 (3)) rfl (fun f wf hq hd K hK => go_run rfl (wo_mv (.tmp 7) (.int .i64 (3)) (fun _ => rfl) rfl (hK _ (Mo.refl _))))
    · exact og_eq (pt k2 3) rfl (fun f wf hq hd K hK => go_run rfl (wo_bin (fun x y => Instr.indexAt 36 x y) (.tmp 3) (.tmp 16) (pt k2 0) (.int .i64 (3)) (pt k2 3) (fun _ => rfl) rfl (hd 4 rfl) (by kernel_rfl) (hK _ (Mo.refl _))))
    · exact og_eq (.int .u64 (l3 (b))) rfl (fun f wf hq hd K hK => have Q2 := Q2.mo hq; go_run rfl (wo_load 34 (.tmp 17) (pt k2 3) (.int .u64 (l3 (b))) rfl (hd 5 rfl) (run_one Q2 34 3 rfl Try.underlying34 rfl) (hK _ (Mo.refl _))))
    · exact og_eq (.int .u64 (c3 a b)) rfl (fun f wf hq hd K hK => go_run rfl (wo_mv (.tmp 6) (.int .u64 (c3 a b)) (fun _ => rfl) rfl (hK _ (Mo.refl _))))
    · exact og_eq (.tuple #[.int .u64 ((l3 (a) + l3 (b) + c3 a b) % 18446744073709551616), .int .u64 (c4 a b)]) rfl (fun f wf hq hd K hK => go_run rfl (wo_val (.tuple #[.int .u64 ((l3 (a) + l3 (b) + c3 a b) % 18446744073709551616), .int .u64 (c4 a b)]) (add64_op (l3 a) (l3 b) (c3 a b) ha.2.2.2.1.1 hb.2.2.2.1.1 hc.2.2.1.1 hc.2.2.1.2 _ _ _ (by exact (hd 3 rfl)) (by exact (hd 6 rfl)) (by exact (hd 7 rfl)) _ _ _ _ _ _ _) (hK _ (Mo.refl _))))
    · exact og_eq (.tuple #[.int .u64 ((l3 (a) + l3 (b) + c3 a b) % 18446744073709551616), .int .u64 (c4 a b)]) rfl (fun f wf hq hd K hK => go_run rfl (wo_mv (.tmp 20) (.tuple #[.int .u64 ((l3 (a) + l3 (b) + c3 a b) % 18446744073709551616), .int .u64 (c4 a b)]) (fun _ => rfl) (hd 8 rfl) (hK _ (Mo.refl _))))
    · exact og_eq (.int .u64 ((l3 (a) + l3 (b) + c3 a b) % 18446744073709551616)) rfl (fun f wf hq hd K hK => go_run rfl (wo_un (fun v => Instr.extract v 0) (.tmp 11) (.tuple #[.int .u64 ((l3 (a) + l3 (b) + c3 a b) % 18446744073709551616), .int .u64 (c4 a b)]) (.int .u64 ((l3 (a) + l3 (b) + c3 a b) % 18446744073709551616)) (fun _ => rfl) (hd 9 rfl) (by kernel_rfl) (hK _ (Mo.refl _))))
    · exact og_eq (.int .u64 (c4 a b)) rfl (fun f wf hq hd K hK => go_run rfl (wo_un (fun v => Instr.extract v 1) (.tmp 11) (.tuple #[.int .u64 ((l3 (a) + l3 (b) + c3 a b) % 18446744073709551616), .int .u64 (c4 a b)]) (.int .u64 (c4 a b)) (fun _ => rfl) (hd 9 rfl) (by kernel_rfl) (hK _ (Mo.refl _))))
    · exact og_eq (pt k4 3) rfl (fun f wf hq hd K hK => go_run rfl (wo_bin (fun x y => Instr.indexAt 36 x y) (.tmp 5) (.tmp 12) (pt k4 0) (.int .i64 (3)) (pt k4 3) (fun _ => rfl) rfl (hd 0 rfl) (by kernel_rfl) (hK _ (Mo.refl _))))
  intro kf11 w11 hq hR hne
  replace Q1 := Q1.mo hq
  replace Q2 := Q2.mo hq
  replace Q3 := Q3.mo hq
  replace Q4 := Q4.mo hq
  replace M := M.trans hq
  clear hq hR hne
  refine wl_st1 34 (.tmp 23) (.tmp 21) k4 3 (.int .u64 ((l3 (a) + l3 (b) + c3 a b) % 18446744073709551616)) [.int .u64 ((l0 (a) + l0 (b) + 0) % 18446744073709551616), .int .u64 ((l1 (a) + l1 (b) + c1 a b) % 18446744073709551616), .int .u64 ((l2 (a) + l2 (b) + c2 a b) % 18446744073709551616), .int .u64 0, .int .u64 0] [.int .u64 ((l0 (a) + l0 (b) + 0) % 18446744073709551616), .int .u64 ((l1 (a) + l1 (b) + c1 a b) % 18446744073709551616), .int .u64 ((l2 (a) + l2 (b) + c2 a b) % 18446744073709551616), .int .u64 ((l3 (a) + l3 (b) + c3 a b) % 18446744073709551616), .int .u64 0] Q4 rfl rfl rfl rfl rfl sz22 rfl rfl rfl rfl ?_
  intro w12 hS Qn
  replace Q4 := Qn
  clear Qn
  replace Q1 := hS.other _ _ ne_k1_k4 Q1
  replace Q2 := hS.other _ _ ne_k2_k4 Q2
  replace Q3 := hS.other _ _ ne_k3_k4 Q3
  replace M := hS.mo _ N_k4 M
  clear hS
  refine wl_m (.tmp 22) (.int .u64 (c4 a b)) ?_
  refine w_nil (xn_blk (xn_then (w_reg ?_)))
  refine wl_b .add 3 (.tmp 8) (.const (.int .i64 (1))) (.int .i64 (3)) (.int .i64 (1)) (.int .i64 (4)) (by kernel_rfl) ?_
  refine wl_m (.tmp 24) (.int .i64 (4)) ?_
  refine w_nil ?_
  refine xn_rounds ?_
  refine w_seq (w_reg ?_)
  refine wl_b .lss 3 (.tmp 8) (.const (.int .i64 (5))) (.int .i64 (4)) (.int .i64 (5)) (.bool true) (by kernel_rfl) ?_
  refine w_nil (xn_then (w_seq (w_condT rfl (w_skip (xn_then (w_seq (w_block (w_seq (w_reg ?_)))))))))
  refine wl_m (.tmp 8) (.int .i64 (4)) ?_
  refine wl_m (.tmp 10) (.int .i64 (4)) ?_
  refine w_nil (xn_then ?_)
  refine w_any 13 [.inl (.int .i64 (4)), .inl (.int .i64 (4)), .inl (pt k1 4), .inl (.int .u64 (l4 (a))), .inl (.int .i64 (4)), .inl (pt k2 4), .inl (.int .u64 (l4 (b))), .inl (.int .u64 (c4 a b)), .inl (.tuple #[.int .u64 ((l4 (a) + l4 (b) + c4 a b) % 18446744073709551616), .int .u64 ((l4 (a) + l4 (b) + c4 a b) / 18446744073709551616)]), .inl (.tuple #[.int .u64 ((l4 (a) + l4 (b) + c4 a b) % 18446744073709551616), .int .u64 ((l4 (a) + l4 (b) + c4 a b) / 18446744073709551616)]), .inl (.int .u64 ((l4 (a) + l4 (b) + c4 a b) % 18446744073709551616)), .inl (.int .u64 ((l4 (a) + l4 (b) + c4 a b) / 18446744073709551616)), .inl (pt k4 4)] [11] (by kernel_rfl) (by kernel_rfl) (by kernel_rfl) (by kernel_rfl) rfl (by kernel_rfl) (by kernel_rfl) (late_cons ⟨_, _, rfl, rfl, fun _ _ _ _ h => h, fun f hd => ⟨rfl, la_un (fun v => Instr.extract v 1) (.tmp 11) (.tuple #[.int .u64 ((l4 (a) + l4 (b) + c4 a b) % 18446744073709551616), .int .u64 ((l4 (a) + l4 (b) + c4 a b) / 18446744073709551616)]) (.int .u64 ((l4 (a) + l4 (b) + c4 a b) / 18446744073709551616)) (fun _ => rfl) (hd 9 rfl _ rfl) (fun w => by kernel_rfl)⟩⟩ late_nil) ?_ ?_ ?_
  · exact Ds.none rfl
  · refine ea_cons ?_ (ea_cons ?_ (ea_cons ?_ (ea_cons ?_ (ea_cons ?_ (ea_cons ?_ (ea_cons ?_ (ea_cons ?_ (ea_cons ?_ (ea_cons ?_ (ea_cons ?_ (ea_cons ?_ (ea_cons ?_ (ea_nil)))))))))))))
    · exact og_eq (.int .i64 (4)) rfl (fun f wf hq hd K hK => go_run rfl (wo_mv (.tmp 7) (.int .i64 (4)) (fun _ => rfl) rfl (hK _ (Mo.refl _))))
    · exact og_eq (.int .i64 (4)) rfl (fun f wf hq hd K hK => go_run rfl (wo_mv (.tmp 7) (.int .i64 (4)) (fun _ => rfl) rfl (hK _ (Mo.refl _))))
    · exact og_eq (pt k1 4) rfl (fun f wf hq hd K hK => go_run rfl (wo_bin (fun x y => Instr.indexAt 36 x y) (.tmp 2) (.tmp 13) (pt k1 0) (.int .i64 (4)) (pt k1 4) (fun _ => rfl) rfl (hd 1 rfl) (by kernel_rfl) (hK _ (Mo.refl _))))
    · exact og_eq (.int .u64 (l4 (a))) rfl (fun f wf hq hd K hK => have Q1 := Q1.mo hq; go_run rfl (wo_load 34 (.tmp 14) (pt k1 4) (.int .u64 (l4 (a))) rfl (hd 2 rfl) (run_one Q1 34 4 rfl Try.underlying34 rfl) (hK _ (Mo.refl _))))
    · exact og_eq (.int .i64 (4)) rfl (fun f wf hq hd K hK => go_run rfl (wo_mv (.tmp 7) (.int .i64 (4)) (fun _ => rfl) rfl (hK _ (Mo.refl _))))
    · exact og_eq (pt k2 4) rfl (fun f wf hq hd K hK => go_run rfl (wo_bin (fun x y => Instr.indexAt 36 x y) (.tmp 3) (.tmp 16) (pt k2 0) (.int .i64 (4)) (pt k2 4) (fun _ => rfl) rfl (hd 4 rfl) (by kernel_rfl) (hK _ (Mo.refl _))))
    · exact og_eq (.int .u64 (l4 (b))) rfl (fun f wf hq hd K hK => have Q2 := Q2.mo hq; go_run rfl (wo_load 34 (.tmp 17) (pt k2 4) (.int .u64 (l4 (b))) rfl (hd 5 rfl) (run_one Q2 34 4 rfl Try.underlying34 rfl) (hK _ (Mo.refl _))))
    · exact og_eq (.int .u64 (c4 a b)) rfl (fun f wf hq hd K hK => go_run rfl (wo_mv (.tmp 6) (.int .u64 (c4 a b)) (fun _ => rfl) rfl (hK _ (Mo.refl _))))
    · exact og_eq (.tuple #[.int .u64 ((l4 (a) + l4 (b) + c4 a b) % 18446744073709551616), .int .u64 ((l4 (a) + l4 (b) + c4 a b) / 18446744073709551616)]) rfl (fun f wf hq hd K hK => go_run rfl (wo_val (.tuple #[.int .u64 ((l4 (a) + l4 (b) + c4 a b) % 18446744073709551616), .int .u64 ((l4 (a) + l4 (b) + c4 a b) / 18446744073709551616)]) (add64_op (l4 a) (l4 b) (c4 a b) ha.2.2.2.2.1 hb.2.2.2.2.1 hc.2.2.2.1 hc.2.2.2.2 _ _ _ (by exact (hd 3 rfl)) (by exact (hd 6 rfl)) (by exact (hd 7 rfl)) _ _ _ _ _ _ _) (hK _ (Mo.refl _))))
    · exact og_eq (.tuple #[.int .u64 ((l4 (a) + l4 (b) + c4 a b) % 18446744073709551616), .int .u64 ((l4 (a) + l4 (b) + c4 a b) / 18446744073709551616)]) rfl (fun f wf hq hd K hK => go_run rfl (wo_mv (.tmp 20) (.tuple #[.int .u64 ((l4 (a) + l4 (b) + c4 a b) % 18446744073709551616), .int .u64 ((l4 (a) + l4 (b) + c4 a b) / 18446744073709551616)]) (fun _ => rfl) (hd 8 rfl) (hK _ (Mo.refl _))))
    · exact og_eq (.int .u64 ((l4 (a) + l4 (b) + c4 a b) % 18446744073709551616)) rfl (fun f wf hq hd K hK => go_run rfl (wo_un (fun v => Instr.extract v 0) (.tmp 11) (.tuple #[.int .u64 ((l4 (a) + l4 (b) + c4 a b) % 18446744073709551616), .int .u64 ((l4 (a) + l4 (b) + c4 a b) / 18446744073709551616)]) (.int .u64 ((l4 (a) + l4 (b) + c4 a b) % 18446744073709551616)) (fun _ => rfl) (hd 9 rfl) (by kernel_rfl) (hK _ (Mo.refl _))))
    · exact og_eq (.int .u64 ((l4 (a) + l4 (b) + c4 a b) / 18446744073709551616)) rfl (fun f wf hq hd K hK => go_run rfl (wo_un (fun v => Instr.extract v 1) (.tmp 11) (.tuple #[.int .u64 ((l4 (a) + l4 (b) + c4 a b) % 18446744073709551616), .int .u64 ((l4 (a) + l4 (b) + c4 a b) / 18446744073709551616)]) (.int .u64 ((l4 (a) + l4 (b) + c4 a b) / 18446744073709551616)) (fun _ => rfl) (hd 9 rfl) (by kernel_rfl) (hK _ (Mo.refl _))))
    · exact og_eq (pt k4 4) rfl (fun f wf hq hd K hK => go_run rfl (wo_bin (fun x y => Instr.indexAt 36 x y) (.tmp 5) (.tmp 12) (pt k4 0) (.int .i64 (4)) (pt k4 4) (fun _ => rfl) rfl (hd 0 rfl) (by kernel_rfl) (hK _ (Mo.refl _))))
  intro kf13 w13 hq hR hne
  replace Q1 := Q1.mo hq
  replace Q2 := Q2.mo hq
  replace Q3 := Q3.mo hq
  replace Q4 := Q4.mo hq
  replace M := M.trans hq
  clear hq hR hne
  refine wl_st1 34 (.tmp 23) (.tmp 21) k4 4 (.int .u64 ((l4 (a) + l4 (b) + c4 a b) % 18446744073709551616)) [.int .u64 ((l0 (a) + l0 (b) + 0) % 18446744073709551616), .int .u64 ((l1 (a) + l1 (b) + c1 a b) % 18446744073709551616), .int .u64 ((l2 (a) + l2 (b) + c2 a b) % 18446744073709551616), .int .u64 ((l3 (a) + l3 (b) + c3 a b) % 18446744073709551616), .int .u64 0] [.int .u64 ((l0 (a) + l0 (b) + 0) % 18446744073709551616), .int .u64 ((l1 (a) + l1 (b) + c1 a b) % 18446744073709551616), .int .u64 ((l2 (a) + l2 (b) + c2 a b) % 18446744073709551616), .int .u64 ((l3 (a) + l3 (b) + c3 a b) % 18446744073709551616), .int .u64 ((l4 (a) + l4 (b) + c4 a b) % 18446744073709551616)] Q4 rfl rfl rfl rfl rfl sz22 rfl rfl rfl rfl ?_
  intro w14 hS Qn
  replace Q4 := Qn
  clear Qn
  replace Q1 := hS.other _ _ ne_k1_k4 Q1
  replace Q2 := hS.other _ _ ne_k2_k4 Q2
  replace Q3 := hS.other _ _ ne_k3_k4 Q3
  replace M := hS.mo _ N_k4 M
  clear hS
  refine wl_m (.tmp 22) (.int .u64 ((l4 (a) + l4 (b) + c4 a b) / 18446744073709551616)) ?_
  refine w_nil (xn_blk (xn_then (w_reg ?_)))
  refine wl_b .add 3 (.tmp 8) (.const (.int .i64 (1))) (.int .i64 (4)) (.int .i64 (1)) (.int .i64 (5)) (by kernel_rfl) ?_
  refine wl_m (.tmp 24) (.int .i64 (5)) ?_
  refine w_nil ?_
  refine xn_rounds ?_
  refine w_seq (w_reg ?_)
  refine wl_b .lss 3 (.tmp 8) (.const (.int .i64 (5))) (.int .i64 (5)) (.int .i64 (5)) (.bool false) (by kernel_rfl) ?_
  refine w_nil (xn_then (w_seq (w_condF rfl (w_exit (xx_then (xx_then (xx_blk (xn_then (w_seq (w_reg ?_))))))))))
  refine wl_l 36 (.tmp 5) (pt k4 0) (.agg #[.int .u64 ((l0 (a) + l0 (b) + 0) % 18446744073709551616), .int .u64 ((l1 (a) + l1 (b) + c1 a b) % 18446744073709551616), .int .u64 ((l2 (a) + l2 (b) + c2 a b) % 18446744073709551616), .int .u64 ((l3 (a) + l3 (b) + c3 a b) % 18446744073709551616), .int .u64 ((l4 (a) + l4 (b) + c4 a b) % 18446744073709551616)]) (run_row Q4 36 0 5 [.int .u64 ((l0 (a) + l0 (b) + 0) % 18446744073709551616), .int .u64 ((l1 (a) + l1 (b) + c1 a b) % 18446744073709551616), .int .u64 ((l2 (a) + l2 (b) + c2 a b) % 18446744073709551616), .int .u64 ((l3 (a) + l3 (b) + c3 a b) % 18446744073709551616), .int .u64 ((l4 (a) + l4 (b) + c4 a b) % 18446744073709551616)] rfl Try.underlying36 rfl sz31) ?_
  refine wl_st 36 (.tmp 4) (.tmp 25) k3 0 #[.int .u64 ((l0 (a) + l0 (b) + 0) % 18446744073709551616), .int .u64 ((l1 (a) + l1 (b) + c1 a b) % 18446744073709551616), .int .u64 ((l2 (a) + l2 (b) + c2 a b) % 18446744073709551616), .int .u64 ((l3 (a) + l3 (b) + c3 a b) % 18446744073709551616), .int .u64 ((l4 (a) + l4 (b) + c4 a b) % 18446744073709551616)] [.int .u64 0, .int .u64 0, .int .u64 0, .int .u64 0, .int .u64 0] [.int .u64 ((l0 (a) + l0 (b) + 0) % 18446744073709551616), .int .u64 ((l1 (a) + l1 (b) + c1 a b) % 18446744073709551616), .int .u64 ((l2 (a) + l2 (b) + c2 a b) % 18446744073709551616), .int .u64 ((l3 (a) + l3 (b) + c3 a b) % 18446744073709551616), .int .u64 ((l4 (a) + l4 (b) + c4 a b) % 18446744073709551616)] Q3 rfl rfl rfl rfl rfl sz31 rfl rfl rfl ?_
  intro w15 hS Qn
  replace Q3 := Qn
  clear Qn
  replace Q1 := hS.other _ _ ne_k1_k3 Q1
  replace Q2 := hS.other _ _ ne_k2_k3 Q2
  replace Q4 := hS.other _ _ ne_k3_k4.symm Q4
  replace M := hS.mo _ N_k3 M
  clear hS
  refine w_nil (xn_then (w_ret ?_))
  exact w_ret1 _ (.agg #[.int .u64 ((l0 (a) + l0 (b) + 0) % 18446744073709551616), .int .u64 ((l1 (a) + l1 (b) + c1 a b) % 18446744073709551616), .int .u64 ((l2 (a) + l2 (b) + c2 a b) % 18446744073709551616), .int .u64 ((l3 (a) + l3 (b) + c3 a b) % 18446744073709551616), .int .u64 ((l4 (a) + l4 (b) + c4 a b) % 18446744073709551616)]) rfl ⟨k3, rfl, (run_row Q3 36 0 5 [.int .u64 ((l0 (a) + l0 (b) + 0) % 18446744073709551616), .int .u64 ((l1 (a) + l1 (b) + c1 a b) % 18446744073709551616), .int .u64 ((l2 (a) + l2 (b) + c2 a b) % 18446744073709551616), .int .u64 ((l3 (a) + l3 (b) + c3 a b) % 18446744073709551616), .int .u64 ((l4 (a) + l4 (b) + c4 a b) % 18446744073709551616)] rfl Try.underlying36 rfl sz31)⟩ ⟨by rw [show wv (a + b) = _ from rfl]; unfold wv; rw [e0, e1, e2, e3, e4], M⟩
end
end Go.Proofs.Ythfemlhmnjfjiaa

/-
  Limbs at a place; what is done with whole words.
-/
namespace Go.Proofs.Ythfemlhmnjfjiaa
open Go.RowKit
def wll (v : Int) : List Value := [.int .u64 (l0 v), .int .u64 (l1 v), .int .u64 (l2 v), .int .u64 (l3 v), .int .u64 (l4 v)]
def wla (v : Int) : Array Value := #[.int .u64 (l0 v), .int .u64 (l1 v), .int .u64 (l2 v), .int .u64 (l3 v), .int .u64 (l4 v)]
theorem wll_at (v : Int) {q : Nat} (h : q < 5) : (wll v)[q]? = some (.int .u64 (lim q v)) := by
  obtain ⟨e0, e1, e2, e3, e4⟩ := lim_is v
  have : q = 0 ∨ q = 1 ∨ q = 2 ∨ q = 3 ∨ q = 4 := by omega
  rcases this with rfl | rfl | rfl | rfl | rfl
  · rw [e0]; rfl
  · rw [e1]; rfl
  · rw [e2]; rfl
  · rw [e3]; rfl
  · rw [e4]; rfl
theorem wll_set {x y : Int} {q : Nat} (h : q < 5) {z : Int} (hz : lim q y = z) (ho : ∀ j, j ≠ q → lim j y = lim j x) : wll y = (wll x).take q ++ [.int .u64 z] ++ (wll x).drop (q + 1) := by
  obtain ⟨e0, e1, e2, e3, e4⟩ := lim_is x
  obtain ⟨f0, f1, f2, f3, f4⟩ := lim_is y
  subst hz
  have : q = 0 ∨ q = 1 ∨ q = 2 ∨ q = 3 ∨ q = 4 := by omega
  have o0 := ho 0; have o1 := ho 1; have o2 := ho 2; have o3 := ho 3; have o4 := ho 4
  rw [e0, f0] at o0; rw [e1, f1] at o1; rw [e2, f2] at o2; rw [e3, f3] at o3; rw [e4, f4] at o4
  rcases this with rfl | rfl | rfl | rfl | rfl
  · rw [f0, show wll y = [.int .u64 (l0 y), .int .u64 (l1 y), .int .u64 (l2 y), .int .u64 (l3 y), .int .u64 (l4 y)] from rfl, o1 (by decide), o2 (by decide), o3 (by decide), o4 (by decide)]; rfl
  · rw [f1, show wll y = [.int .u64 (l0 y), .int .u64 (l1 y), .int .u64 (l2 y), .int .u64 (l3 y), .int .u64 (l4 y)] from rfl, o0 (by decide), o2 (by decide), o3 (by decide), o4 (by decide)]; rfl
  · rw [f2, show wll y = [.int .u64 (l0 y), .int .u64 (l1 y), .int .u64 (l2 y), .int .u64 (l3 y), .int .u64 (l4 y)] from rfl, o0 (by decide), o1 (by decide), o3 (by decide), o4 (by decide)]; rfl
  · rw [f3, show wll y = [.int .u64 (l0 y), .int .u64 (l1 y), .int .u64 (l2 y), .int .u64 (l3 y), .int .u64 (l4 y)] from rfl, o0 (by decide), o1 (by decide), o2 (by decide), o4 (by decide)]; rfl
  · rw [f4, show wll y = [.int .u64 (l0 y), .int .u64 (l1 y), .int .u64 (l2 y), .int .u64 (l3 y), .int .u64 (l4 y)] from rfl, o0 (by decide), o1 (by decide), o2 (by decide), o3 (by decide)]; rfl
theorem notU {x y : Int} (h0 : 0 ≤ x ∧ x < 18446744073709551616) (h : y = 18446744073709551615 - x) (w : World) : (Op.unary .xor (.int .u64 x)).run Try.prog w = .ok (.int .u64 y) w := by
  have e : (Op.unary .xor (.int .u64 x)).run Try.prog w = .ok (.int .u64 (bits .xor .u64 IntKind.u64.max x)) w := by kernel_rfl
  rw [e, bnot x h0.1 h0.2, h]
theorem quoN {n : Nat} (hn : n ≤ 9223372036854775807) (x y : Operand) (w : World) : (do eqGuard .quo 3 x y (.int .i64 (n : Int)) (.int .i64 64); binOp .quo 3 (.int .i64 (n : Int)) (.int .i64 64)).run Try.prog w = .ok (.int .i64 ((n / 64 : Nat) : Int)) w := by
  have e : (do eqGuard .quo 3 x y (.int .i64 (n : Int)) (.int .i64 64); binOp .quo 3 (.int .i64 (n : Int)) (.int .i64 64)).run Try.prog w = .ok (.int .i64 (IntKind.i64.wrap (Int.tdiv (n : Int) 64))) w := by kernel_rfl
  have h2 : IntKind.i64.wrap (Int.tdiv (n : Int) 64) = ((n / 64 : Nat) : Int) := by
    rw [Int.tdiv_eq_ediv_of_nonneg (by omega), IntKind.wrap_i64]; omega
  rw [e, h2]
theorem remN {n : Nat} (x y : Operand) (w : World) : (do eqGuard .rem 3 x y (.int .i64 (n : Int)) (.int .i64 64); binOp .rem 3 (.int .i64 (n : Int)) (.int .i64 64)).run Try.prog w = .ok (.int .i64 ((n % 64 : Nat) : Int)) w := by
  have e : (do eqGuard .rem 3 x y (.int .i64 (n : Int)) (.int .i64 64); binOp .rem 3 (.int .i64 (n : Int)) (.int .i64 64)).run Try.prog w = .ok (.int .i64 (Int.tmod (n : Int) 64)) w := by kernel_rfl
  have h2 : Int.tmod (n : Int) 64 = ((n % 64 : Nat) : Int) := by
    rw [Int.tmod_eq_emod_of_nonneg (by omega)]; omega
  rw [e, h2]
theorem shrU {x : Int} {r : Nat} (hr : r < 64) (a b : Operand) (w : World) : (do eqGuard .shr 34 a b (.int .u64 x) (.int .i64 (r : Int)); binOp .shr 34 (.int .u64 x) (.int .i64 (r : Int))).run Try.prog w = .ok (.int .u64 (x / 2 ^ r)) w := by
  simp [go_sem]
theorem shlU {x : Int} {r : Nat} (hr : r < 64) (h : 0 ≤ x * 2 ^ r) (h2 : x * 2 ^ r < 18446744073709551616) (a b : Operand) (w : World) : (do eqGuard .shl 34 a b (.int .u64 x) (.int .i64 (r : Int)); binOp .shl 34 (.int .u64 x) (.int .i64 (r : Int))).run Try.prog w = .ok (.int .u64 (x * 2 ^ r)) w := by
  have e : IntKind.u64.wrap (x * 2 ^ r) = x * 2 ^ r := by rw [IntKind.wrap_u64]; omega
  simp [go_sem, e]
theorem and1U {x : Int} (h : 0 ≤ x ∧ x < 18446744073709551616) (a b : Operand) (w : World) : (do eqGuard .and 34 a b (.int .u64 x) (.int .u64 1); binOp .and 34 (.int .u64 x) (.int .u64 1)).run Try.prog w = .ok (.int .u64 (x % 2)) w := by
  have e : (do eqGuard .and 34 a b (.int .u64 x) (.int .u64 1); binOp .and 34 (.int .u64 x) (.int .u64 1)).run Try.prog w = .ok (.int .u64 (bits .and .u64 x 1)) w := by kernel_rfl
  rw [e, and_one x h.1 h.2]
theorem addU {x y : Int} (h0 : 0 ≤ x + y) (h : x + y < 18446744073709551616) (a b : Operand) (w : World) : (do eqGuard .add 34 a b (.int .u64 x) (.int .u64 y); binOp .add 34 (.int .u64 x) (.int .u64 y)).run Try.prog w = .ok (.int .u64 (x + y)) w := by
  have e : (do eqGuard .add 34 a b (.int .u64 x) (.int .u64 y); binOp .add 34 (.int .u64 x) (.int .u64 y)).run Try.prog w = .ok (.int .u64 (IntKind.u64.wrap (x + y))) w := by kernel_rfl
  have e2 : IntKind.u64.wrap (x + y) = x + y := by rw [IntKind.wrap_u64]; omega
  rw [e, e2]
theorem rem2U {x : Int} (h0 : 0 ≤ x) (a b : Operand) (w : World) : (do eqGuard .rem 34 a b (.int .u64 x) (.int .u64 2); binOp .rem 34 (.int .u64 x) (.int .u64 2)).run Try.prog w = .ok (.int .u64 (x % 2)) w := by
  have e : (do eqGuard .rem 34 a b (.int .u64 x) (.int .u64 2); binOp .rem 34 (.int .u64 x) (.int .u64 2)).run Try.prog w = .ok (.int .u64 (Int.tmod x 2)) w := by kernel_rfl
  rw [e, Int.tmod_eq_emod_of_nonneg h0]
theorem quo2U {x : Int} (h0 : 0 ≤ x) (h : x < 18446744073709551616) (a b : Operand) (w : World) : (do eqGuard .quo 34 a b (.int .u64 x) (.int .u64 2); binOp .quo 34 (.int .u64 x) (.int .u64 2)).run Try.prog w = .ok (.int .u64 (x / 2)) w := by
  have e : (do eqGuard .quo 34 a b (.int .u64 x) (.int .u64 2); binOp .quo 34 (.int .u64 x) (.int .u64 2)).run Try.prog w = .ok (.int .u64 (IntKind.u64.wrap (Int.tdiv x 2))) w := by kernel_rfl
  have e2 : IntKind.u64.wrap (Int.tdiv x 2) = x / 2 := by rw [Int.tdiv_eq_ediv_of_nonneg h0, IntKind.wrap_u64]; omega
  rw [e, e2]
theorem orU {x y : Int} {r : Nat} (hx : 0 ≤ x) (hx2 : x < 2 ^ r) (hy : 0 ≤ y) (h : y * 2 ^ r + x < 18446744073709551616) (a b : Operand) (w : World) : (do eqGuard .or 34 a b (.int .u64 x) (.int .u64 (y * 2 ^ r)); binOp .or 34 (.int .u64 x) (.int .u64 (y * 2 ^ r))).run Try.prog w = .ok (.int .u64 (x + y * 2 ^ r)) w := by
  have e : (do eqGuard .or 34 a b (.int .u64 x) (.int .u64 (y * 2 ^ r)); binOp .or 34 (.int .u64 x) (.int .u64 (y * 2 ^ r))).run Try.prog w = .ok (.int .u64 (bits .or .u64 x (y * 2 ^ r))) w := by kernel_rfl
  rw [e, or_join' y x r hy hx hx2 h]
theorem ia31_0 (k : Nat) (w : World) : (Instr.indexAt 36 (pt k 0) (.int .i64 0)).run Try.prog w = .ok (pt k 0) w := by kernel_rfl
theorem ia31_1 (k : Nat) (w : World) : (Instr.indexAt 36 (pt k 0) (.int .i64 1)).run Try.prog w = .ok (pt k 1) w := by kernel_rfl
theorem ia31_2 (k : Nat) (w : World) : (Instr.indexAt 36 (pt k 0) (.int .i64 2)).run Try.prog w = .ok (pt k 2) w := by kernel_rfl
theorem ia31_3 (k : Nat) (w : World) : (Instr.indexAt 36 (pt k 0) (.int .i64 3)).run Try.prog w = .ok (pt k 3) w := by kernel_rfl
theorem ia31_4 (k : Nat) (w : World) : (Instr.indexAt 36 (pt k 0) (.int .i64 4)).run Try.prog w = .ok (pt k 4) w := by kernel_rfl
theorem ia31 (k q : Nat) (h : q < 5) (w : World) : (Instr.indexAt 36 (pt k 0) (.int .i64 (q : Int))).run Try.prog w = .ok (pt k q) w := by
  have : q = 0 ∨ q = 1 ∨ q = 2 ∨ q = 3 ∨ q = 4 := by omega
  rcases this with rfl | rfl | rfl | rfl | rfl
  · exact ia31_0 k w
  · exact ia31_1 k w
  · exact ia31_2 k w
  · exact ia31_3 k w
  · exact ia31_4 k w
theorem bit_lim (v : Int) (k r : Nat) (hr : r < 64) : lim k v / 2 ^ r % 2 = v / 2 ^ (64 * k + r) % 2 := by
  unfold lim
  rw [div_pow_split, ← bit_low (v / 2 ^ (64 * k) % 18446744073709551616) (v / 2 ^ (64 * k) / 18446744073709551616) r hr]
  congr 2
  omega
theorem lim_u (k : Nat) (v : Int) : 0 ≤ lim k v ∧ lim k v < 18446744073709551616 := by unfold lim; omega
theorem ltN {a b : Nat} {r : Bool} (h : decide (a < b) = r) (x y : Operand) (w : World) : (do eqGuard .lss 3 x y (.int .i64 (a : Int)) (.int .i64 (b : Int)); binOp .lss 3 (.int .i64 (a : Int)) (.int .i64 (b : Int))).run Try.prog w = .ok (.bool r) w := by
  have e : (do eqGuard .lss 3 x y (.int .i64 (a : Int)) (.int .i64 (b : Int)); binOp .lss 3 (.int .i64 (a : Int)) (.int .i64 (b : Int))).run Try.prog w = .ok (.bool (decide ((a : Int) < (b : Int)))) w := by kernel_rfl
  rw [e, ← h]; simp
theorem add1N {k : Nat} (hk : k ≤ 9223372036854775806) (x y : Operand) (w : World) : (do eqGuard .add 3 x y (.int .i64 (k : Int)) (.int .i64 1); binOp .add 3 (.int .i64 (k : Int)) (.int .i64 1)).run Try.prog w = .ok (.int .i64 ((k + 1 : Nat) : Int)) w := by
  have e : (do eqGuard .add 3 x y (.int .i64 (k : Int)) (.int .i64 1); binOp .add 3 (.int .i64 (k : Int)) (.int .i64 1)).run Try.prog w = .ok (.int .i64 (IntKind.i64.wrap ((k : Int) + 1))) w := by kernel_rfl
  have e2 : IntKind.i64.wrap ((k : Int) + 1) = ((k + 1 : Nat) : Int) := by rw [IntKind.wrap_i64]; omega
  rw [e, e2]
end Go.Proofs.Ythfemlhmnjfjiaa

