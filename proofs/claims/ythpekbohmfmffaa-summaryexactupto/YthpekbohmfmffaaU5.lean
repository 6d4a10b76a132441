/-
  A part of the proof.
-/
import Derived.Test.YthpekbohmfmffaaWp
import Derived.Test.YthpekbohmfmffaaEqs
import Derived.Test.YthpekbohmfmffaaU4
/-
  A region that draws its order, once more: an operation may yield a slice of a new block, too.
-/
namespace Go.Proofs.Ythpekbohmfmffaa.X
open Go.RowKit
/-- What an operation yields: a value, or the address of a new block with such cells. -/
abbrev Sp := Sum Value (List Value × Option Nat)
def nvv (z : List Value × Option Nat) (k : Nat) : Value := match z.2 with
  | none => pt k 0
  | some n => .slice (some ⟨k, 0, none⟩) n n
theorem nvv_inj {z : List Value × Option Nat} {a b : Nat} (h : nvv z a = nvv z b) : a = b := by
  obtain ⟨cs, o⟩ := z
  cases o with
  | none => simpa [nvv] using h
  | some n => simpa [nvv] using h
def spNew : Sp → Bool
  | .inl _ => false
  | .inr z => z.2.isNone
def spDen (N : Nat) : Sp → Value → World → Prop
  | .inl v, u, _ => u = v
  | .inr zs, u, w => ∃ k, u = nvv zs k ∧ N ≤ k ∧ At w k zs.1
theorem spMo {N : Nat} {s : Sp} {u : Value} {w w' : World} (m : Mo w w') (h : spDen N s u w) : spDen N s u w' := by
  cases s with
  | inl v => exact h
  | inr zs => obtain ⟨k, h1, h2, h3⟩ := h; exact ⟨k, h1, h2, h3.mo m⟩
def spAt (sp : List Sp) (i : Nat) : Sp := (sp[i]?).getD (.inl undef)
/-- New blocks are apart. -/
def Ds (sp : List Sp) (f : Nat → Value) (w : World) : Prop :=
  (∀ j, spNew (spAt sp j) = true → ∀ k, f j = pt k 0 → k < w.heap.size) ∧ ∀ i j, spNew (spAt sp i) = true → spNew (spAt sp j) = true → i ≠ j → ∀ k, f i = pt k 0 → f j ≠ pt k 0
theorem Ds.other {sp : List Sp} {f : Nat → Value} {w w' : World} {i : Nat} {v : Value} (h : Ds sp f w) (hi : spNew (spAt sp i) = false) (hz : w.heap.size ≤ w'.heap.size) : Ds sp (upd f i v) w' := by
  have e : ∀ j, spNew (spAt sp j) = true → upd f i v j = f j := fun j hj => by
    unfold upd; rw [if_neg]; intro e; subst e; rw [hi] at hj; cases hj
  exact ⟨fun j hj k hk => Nat.lt_of_lt_of_le (h.1 j hj k (by rw [← e j hj]; exact hk)) hz, fun a b ha hb hab k hk => by rw [e b hb]; exact h.2 a b ha hb hab k (by rw [← e a ha]; exact hk)⟩
theorem pt_inj {a b : Nat} (h : pt a 0 = pt b 0) : a = b := by simpa using h
theorem Ds.fresh {sp : List Sp} {f : Nat → Value} {w w' : World} {i k : Nat} (h : Ds sp f w) (hk : w.heap.size = k) (hz : w'.heap.size = k + 1) : Ds sp (upd f i (pt k 0)) w' := by
  refine ⟨fun j hj m hm => ?_, fun a b ha hb hab m hm hn => ?_⟩
  · unfold upd at hm
    split at hm
    · have := pt_inj hm; omega
    · have := h.1 j hj m hm; omega
  · unfold upd at hm hn
    split at hm
    · have e := pt_inj hm
      split at hn
      · omega
      · have := h.1 b hb m hn; omega
    · split at hn
      · have e := pt_inj hn; have := h.1 a ha m hm; omega
      · exact h.2 a b ha hb hab m hm hn
/-- Does number i wait for number j, by one step or more? -/
def tw (ops : List Oper) : Nat → Nat → Nat → Bool
  | 0, _, _ => false
  | f + 1, i, j => match ops[i]? with
    | some o => depb o j || (List.range i).any fun k => depb o k && tw ops f k j
    | none => false
theorem exists_least0 {p : Nat → Prop} (h : ∃ m, p m) : ∃ m, p m ∧ ∀ k, p k → m ≤ k := by
  obtain ⟨m, hm⟩ := h
  induction m using Nat.strongRecOn with
  | ind m ih =>
    by_cases hh : ∃ k, k < m ∧ p k
    · obtain ⟨k, hk, hp⟩ := hh; exact ih k hk hp
    · exact ⟨m, hm, fun k hp => Nat.le_of_not_lt (fun hk => hh ⟨k, hk, hp⟩)⟩
/-- From number m on each waits for all ahead of it. -/
def chainB (ops : List Oper) (m : Nat) (fs : List Nat) : Bool := (List.range ops.length).all fun i => Nat.blt i m || (List.range i).all fun j => fs.contains j || tw ops ops.length i j
/-- What has come up had all that it waits for. -/
def Shut (ops : List Oper) (listed : Array Bool) : Prop := ∀ i o, ops[i]? = some o → listed.getD i false = true → ∀ e ∈ o.after, Region.binds .any e = true → listed.getD e.on false = true
theorem tw_spec {ops : List Oper} {listed : Array Bool} (hc : Shut ops listed) : ∀ (f i j : Nat) (o : Oper), ops[i]? = some o → (∀ e ∈ o.after, Region.binds .any e = true → listed.getD e.on false = true) → tw ops f i j = true → listed.getD j false = true := by
  intro f
  induction f with
  | zero => intro i j o _ _ h; cases h
  | succ f ih =>
    intro i j o ho hd h
    have dep : ∀ k, depb o k = true → listed.getD k false = true := fun k hk => by
      obtain ⟨e, he, hb⟩ := List.any_eq_true.1 hk
      simp only [Bool.and_eq_true] at hb
      have := hd e (by simpa using he) hb.1
      rwa [Nat.eq_of_beq_eq_true hb.2] at this
    simp only [tw, ho, Bool.or_eq_true] at h
    rcases h with h | h
    · exact dep j h
    · obtain ⟨k, hk, hkk⟩ := List.any_eq_true.1 h
      simp only [Bool.and_eq_true] at hkk
      cases hok : ops[k]? with
      | none => cases f with
        | zero => cases hkk.2
        | succ f => simp [tw, hok] at hkk
      | some ok => exact ih k j ok hok (fun e he hb => hc k ok hok (dep k hkk.1) e he hb) hkk.2
theorem chainB_spec {ops : List Oper} {m : Nat} {fs : List Nat} (h : chainB ops m fs = true) {listed : Array Bool} (hc : Shut ops listed) {i : Nat} {o : Oper} (ho : ops[i]? = some o) (hi : m ≤ i) (hd : ∀ e ∈ o.after, Region.binds .any e = true → listed.getD e.on false = true) : ∀ j, j < i → fs.contains j = false → listed.getD j false = true := by
  intro j hj hfl
  have h1 := List.all_eq_true.1 h i (List.mem_range.2 (List.getElem?_eq_some_iff.1 ho).1)
  simp only [Bool.or_eq_true] at h1
  rcases h1 with h1 | h1
  · rw [Nat.blt_eq] at h1; omega
  · have h2 := List.all_eq_true.1 h1 j (List.mem_range.2 hj)
    rw [hfl, Bool.false_or] at h2
    exact tw_spec hc _ i j o ho hd h2
theorem Shut.step {ops : List Oper} {listed : Array Bool} (h : Shut ops listed) {i : Nat} {o : Oper} (ho : ops[i]? = some o) (hd : ∀ e ∈ o.after, Region.binds .any e = true → listed.getD e.on false = true) : Shut ops (listed.setIfInBounds i true) := by
  intro j oj hoj hl e he hb
  by_cases hij : i = j
  · subst hij
    rw [ho] at hoj; cases hoj
    exact getD_set_true (hd e he hb)
  · rw [getD_set_ne false hij] at hl
    exact getD_set_true (h j oj hoj hl e he hb)
theorem Shut.start (ops : List Oper) (n : Nat) : Shut ops (Array.replicate n false) := fun i _ _ hl => by
  exfalso
  rcases Nat.lt_or_ge i n with h' | h' <;> simp [h'] at hl
section
variable {P : Program} {ops : List Oper} {Q : Exit → Act → World → Prop} {n : Nat} {l : List (Nat × Value)}
/-- The last part. -/
theorem wpAny_chain {m : Nat} {fs : List Nat} (hfs : ∀ j, m ≤ j → fs.contains j = false) (hc : chainB ops m fs = true) (hb : edgesBack .any ops.toArray = true) : ∀ (d q fuel : Nat) (listed : Array Bool) (a : Act) (w : World), q + d = ops.length → m ≤ q → d ≤ fuel → listed.size = ops.length → Shut ops listed →
    (∀ j, j < ops.length → listed.getD j true = decide (j < q)) → wpList P ops.toArray Q (ops.drop q) a w → wpAny P .any ops.toArray Q fuel listed a w := by
  intro d
  induction d with
  | zero =>
    intro q fuel listed a w hq hm hf hz hsh hl h
    have hr : Region.ready .any ops.toArray listed = [] := by
      rw [List.eq_nil_iff_forall_not_mem]
      intro i hi
      obtain ⟨h0, o, ho, _⟩ := mem_ready.1 hi
      have hlt : i < ops.length := by have := (Array.getElem?_eq_some_iff.1 ho).1; simpa using this
      rw [hl i hlt] at h0
      have := of_decide_eq_false h0
      omega
    rw [List.drop_eq_nil_of_le (by omega)] at h
    exact wpAny_done hr h fuel
  | succ d ih =>
    intro q fuel listed a w hq hm hf hz hsh hl h
    have hqlt : q < ops.length := by omega
    cases fuel with
    | zero => omega
    | succ fuel =>
      have hone : ∀ i, i ∈ Region.ready .any ops.toArray listed ↔ i = q := by
        intro i
        constructor
        · intro hi
          obtain ⟨h0, o, ho, hall⟩ := mem_ready.1 hi
          have hlt : i < ops.length := by have := (Array.getElem?_eq_some_iff.1 ho).1; simpa using this
          rw [hl i hlt] at h0
          have hge := of_decide_eq_false h0
          rcases Nat.lt_or_ge q i with hgt | hle
          · have h1 := chainB_spec hc hsh (i := i) (o := o) (by simpa using ho) (by omega) hall q hgt (hfs q hm)
            have h2 := hl q hqlt
            have : q < listed.size := by omega
            simp [this] at h1 h2
            rw [h1] at h2; cases h2
          · omega
        · rintro rfl
          refine mem_ready.2 ⟨by rw [hl i hqlt]; simp, ops[i], by simp [hqlt], fun e he hbd => ?_⟩
          have hlt := edgesBack_spec hb (i := i) (o := ops[i]) (by simp [hqlt]) e he hbd
          have h2 := hl e.on (by omega)
          have : e.on < listed.size := by omega
          simp [this] at h2 ⊢
          rw [h2]; exact decide_eq_true hlt
      refine ⟨fun h0 => ?_, fun i hi => ?_⟩
      · have := (hone q).2 rfl; rw [h0] at this; cases this
      · have := (hone i).1 hi
        subst this
        have hdi : ∀ e ∈ (ops[i]).after, Region.binds .any e = true → listed.getD e.on false = true := by
          obtain ⟨_, o, ho, hall⟩ := mem_ready.1 hi
          have : ops[i] = o := by have := Array.getElem?_eq_some_iff.1 ho; obtain ⟨_, h⟩ := this; simpa using h
          rw [this]; exact hall
        rw [List.drop_eq_getElem_cons hqlt] at h
        have h1 : wpOp P ops.toArray Q i (wpList P ops.toArray Q (ops.drop (i + 1))) a w := by
          unfold wpOp
          have e : ops.toArray[i]? = some ops[i] := by simp [hqlt]
          rw [e]
          unfold wpList at h
          exact h
        refine wpOp_mono (fun a' w' h' => ih (i + 1) fuel _ a' w' (by omega) (by omega) (by omega) (by simpa using hz) (hsh.step (i := i) (o := ops[i]) (by simp [hqlt]) hdi) (fun j hj => ?_) h') h1
        by_cases e : i = j
        · subst e
          have : i < listed.size := by omega
          simp [this]
        · rw [getD_set_ne true e, hl j hj]
          congr 1
          rw [eq_iff_iff]; omega
/-- One operation that yields a value. -/
def OgE (P : Program) (ops : List Oper) (Q : Exit → Act → World → Prop) (n : Nat) (l : List (Nat × Value)) (m : Nat) (W : World) (sp : List Sp) (i : Nat) (o : Oper) : Prop :=
  ∀ f w, Mo W w → (∀ j, depb o j = true → spDen W.heap.size (spAt sp j) (f j) w) → ∀ K : Act → World → Prop,
    (match spAt sp i with
      | .inl v => ∀ w', Mo w w' → K (fr n (ext (asg f 0 (ops.take m) l) o.dst v)) w'
      | .inr zs => ∀ k w', w.heap.size = k → w'.heap.size = k + 1 → Mo w w' → At w' k zs.1 → K (fr n (ext (asg f 0 (ops.take m) l) o.dst (nvv zs k))) w') →
    bif wnt n (asg f 0 (ops.take m) l) ops.toArray o then o.wp P (fr n (asg f 0 (ops.take m) l)) w K Q else K (fr n (ext (asg f 0 (ops.take m) l) o.dst undef)) w
/-- Those that may come up late: each is apart from all that may come behind. -/
def floatB (ops : List Oper) (m : Nat) (fs : List Nat) : Bool := fs.all fun i => Nat.blt i m && match ops[i]? with
  | some o => (List.range ops.length).all fun j => Nat.beq j i || (Nat.blt j m && !fs.contains j) || match ops[j]? with
    | some oj => depb oj i || o.apart ops.toArray oj
    | none => true
  | none => false
/-- What a late one yields, in whatever world. -/
def LateO (P : Program) (ops : List Oper) (Q : Exit → Act → World → Prop) (n : Nat) (l : List (Nat × Value)) (m : Nat) (sp : List Sp) (i : Nat) : Prop :=
  ∃ o v, ops[i]? = some o ∧ spAt sp i = .inl v ∧ (∀ u c a w, Q (.panic c) (a.put o.dst u) w → Q (.panic c) a w) ∧
    ∀ f, (∀ j, depb o j = true → ∀ u, spAt sp j = .inl u → f j = u) → wnt n (asg f 0 (ops.take m) l) ops.toArray o = true ∧ ∀ w, (execOp (evl n (asg f 0 (ops.take m) l)) o).run P w = .ok (.value v) w
theorem r_draw {id : Nat} {W : World} (m : Nat) (sp : List Sp) (fs : List Nat) (hm : P.follows .mixedOrders = true)
    (hb : edgesBack .any ops.toArray = true) (hd : dstsApart (ops.take m) = true) (hc : chainB ops m fs = true) (hl : Nat.ble m ops.length = true) (hf : floatB ops m fs = true) (hns : Region.noSelect ops.toArray = true)
    (hlate : ∀ i, i ∈ fs → LateO P ops Q n l m sp i)
    (hD : Ds sp (slots (fr n l) (ops.take m).toArray) W)
    (hs : Each (OgE P ops Q n l m W sp) 0 (ops.take m))
    (hend : ∀ f w, Mo W w → (∀ i, Nat.blt i m = true → spDen W.heap.size (spAt sp i) (f i) w) → Ds sp f w → wpList P ops.toArray Q (ops.drop m) (fr n (asg f 0 (ops.take m) l)) w) :
    (Code.region id ops.toArray true).wp P Q (fr n l) W := by
  have hml : m ≤ ops.length := Nat.le_of_ble_eq_true hl
  have hfm : ∀ i, i ∈ fs → i < m := fun i hi => by
    have := List.all_eq_true.1 hf i hi
    simp only [Bool.and_eq_true] at this
    rw [Nat.blt_eq] at this; exact this.1
  have hfs : ∀ j, m ≤ j → fs.contains j = false := fun j hj => by
    cases e : fs.contains j with
    | false => rfl
    | true => have := hfm j (by simpa using e); omega
  refine wp_region_any hm ?_
  -- all that are not late have come up: the late ones first, then the last part
  have second : ∀ (d fuel : Nat) (listed : Array Bool) (f : Nat → Value) (w : World), listed.toList.count false = (ops.length - m) + d → (ops.length - m) + d ≤ fuel → listed.size = ops.length → Shut ops listed → (∀ j, m ≤ j → j < ops.length → listed.getD j true = false) →
      (∀ j, j < m → fs.contains j = false → listed.getD j true = true) → Mo W w → Ds sp f w → (∀ i, i < m → listed.getD i false = true → spDen W.heap.size (spAt sp i) (f i) w) → wpAny P .any ops.toArray Q fuel listed (putAll f 0 (ops.take m) (fr n l)) w := by
    intro d
    induction d with
    | zero =>
      intro fuel listed f w hcnt hfu hz hsh hun hall hW hDs hR
      have hall2 : ∀ j, j < m → listed.getD j true = true := fun j hj => by
        cases e : listed.getD j true with
        | true => rfl
        | false =>
          exfalso
          have h1 : (listed.toList.drop m).count false = ops.length - m := by
            have h2 : listed.toList.drop m = List.replicate (ops.length - m) false := by
              apply List.ext_getElem
              · simp [hz]
              · intro j h3 h4
                simp at h3
                have := hun (m + j) (by omega) (by omega)
                have h5 : m + j < listed.size := by omega
                simpa [h5] using this
            rw [h2]; simp
          have h3 := List.take_append_drop m listed.toList
          have h4 : 0 < (listed.toList.take m).count false := by
            apply List.count_pos_iff.2
            have hjs : j < listed.size := by omega
            simp [hjs] at e
            rw [List.mem_iff_getElem]
            exact ⟨j, by simp; omega, by simp [e]⟩
          rw [← h3, List.count_append] at hcnt
          omega
      refine wpAny_chain hfs hc hb (ops.length - m) m _ listed _ w (by omega) (Nat.le_refl _) (by omega) hz hsh (fun j hj => ?_) ?_
      · rcases Nat.lt_or_ge j m with h | h
        · rw [hall2 j h]; simp [h]
        · rw [hun j h hj]; simp [Nat.not_lt.2 h]
      · rw [putAll_fr]
        exact hend f w hW (fun i hi => by
          have hi' : i < m := by rw [Nat.blt_eq] at hi; exact hi
          refine hR i hi' ?_
          have h1 := hall2 i hi'
          have h2 : i < listed.size := by omega
          simpa [h2] using h1) hDs
    | succ d ih =>
      intro fuel listed f w hcnt hfu hz hsh hun hall hW hDs hR
      -- a late one that has not come up: the first
      have hex : ∃ i, i < m ∧ listed.getD i true = false := by
        apply Classical.byContradiction
        intro hno
        have hall2 : ∀ j, j < m → listed.getD j true = true := fun j hj => by
          cases e : listed.getD j true with
          | true => rfl
          | false => exact absurd ⟨j, hj, e⟩ hno
        have h3 := List.take_append_drop m listed.toList
        have h4 : (listed.toList.take m).count false = 0 := by
          rw [List.count_eq_zero]
          intro hmem
          rw [List.mem_iff_getElem] at hmem
          obtain ⟨j, hj, e⟩ := hmem
          simp at hj e
          have hj1 : j < m := by omega
          have hj2 : j < listed.size := by omega
          have := hall2 j hj1
          simp [hj2] at this
          rw [this] at e; cases e
        have h5 : (listed.toList.drop m).count false ≤ ops.length - m := by
          have := List.count_le_length (a := false) (l := listed.toList.drop m)
          simp [hz] at this; exact this
        rw [← h3, List.count_append] at hcnt
        omega
      obtain ⟨i, ⟨him, hiu⟩, hmin⟩ := exists_least0 hex
      have hif : i ∈ fs := by
        cases e : fs.contains i with
        | true => simpa using e
        | false => have := hall i him e; rw [hiu] at this; cases this
      obtain ⟨o, v, ho, hv, hQ, hy⟩ := hlate i hif
      have hdep : ∀ e ∈ o.after, Region.binds .any e = true → listed.getD e.on false = true := fun e he hbd => by
        have hlt := edgesBack_spec hb (i := i) (o := o) (by simpa using ho) e he hbd
        have h1 : listed.getD e.on true = true := by
          cases ee : listed.getD e.on true with
          | true => rfl
          | false => have := hmin e.on ⟨by omega, ee⟩; omega
        have h2 : e.on < listed.size := by omega
        simpa [h2] using h1
      have hval : ∀ j, depb o j = true → ∀ u, spAt sp j = .inl u → f j = u := fun j hj u hu => by
        obtain ⟨e, he, hb'⟩ := List.any_eq_true.1 hj
        simp only [Bool.and_eq_true] at hb'
        have heon := Nat.eq_of_beq_eq_true hb'.2
        have hj' := hdep e (by simpa using he) hb'.1
        have hlt := edgesBack_spec hb (i := i) (o := o) (by simpa using ho) e (by simpa using he) hb'.1
        rw [heon] at hj' hlt
        have := hR j (by omega) hj'
        rw [hu] at this
        exact this
      obtain ⟨hw1, hw2⟩ := hy f hval
      cases fuel with
      | zero => omega
      | succ fuel =>
        refine wpAny_first (i := i) (oi := o) (v := v) (by simpa using ho) (Region.noSelect_spec hns) (hQ v) fuel listed _ w ?_ ?_ ?_ ?_
        · intro j oj hoj hji hju hno
          have hjl : j < ops.length := by have := (Array.getElem?_eq_some_iff.1 hoj).1; simpa using this
          have h1 := List.all_eq_true.1 hf i hif
          simp only [Bool.and_eq_true, ho] at h1
          have h2 := List.all_eq_true.1 h1.2 j (List.mem_range.2 hjl)
          have hoj' : ops[j]? = some oj := by simpa using hoj
          simp only [hoj', Bool.or_eq_true, Bool.and_eq_true, Bool.not_eq_true'] at h2
          rcases h2 with (h2 | h2) | h2 | h2
          · exact absurd (Nat.eq_of_beq_eq_true h2) hji
          · have := hall j (by have := h2.1; rw [Nat.blt_eq] at this; exact this) h2.2
            rw [this] at hju; cases hju
          · obtain ⟨e, he, hb'⟩ := List.any_eq_true.1 h2
            simp only [Bool.and_eq_true] at hb'
            exact absurd (Nat.eq_of_beq_eq_true hb'.2) (hno e (by simpa using he) hb'.1)
          · exact h2
        · exact mem_ready.2 ⟨hiu, o, by simpa using ho, hdep⟩
        · rw [putAll_fr]
          exact Or.inl ⟨by rw [fr_wanted]; exact hw1, fun w => by rw [fr_eval]; exact hw2 w⟩
        · have hot : (ops.take m)[i]? = some o := by rw [List.getElem?_take_of_lt him]; exact ho
          have hp := putAll_put v (ops.take m) 0 f (fr n l) hd i o hot
          rw [Nat.zero_add] at hp
          rw [hp]
          have h1 : listed.toList[i]? = some false := by
            have h' : i < listed.size := by omega
            simp [h'] at hiu; simp [h', hiu]
          have hcs := count_set _ _ h1
          refine ih fuel _ (upd f i v) w ?_ (by omega) (by simpa using hz) (hsh.step ho hdep) (fun j h1 h2 => ?_) (fun j h1 h2 => ?_) hW (hDs.other (by rw [hv]; rfl) (Nat.le_refl _)) (fun j hj hlj => ?_)
          · simp only [Array.toList_setIfInBounds]; omega
          · rw [getD_set_ne true (by omega)]; exact hun j h1 h2
          · have hij : i ≠ j := by intro e; subst e; have : fs.contains i = true := by simpa using hif
                                   rw [this] at h2; cases h2
            rw [getD_set_ne true hij]; exact hall j h1 h2
          · by_cases e : j = i
            · subst e; rw [hv]; simp [upd, spDen]
            · rw [getD_set_ne false (Ne.symm e)] at hlj
              have := hR j hj hlj
              simpa [upd, e] using this
  have main : ∀ (fuel : Nat) (listed : Array Bool) (f : Nat → Value) (w : World), listed.toList.count false ≤ fuel → listed.size = ops.length → Shut ops listed → (∀ j, m ≤ j → j < ops.length → listed.getD j true = false) →
      Mo W w → Ds sp f w → (∀ i, i < m → listed.getD i false = true → spDen W.heap.size (spAt sp i) (f i) w) → wpAny P .any ops.toArray Q fuel listed (putAll f 0 (ops.take m) (fr n l)) w := by
    intro fuel
    induction fuel with
    | zero =>
      intro listed f w hcnt hz hsh hun hW hDs hR
      refine wpAny_chain hfs hc hb (ops.length - m) m 0 listed _ w (by omega) (Nat.le_refl _) ?_ hz hsh ?_ ?_
      · rcases Nat.lt_or_ge m ops.length with h | h
        · exfalso
          have h1 := hun m (Nat.le_refl _) h
          have h2 : m < listed.size := by omega
          have : false ∈ listed.toList := by simp [h2] at h1; rw [← h1]; simp
          have := List.count_pos_iff.2 this
          omega
        · omega
      · intro j hj
        have h2 : j < listed.size := by omega
        have h3 : listed.getD j true = true := by
          cases e : listed.getD j true with
          | true => rfl
          | false =>
            have : false ∈ listed.toList := by simp [h2] at e; rw [← e]; simp
            have := List.count_pos_iff.2 this
            omega
        rcases Nat.lt_or_ge j m with h | h
        · rw [h3]; simp [h]
        · rw [hun j h hj] at h3; cases h3
      · rw [putAll_fr]
        refine hend f w hW (fun i hi => hR i (by rw [Nat.blt_eq] at hi; exact hi) ?_) hDs
        have hi' : i < m := by rw [Nat.blt_eq] at hi; exact hi
        have h2 : i < listed.size := by omega
        cases e : listed.getD i false with
        | true => rfl
        | false =>
          have : false ∈ listed.toList := by simp [h2] at e; rw [← e]; simp
          have := List.count_pos_iff.2 this
          omega
    | succ fuel ih =>
      intro listed f w hcnt hz hsh hun hW hDs hR
      by_cases hall : ∀ j, j < m → fs.contains j = false → listed.getD j true = true
      · have hge : ops.length - m ≤ listed.toList.count false := by
          have h1 : (listed.toList.drop m).count false = ops.length - m := by
            have h2 : listed.toList.drop m = List.replicate (ops.length - m) false := by
              apply List.ext_getElem
              · simp [hz]
              · intro j h3 h4
                simp at h3
                have := hun (m + j) (by omega) (by omega)
                have h5 : m + j < listed.size := by omega
                simpa [h5] using this
            rw [h2]; simp
          have h3 := List.take_append_drop m listed.toList
          rw [← h3, List.count_append]
          omega
        exact second (listed.toList.count false - (ops.length - m)) _ listed f w (by omega) (by omega) hz hsh hun hall hW hDs hR
      · obtain ⟨u, hum, huf, hu⟩ : ∃ u, u < m ∧ fs.contains u = false ∧ listed.getD u true = false := by
          rcases Classical.not_forall.1 hall with ⟨u, h⟩
          rcases Classical.not_imp.1 h with ⟨h1, h2⟩
          rcases Classical.not_imp.1 h2 with ⟨h3, h4⟩
          exact ⟨u, h1, h3, by cases e : listed.getD u true with | true => exact absurd e h4 | false => rfl⟩
        have hne : Region.ready .any ops.toArray listed ≠ [] := fun hr => by
          have := all_listed hb hr u (by simp; omega)
          rw [hu] at this; cases this
        refine ⟨fun h0 => absurd h0 hne, fun i hi => ?_⟩
        obtain ⟨h0, o, ho, hdep⟩ := mem_ready.1 hi
        have hoi : ops[i]? = some o := by simpa using ho
        have hilt : i < ops.length := (List.getElem?_eq_some_iff.1 hoi).1
        have him : i < m := by
          rcases Nat.lt_or_ge i m with h | h
          · exact h
          · exfalso
            have h1 := chainB_spec hc hsh hoi h hdep u (by omega) huf
            have h2 : u < listed.size := by omega
            simp [h2] at h1 hu
            rw [h1] at hu; cases hu
        have hot : (ops.take m)[i]? = some o := by rw [List.getElem?_take_of_lt him]; exact hoi
        have hstep := Each.spec (ops.take m) 0 hs i o hot
        rw [Nat.zero_add] at hstep
        have hcount : ((listed.setIfInBounds i true).toList.count false) ≤ fuel := by
          have h1 : listed.toList[i]? = some false := by
            have h' : i < listed.size := by omega
            simp [h'] at h0; simp [h', h0]
          have := count_set _ _ h1
          simp only [Array.toList_setIfInBounds]
          omega
        have hun' : ∀ j, m ≤ j → j < ops.length → (listed.setIfInBounds i true).getD j true = false := fun j h1 h2 => by
          rw [getD_set_ne true (by omega)]; exact hun j h1 h2
        have next : ∀ v w', Mo w w' → Ds sp (upd f i v) w' → spDen W.heap.size (spAt sp i) v w' → wpAny P .any ops.toArray Q fuel (listed.setIfInBounds i true) (putAll (upd f i v) 0 (ops.take m) (fr n l)) w' := fun v w' hmo hds hden => by
          refine ih _ _ w' hcount (by simpa using hz) (hsh.step hoi hdep) hun' (hW.trans hmo) hds (fun j hj hlj => ?_)
          by_cases e : j = i
          · subst e; simpa [upd] using hden
          · rw [getD_set_ne false (Ne.symm e)] at hlj
            have := spMo hmo (hR j hj hlj)
            simpa [upd, e] using this
        have put : ∀ v, fr n (ext (asg f 0 (ops.take m) l) o.dst v) = putAll (upd f i v) 0 (ops.take m) (fr n l) := fun v => by
          have := putAll_put v (ops.take m) 0 f (fr n l) hd i o hot
          rw [Nat.zero_add] at this
          rw [← this, putAll_fr, fr_put]
        refine wpOp_step ho (fun K hK => ?_)
        rw [putAll_fr, fr_wanted]
        have hh := hstep f w hW (fun j hj => by
          obtain ⟨e, he, hb'⟩ := List.any_eq_true.1 hj
          simp only [Bool.and_eq_true] at hb'
          have heon := Nat.eq_of_beq_eq_true hb'.2
          have hj' := hdep e (by simpa using he) hb'.1
          have hlt := edgesBack_spec hb ho e (by simpa using he) hb'.1
          rw [heon] at hj' hlt
          exact hR j (by omega) hj') K
        have hh2 : (bif wnt n (asg f 0 (ops.take m) l) ops.toArray o then o.wp P (fr n (asg f 0 (ops.take m) l)) w K Q else K (fr n (ext (asg f 0 (ops.take m) l) o.dst undef)) w) := by
          refine hh ?_
          cases hsp : spAt sp i with
          | inl v =>
            intro w' hmo
            rw [put]
            exact hK _ _ (next v w' hmo (hDs.other (by rw [hsp]; rfl) hmo.size) (by rw [hsp]; rfl))
          | inr zs =>
            intro k w' hk hz' hmo hat
            rw [put]
            obtain ⟨cs, on⟩ := zs
            cases on with
            | none => exact hK _ _ (next (pt k 0) w' hmo (hDs.fresh hk hz') (by rw [hsp]; exact ⟨k, rfl, by have := hW.size; omega, hat⟩))
            | some q => exact hK _ _ (next (.slice (some ⟨k, 0, none⟩) q q) w' hmo (hDs.other (by rw [hsp]; rfl) hmo.size) (by rw [hsp]; exact ⟨k, rfl, by have := hW.size; omega, hat⟩))
        rw [fr_put]
        cases hw : wnt n (asg f 0 (ops.take m) l) ops.toArray o <;> simp only [hw, cond_true, cond_false] at hh2 ⊢ <;> exact hh2
  have h0 : putAll (slots (fr n l) (ops.take m).toArray) 0 (ops.take m) (fr n l) = fr n l := putAll_self _ _ 0 _ (fun i o ho t ht => by simp only [Nat.zero_add, slots]; rw [show (ops.take m).toArray[i]? = some o by simpa using ho]; simp [ht])
  have := main ops.length (Array.replicate ops.length false) (slots (fr n l) (ops.take m).toArray) W.drew (by simp) (by simp) (Shut.start _ _) (fun j _ hj => by simp [hj]) (Mo.refl _).drew ⟨fun j hj k hk => hD.1 j hj k hk, hD.2⟩ (fun i _ hi => by
    exfalso
    rcases Nat.lt_or_ge i ops.length with h' | h' <;> simp [h'] at hi)
  rw [h0] at this
  simpa using this
/-- What each slot holds behind the first part. -/
def spv (sp : List Sp) (kf : Nat → Nat) (i : Nat) : Value :=
  match spAt sp i with
  | .inl v => v
  | .inr z => nvv z (kf i)
theorem asg_congr {f g : Nat → Value} : ∀ (r : List Oper) (i : Nat) (l : List (Nat × Value)), (∀ j, i ≤ j → j < i + r.length → f j = g j) → asg f i r l = asg g i r l
  | [], _, _, _ => rfl
  | o :: r, i, l, h => by
    unfold asg
    rw [h i (Nat.le_refl _) (by simp)]
    exact asg_congr r (i + 1) _ (fun j h1 h2 => h j (by omega) (by simp; omega))
theorem r_any {id : Nat} {W : World} (m : Nat) (sp : List Sp) (fs : List Nat) (hm : P.follows .mixedOrders = true)
    (hb : edgesBack .any ops.toArray = true) (hd : dstsApart (ops.take m) = true) (hc : chainB ops m fs = true) (hl : Nat.ble m ops.length = true) (hf : floatB ops m fs = true) (hns : Region.noSelect ops.toArray = true)
    (hlate : ∀ i, i ∈ fs → LateO P ops Q n l m sp i)
    (hD : Ds sp (slots (fr n l) (ops.take m).toArray) W)
    (hs : Each (OgE P ops Q n l m W sp) 0 (ops.take m))
    (hend : ∀ kf w, Mo W w → (∀ i zs, Nat.blt i m = true → spAt sp i = .inr zs → W.heap.size ≤ kf i ∧ At w (kf i) zs.1) → (∀ i j, Nat.blt i m = true → Nat.blt j m = true → spNew (spAt sp i) = true → spNew (spAt sp j) = true → i ≠ j → kf i ≠ kf j) →
      wpList P ops.toArray Q (ops.drop m) (fr n (asg (spv sp kf) 0 (ops.take m) l)) w) :
    (Code.region id ops.toArray true).wp P Q (fr n l) W := by
  refine r_draw m sp fs hm hb hd hc hl hf hns hlate hD hs (fun f w hmo hR hDs => ?_)
  have hk : ∃ kf : Nat → Nat, ∀ i zs, i < m → spAt sp i = .inr zs → f i = nvv zs (kf i) ∧ W.heap.size ≤ kf i ∧ At w (kf i) zs.1 := by
    refine ⟨fun i => Classical.epsilon (fun k => ∃ z, spAt sp i = .inr z ∧ f i = nvv z k), fun i zs hi hsp => ?_⟩
    have h1 := hR i (by rw [Nat.blt_eq]; exact hi)
    rw [hsp] at h1
    obtain ⟨k, e, h2, h3⟩ := h1
    have hex : ∃ k, ∃ z, spAt sp i = .inr z ∧ f i = nvv z k := ⟨k, zs, hsp, e⟩
    have hc := Classical.epsilon_spec hex
    obtain ⟨z9, hz9, hc9⟩ := hc
    obtain rfl : zs = z9 := Sum.inr.inj (hsp.symm.trans hz9)
    have : Classical.epsilon (fun k => ∃ z, spAt sp i = .inr z ∧ f i = nvv z k) = k := nvv_inj (hc9.symm.trans e)
    simp only [this]
    exact ⟨e, h2, h3⟩
  obtain ⟨kf, hkf⟩ := hk
  have e : asg f 0 (ops.take m) l = asg (spv sp kf) 0 (ops.take m) l := asg_congr _ 0 l (fun j _ hj => by
    have hjm : j < m := by have := List.length_take_le m ops; omega
    unfold spv
    cases hsp : spAt sp j with
    | inl v =>
      have := hR j (by rw [Nat.blt_eq]; exact hjm)
      rw [hsp] at this
      exact this
    | inr zs => exact (hkf j zs hjm hsp).1)
  rw [e]
  refine hend kf w hmo (fun i zs hi hsp => (hkf i zs (by rw [Nat.blt_eq] at hi; exact hi) hsp).2) (fun i j hi hj hin hjn hne heq => ?_)
  have gi : ∃ zs, spAt sp i = .inr zs := by cases h : spAt sp i with | inl v => rw [h] at hin; cases hin | inr zs => exact ⟨zs, rfl⟩
  have gj : ∃ zs, spAt sp j = .inr zs := by cases h : spAt sp j with | inl v => rw [h] at hjn; cases hjn | inr zs => exact ⟨zs, rfl⟩
  obtain ⟨zi, gi⟩ := gi
  obtain ⟨zj, gj⟩ := gj
  have hi' : i < m := by rw [Nat.blt_eq] at hi; exact hi
  have hj' : j < m := by rw [Nat.blt_eq] at hj; exact hj
  have h1 := (hkf i zi hi' gi).1
  have h2 := (hkf j zj hj' gj).1
  rw [← heq] at h2
  obtain ⟨ci, oi⟩ := zi
  obtain ⟨cj, oj⟩ := zj
  have n1 : oi = none := by have h9 := hin; rw [gi] at h9; cases oi with | none => rfl | some q => cases h9
  have n2 : oj = none := by have h9 := hjn; rw [gj] at h9; cases oj with | none => rfl | some q => cases h9
  subst n1 n2
  exact hDs.2 i j hin hjn hne _ h1 h2
theorem Ds.none {sp : List Sp} {f : Nat → Value} {w : World} (h : sp.all (fun s => !spNew s) = true) : Ds sp f w := by
  have hh : ∀ j, spNew (spAt sp j) = true → False := fun j hj => by
    unfold spAt at hj
    cases e : sp[j]? with
    | none => rw [e] at hj; cases hj
    | some s =>
      rw [e] at hj
      have := List.all_eq_true.1 h s (List.mem_of_getElem? e)
      simp at this
      simp [this] at hj
  exact ⟨fun j hj => (hh j hj).elim, fun i j hi => (hh i hi).elim⟩
theorem Ds.undef {sp : List Sp} {f : Nat → Value} {w : World} (h : ∀ j, j < sp.length → spNew (spAt sp j) = true → f j = undef) : Ds sp f w := by
  have hh : ∀ j, spNew (spAt sp j) = true → ∀ k, f j ≠ pt k 0 := fun j hj k e => by
    rcases Nat.lt_or_ge j sp.length with hl | hl
    · rw [h j hl hj] at e; cases e
    · unfold spAt at hj; rw [List.getElem?_eq_none hl] at hj; cases hj
  exact ⟨fun j hj k hk => (hh j hj k hk).elim, fun i j hi _ _ k hk => (hh i hi k hk).elim⟩
theorem ct {b : Bool} {A B : Prop} (h : b = true) (a : A) : (bif b then A else B) := by subst h; exact a
theorem cf {b : Bool} {A B : Prop} (h : b = false) (a : B) : (bif b then A else B) := by subst h; exact a
theorem wnt_g {ops : Array Oper} {o : Oper} {j d : Nat} {want b r : Bool} (hg : o.guard = some (j, want)) (hd : (ops[j]?).bind (·.dst) = some d) (hn : Nat.blt d n = true) (hv : look l d = .bool b) (hr : (b == want) = r) : wnt n l ops o = r := by
  unfold wnt
  simp only [hg, hd, hn, cond_true, hv]
  subst hr
  cases b <;> cases want <;> rfl
theorem n_then {Q : Exit → Act → World → Prop} {next : Act → World → Prop} {a : Act} {w : World} (h : next a w) : Exit.then next Q .normal a w := h
theorem n_blk {Q : Exit → Act → World → Prop} {id : Nat} {a : Act} {w : World} (h : Q .normal a w) : Exit.inBlock id Q .normal a w := h
theorem x_then {Q : Exit → Act → World → Prop} {next : Act → World → Prop} {id : Nat} {a : Act} {w : World} (h : Q (.exit id) a w) : Exit.then next Q (.exit id) a w := h
theorem x_blk {Q : Exit → Act → World → Prop} {id : Nat} {a : Act} {w : World} (h : Q .normal a w) : Exit.inBlock id Q (.exit id) a w := by simp only [Exit.inBlock, if_true]; exact h
theorem x_out {Q : Exit → Act → World → Prop} {id i : Nat} {a : Act} {w : World} (hne : Nat.beq i id = false) (h : Q (.exit i) a w) : Exit.inBlock id Q (.exit i) a w := by
  simp only [Exit.inBlock]
  rw [if_neg (fun e => by subst e; simp at hne)]
  exact h
theorem r_then {Q : Exit → Act → World → Prop} {next : Act → World → Prop} {a : Act} {w : World} (h : Q .ret a w) : Exit.then next Q .ret a w := h
theorem r_blk {Q : Exit → Act → World → Prop} {id : Nat} {a : Act} {w : World} (h : Q .ret a w) : Exit.inBlock id Q .ret a w := h
end
section
variable {P : Program} {o : Oper} {n : Nat} {l : List (Nat × Value)} {w : World} {ops : Array Oper} {rest : List Oper} {Q : Exit → Act → World → Prop} {K : Act → World → Prop}
structure OgW (P : Program) (ops : List Oper) (Q : Exit → Act → World → Prop) (n : Nat) (l : List (Nat × Value)) (m : Nat) (W : World) (sp : List Sp) (i : Nat) (o : Oper) : Prop where
  out : ∀ f w, Mo W w → (∀ j, depb o j = true → spDen W.heap.size (spAt sp j) (f j) w) → ∀ K : Act → World → Prop,
    (match spAt sp i with
      | .inl v => ∀ w', Mo w w' → K (fr n (ext (asg f 0 (ops.take m) l) o.dst v)) w'
      | .inr zs => ∀ k w', w.heap.size = k → w'.heap.size = k + 1 → Mo w w' → At w' k zs.1 → K (fr n (ext (asg f 0 (ops.take m) l) o.dst (nvv zs k))) w') →
    Go1 P ops Q n (asg f 0 (ops.take m) l) w K o
theorem og_eq {ol : List Oper} {m : Nat} {W : World} {sp : List Sp} {i : Nat} (v : Value) (hs : spAt sp i = .inl v)
    (h : ∀ f w, Mo W w → (∀ j, depb o j = true → spDen W.heap.size (spAt sp j) (f j) w) → ∀ K : Act → World → Prop, (∀ w', Mo w w' → K (fr n (ext (asg f 0 (ol.take m) l) o.dst v)) w') → Go1 P ol Q n (asg f 0 (ol.take m) l) w K o) : OgW P ol Q n l m W sp i o :=
  ⟨fun f w hm hd K hK => h f w hm hd K (by rw [hs] at hK; exact hK)⟩
theorem og_new {ol : List Oper} {m : Nat} {W : World} {sp : List Sp} {i : Nat} (zs : List Value × Option Nat) (hs : spAt sp i = .inr zs)
    (h : ∀ f w, Mo W w → (∀ j, depb o j = true → spDen W.heap.size (spAt sp j) (f j) w) → ∀ K : Act → World → Prop, (∀ k w', w.heap.size = k → w'.heap.size = k + 1 → Mo w w' → At w' k zs.1 → K (fr n (ext (asg f 0 (ol.take m) l) o.dst (nvv zs k))) w') → Go1 P ol Q n (asg f 0 (ol.take m) l) w K o) : OgW P ol Q n l m W sp i o :=
  ⟨fun f w hm hd K hK => h f w hm hd K (by rw [hs] at hK; exact hK)⟩
/-- Something of each operation, with its number. -/
theorem ea_nil {F : Nat → Oper → Prop} {i : Nat} : Each F i [] := trivial
theorem ea_cons {F : Nat → Oper → Prop} {i : Nat} {o : Oper} {r : List Oper} (h : F i o) (k : Each F (i + 1) r) : Each F i (o :: r) := ⟨h, k⟩
/-- What lies in the slots, by the list. -/
def slo (n : Nat) (l : List (Nat × Value)) (ops : List Oper) (i : Nat) : Value :=
  match (ops[i]?).bind (·.dst) with
  | some d => bif Nat.blt d n then look l d else undef
  | none => undef
theorem slo_eq (ops : List Oper) : slots (fr n l) ops.toArray = slo n l ops := by
  funext i
  unfold slots slo
  simp only [List.getElem?_toArray]
  cases (ops[i]?).bind (·.dst) with
  | none => rfl
  | some d => exact fr_getD n l d
def isPt : Value → Bool
  | .pointer (some _) => true
  | _ => false
theorem Ds.start {sp : List Sp} {f : Nat → Value} (h : (List.range sp.length).all (fun j => !spNew (spAt sp j) || !isPt (f j)) = true) : Ds sp f w := by
  have hh : ∀ j, spNew (spAt sp j) = true → ∀ k, f j ≠ pt k 0 := fun j hj k e => by
    rcases Nat.lt_or_ge j sp.length with hl | hl
    · have := List.all_eq_true.1 h j (List.mem_range.2 hl)
      simp [hj, e, isPt] at this
    · unfold spAt at hj; rw [List.getElem?_eq_none hl] at hj; cases hj
  exact ⟨fun j hj k hk => (hh j hj k hk).elim, fun i j hi _ _ k hk => (hh i hi k hk).elim⟩
theorem la_mv (x : Operand) (p : Value) (ho : ∀ ρ, execOp ρ o = pure (.value (ρ x))) (hx : evl n l x = p) : ∀ w, (execOp (evl n l) o).run P w = .ok (.value p) w := fun w => by rw [ho, hx]; rfl
theorem la_un (F : Value → Sem Value) (x : Operand) (p v : Value) (ho : ∀ ρ, execOp ρ o = (do pure (.value (← F (ρ x))))) (hx : evl n l x = p) (h : ∀ w, (F p).run P w = .ok v w) : ∀ w, (execOp (evl n l) o).run P w = .ok (.value v) w := fun w => by
  rw [ho, hx]; simp [h]
theorem late_nil {ol : List Oper} {m : Nat} {sp : List Sp} : ∀ i, i ∈ ([] : List Nat) → LateO P ol Q n l m sp i := fun i h => absurd h (by simp)
theorem late_cons {ol : List Oper} {m : Nat} {sp : List Sp} {j : Nat} {r : List Nat} (h : LateO P ol Q n l m sp j) (k : ∀ i, i ∈ r → LateO P ol Q n l m sp i) : ∀ i, i ∈ j :: r → LateO P ol Q n l m sp i := fun i hi => by
  rcases List.mem_cons.1 hi with rfl | hi
  · exact h
  · exact k i hi
theorem w_any {id : Nat} {ol : List Oper} (m : Nat) (sp : List Sp) (fs : List Nat) (hm : P.follows .mixedOrders = true)
    (hb : edgesBack .any ol.toArray = true) (hd : dstsApart (ol.take m) = true) (hc : chainB ol m fs = true) (hl : Nat.ble m ol.length = true) (hf : floatB ol m fs = true) (hns : Region.noSelect ol.toArray = true)
    (hlate : ∀ i, i ∈ fs → LateO P ol Q n l m sp i)
    (hD : Ds sp (slo n l (ol.take m)) w)
    (hs : Each (OgW P ol Q n l m w sp) 0 (ol.take m))
    (hend : ∀ kf w', Mo w w' → (∀ i zs, Nat.blt i m = true → spAt sp i = .inr zs → w.heap.size ≤ kf i ∧ At w' (kf i) zs.1) → (∀ i j, Nat.blt i m = true → Nat.blt j m = true → spNew (spAt sp i) = true → spNew (spAt sp j) = true → i ≠ j → kf i ≠ kf j) →
      WL P ol.toArray Q (ol.drop m) n (asg (spv sp kf) 0 (ol.take m) l) w') : WC P (Code.region id ol.toArray true) Q n l w := by
  refine ⟨r_any m sp fs hm hb hd hc hl hf hns hlate (by rw [slo_eq]; exact hD) (Each.mono ?_ _ 0 hs) (fun kf w' a b c => (hend kf w' a b c).out)⟩
  intro i o h f w' hmo hdep K hK
  rcases (h.out f w' hmo hdep K hK).out with ⟨hg, h⟩ | ⟨hg, h⟩
  · exact ct hg h.out
  · exact cf hg h
end
end Go.Proofs.Ythpekbohmfmffaa.X
/-
  Value; live: summaries that the document fixes.
-/
namespace Go.Proofs.Ythpekbohmfmffaa
open Go.RowKit
section
variable {P : Program} {o : Oper} {n : Nat} {l : List (Nat × Value)} {w : World} {Q : Exit → Act → World → Prop} {K : Act → World → Prop}
theorem wo_bs36 (xs : List (Nat × Operand)) (vs : List Value) (m : Nat) (cs : Array Value) (ho : o.op = .buildSlice 36 m xs.toArray) (hx : (xs.map fun p => (p.1, evl n l p.2)) = (List.range m).zip vs)
    (h : ∀ w, (Instr.buildSlice 36 m ((List.range m).zip vs).toArray).run P w = .ok (.slice (some ⟨w.heap.size, 0, none⟩) m m) (w.alloc (.cells cs 33)))
    (hk : ∀ k w', w.heap.size = k → w'.heap.size = k + 1 → Mo w w' → At w' k cs.toList → K (fr n (ext l o.dst (.slice (some ⟨k, 0, none⟩) m m))) w') : WO P o n l w K Q :=
  ⟨o_val (.slice (some ⟨w.heap.size, 0, none⟩) m m) (w' := w.alloc (.cells cs 33)) (by
    simp only [execOp, ho]
    rw [show (xs.toArray.map fun p => (p.1, evl n l p.2)) = ((List.range m).zip vs).toArray by rw [List.map_toArray, hx]]
    simp [h]) (hk _ _ rfl (by simp) ((Mo.refl _).alloc _ _) (At.new w cs 33))⟩
end
def LA : Sm := ⟨1, 1, 0, 0, 0, sv false 250, true, ⟨false, 250, 2⟩, ⟨false, 250, 2⟩⟩
def LB : Sm := ⟨1, 1, 0, 0, 0, sv true 100, true, ⟨true, 100, 2⟩, ⟨true, 100, 2⟩⟩
def LC : Sm := ⟨1, 0, 1, 0, 0, 0, false, d0, d0⟩
def LJ : Sm := [LA, LB, LC].foldl jn sm0
theorem bs_live (w : World) : (Instr.buildSlice 36 3 ((List.range 3).zip [smv LA, smv LB, smv LC]).toArray).run Try.prog w = .ok (.slice (some ⟨w.heap.size, 0, none⟩) 3 3) (w.alloc (.cells (sml LA ++ sml LB ++ sml LC).toArray 33)) := by kernel_rfl
theorem la_ok : LA.ok := ⟨⟨by decide, by unfold LA MM; decide⟩, ⟨by decide, by unfold LA MM; decide⟩⟩
theorem lb_ok : LB.ok := ⟨⟨by decide, by unfold LB MM; decide⟩, ⟨by decide, by unfold LB MM; decide⟩⟩
theorem lc_ok : LC.ok := sm0_ok
theorem live_ok : ∀ T ∈ [LA, LB, LC], T.ok := by
  intro T hT
  simp only [List.mem_cons, List.not_mem_nil, or_false] at hT
  rcases hT with rfl | rfl | rfl
  · exact la_ok
  · exact lb_ok
  · exact lc_ok
theorem live_ss {w : World} {k : Nat} (h : At w k (sml LA ++ sml LB ++ sml LC)) : SS w (some ⟨k, 0, none⟩) [LA, LB, LC] := by
  intro i S e
  refine ⟨k, 0, rfl, h.lt, fun j v hv => ?_⟩
  have hj : j < 23 := by have := (List.getElem?_eq_some_iff.1 hv).1; simpa [sml] using this
  have hi : i = 0 ∨ i = 1 ∨ i = 2 := by have := (List.getElem?_eq_some_iff.1 e).1; simp at this; omega
  rw [Nat.zero_add]
  rcases hi with rfl | rfl | rfl
  · cases e
    refine h.cell ?_
    rw [List.append_assoc, List.getElem?_append_left (by show _ < 23; omega), Nat.zero_mul, Nat.zero_add]; exact hv
  · cases e
    refine h.cell ?_
    rw [List.append_assoc, List.getElem?_append_right (by show 23 ≤ _; omega), List.getElem?_append_left (by show _ - 23 < 23; omega), show 1 * 23 + j - (sml LA).length = j from by show 1 * 23 + j - 23 = j; omega]; exact hv
  · cases e
    refine h.cell ?_
    rw [List.getElem?_append_right (by show 46 ≤ _; omega), show 2 * 23 + j - (sml LA ++ sml LB).length = j from by show 2 * 23 + j - 46 = j; omega]; exact hv
theorem nrw150 : nrw LJ.tt 2 = .tuple #[dc false 150 2, .int .i64 0] := by
  rw [show LJ.tt = 150 from rfl]
  unfold nrw
  rw [if_neg (by decide), if_neg (by unfold l4; decide), if_pos (by unfold l4; decide)]
section
variable {w : World}
theorem val_12 (S : Sm) (sc9 : Int) (rK : Int) (rb : Bool) (rn rs : Int) (rf : Bool) (rt : ByteArray) (re : Int) (hO : ∀ w, Calls Try.prog 33 #[.int .i64 12, smv S, .int .i64 sc9] w fun e w' => e = .returned (vl10 rK rb rn rs rf rt re) ∧ Mo w w') : Calls Try.prog 16 #[.int .i64 12, smv S, .int .i64 sc9] w fun e w' => e = .returned (vl10 rK rb rn rs rf rt re) ∧ Mo w w' := by
  refine w_enter 27 Try.func16 Try.ntmps16 rfl rfl ?_
  have M : Mo w w := Mo.refl _
  refine w_seq ?_
  refine w_reg ?_
  refine wl_box 33 (.tmp 1) (.agg #[.int .i64 (S.r), .int .i64 (S.f), .int .i64 (S.k), .int .i64 (S.d), .int .i64 (S.e), .int .u64 (l0 (S.tt)), .int .u64 (l1 (S.tt)), .int .u64 (l2 (S.tt)), .int .u64 (l3 (S.tt)), .int .u64 (l4 (S.tt)), .bool S.so, .bool S.mn.b, .int .u64 (l0 (S.mn.n)), .int .u64 (l1 (S.mn.n)), .int .u64 (l2 (S.mn.n)), .int .u64 (l3 (S.mn.n)), .int .i64 (S.mn.s), .bool S.mx.b, .int .u64 (l0 (S.mx.n)), .int .u64 (l1 (S.mx.n)), .int .u64 (l2 (S.mx.n)), .int .u64 (l3 (S.mx.n)), .int .i64 (S.mx.s)]) (#[.int .i64 (S.r), .int .i64 (S.f), .int .i64 (S.k), .int .i64 (S.d), .int .i64 (S.e), .int .u64 (l0 (S.tt)), .int .u64 (l1 (S.tt)), .int .u64 (l2 (S.tt)), .int .u64 (l3 (S.tt)), .int .u64 (l4 (S.tt)), .bool S.so, .bool S.mn.b, .int .u64 (l0 (S.mn.n)), .int .u64 (l1 (S.mn.n)), .int .u64 (l2 (S.mn.n)), .int .u64 (l3 (S.mn.n)), .int .i64 (S.mn.s), .bool S.mx.b, .int .u64 (l0 (S.mx.n)), .int .u64 (l1 (S.mx.n)), .int .u64 (l2 (S.mx.n)), .int .u64 (l3 (S.mx.n)), .int .i64 (S.mx.s)]) rfl rfl (fun _ => by kernel_rfl) rfl ?_
  intro k1 w1 hk hz hq Q1
  have N_k1 : w.heap.size ≤ k1 := by have := M.size; omega
  replace M := M.trans hq
  clear hk hz hq
  refine wl_alloc 28 #[.int .i64 0, .bool false, .int .u64 0, .int .u64 0, .int .u64 0, .int .u64 0, .int .i64 0, .bool false, .string ⟨#[]⟩, .int .i64 0] rfl (fun _ => by kernel_rfl) rfl ?_
  intro k2 w2 hk hz hq Q2
  have ne_k1_k2 : k1 ≠ k2 := by have := Q1.lt; omega
  have N_k2 : w.heap.size ≤ k2 := by have := M.size; omega
  replace Q1 := Q1.mo hq
  replace M := M.trans hq
  clear hk hz hq
  refine w_nil ?_
  refine xn_then ?_
  refine w_seq ?_
  refine w_seq ?_
  refine w_reg ?_
  refine wl_mv (.tmp 0) (.int .i64 (12)) (fun _ => rfl) rfl rfl ?_
  refine w_nil ?_
  refine xn_then ?_
  refine w_block ?_
  refine w_seq ?_
  refine w_reg ?_
  refine wl_bin (fun x y => do eqGuard .eql 3 (.tmp 7) (.const (.int .i64 (16))) x y; binOp .eql 3 x y) (.tmp 7) (.const (.int .i64 (16))) (.int .i64 (12)) (.int .i64 (16)) (.bool false) (fun _ => rfl) rfl rfl (by kernel_rfl) rfl ?_
  refine wl_mv (.tmp 9) (.bool false) (fun _ => rfl) rfl rfl ?_
  refine w_nil ?_
  refine xn_then ?_
  refine w_condF rfl ?_
  refine w_seq ?_
  refine w_reg ?_
  refine wl_bin (fun x y => do eqGuard .eql 3 (.tmp 7) (.const (.int .i64 (13))) x y; binOp .eql 3 x y) (.tmp 7) (.const (.int .i64 (13))) (.int .i64 (12)) (.int .i64 (13)) (.bool false) (fun _ => rfl) rfl rfl (by kernel_rfl) rfl ?_
  refine wl_mv (.tmp 14) (.bool false) (fun _ => rfl) rfl rfl ?_
  refine w_nil ?_
  refine xn_then ?_
  refine w_condF rfl ?_
  refine w_seq ?_
  refine w_seq ?_
  refine w_reg ?_
  refine wl_bin (fun x y => do eqGuard .eql 3 (.tmp 7) (.const (.int .i64 (12))) x y; binOp .eql 3 x y) (.tmp 7) (.const (.int .i64 (12))) (.int .i64 (12)) (.int .i64 (12)) (.bool true) (fun _ => rfl) rfl rfl (by kernel_rfl) rfl ?_
  refine wl_mv (.tmp 19) (.bool true) (fun _ => rfl) rfl rfl ?_
  refine w_nil ?_
  refine xn_then ?_
  refine w_condT rfl ?_
  refine w_skip ?_
  refine xn_then ?_
  refine w_condT rfl ?_
  refine w_seq ?_
  refine w_reg ?_
  refine wl_mv (.tmp 0) (.int .i64 (12)) (fun _ => rfl) rfl rfl ?_
  refine wl_load 33 (.tmp 4) (pt k1 0) (.agg #[.int .i64 (S.r), .int .i64 (S.f), .int .i64 (S.k), .int .i64 (S.d), .int .i64 (S.e), .int .u64 (l0 (S.tt)), .int .u64 (l1 (S.tt)), .int .u64 (l2 (S.tt)), .int .u64 (l3 (S.tt)), .int .u64 (l4 (S.tt)), .bool S.so, .bool S.mn.b, .int .u64 (l0 (S.mn.n)), .int .u64 (l1 (S.mn.n)), .int .u64 (l2 (S.mn.n)), .int .u64 (l3 (S.mn.n)), .int .i64 (S.mn.s), .bool S.mx.b, .int .u64 (l0 (S.mx.n)), .int .u64 (l1 (S.mx.n)), .int .u64 (l2 (S.mx.n)), .int .u64 (l3 (S.mx.n)), .int .i64 (S.mx.s)]) rfl rfl (run_row Q1 33 0 23 [.int .i64 (S.r), .int .i64 (S.f), .int .i64 (S.k), .int .i64 (S.d), .int .i64 (S.e), .int .u64 (l0 (S.tt)), .int .u64 (l1 (S.tt)), .int .u64 (l2 (S.tt)), .int .u64 (l3 (S.tt)), .int .u64 (l4 (S.tt)), .bool S.so, .bool S.mn.b, .int .u64 (l0 (S.mn.n)), .int .u64 (l1 (S.mn.n)), .int .u64 (l2 (S.mn.n)), .int .u64 (l3 (S.mn.n)), .int .i64 (S.mn.s), .bool S.mx.b, .int .u64 (l0 (S.mx.n)), .int .u64 (l1 (S.mx.n)), .int .u64 (l2 (S.mx.n)), .int .u64 (l3 (S.mx.n)), .int .i64 (S.mx.s)] rfl Try.underlying33 rfl sz33) rfl ?_
  refine wl_mv (.tmp 2) (.int .i64 (sc9)) (fun _ => rfl) rfl rfl ?_
  refine wl_call 33 [(.tmp 22), (.tmp 23), (.tmp 24)] _ [.int .i64 (12), .agg #[.int .i64 (S.r), .int .i64 (S.f), .int .i64 (S.k), .int .i64 (S.d), .int .i64 (S.e), .int .u64 (l0 (S.tt)), .int .u64 (l1 (S.tt)), .int .u64 (l2 (S.tt)), .int .u64 (l3 (S.tt)), .int .u64 (l4 (S.tt)), .bool S.so, .bool S.mn.b, .int .u64 (l0 (S.mn.n)), .int .u64 (l1 (S.mn.n)), .int .u64 (l2 (S.mn.n)), .int .u64 (l3 (S.mn.n)), .int .i64 (S.mn.s), .bool S.mx.b, .int .u64 (l0 (S.mx.n)), .int .u64 (l1 (S.mx.n)), .int .u64 (l2 (S.mx.n)), .int .u64 (l3 (S.mx.n)), .int .i64 (S.mx.s)], .int .i64 (sc9)] (.agg #[.int .i64 (rK), .bool rb, .int .u64 (l0 (rn)), .int .u64 (l1 (rn)), .int .u64 (l2 (rn)), .int .u64 (l3 (rn)), .int .i64 (rs), .bool rf, .string rt, .int .i64 (re)]) rfl rfl (fun _ _ => by kernel_rfl) (hO _) rfl ?_
  intro w3 hq
  replace Q1 := Q1.mo hq
  replace Q2 := Q2.mo hq
  replace M := M.trans hq
  clear hq
  refine wl_st 28 (.tmp 6) (.tmp 25) k2 0 #[.int .i64 (rK), .bool rb, .int .u64 (l0 (rn)), .int .u64 (l1 (rn)), .int .u64 (l2 (rn)), .int .u64 (l3 (rn)), .int .i64 (rs), .bool rf, .string rt, .int .i64 (re)] [.int .i64 0, .bool false, .int .u64 0, .int .u64 0, .int .u64 0, .int .u64 0, .int .i64 0, .bool false, .string ⟨#[]⟩, .int .i64 0] [.int .i64 (rK), .bool rb, .int .u64 (l0 (rn)), .int .u64 (l1 (rn)), .int .u64 (l2 (rn)), .int .u64 (l3 (rn)), .int .i64 (rs), .bool rf, .string rt, .int .i64 (re)] Q2 rfl rfl rfl rfl rfl sz28 rfl rfl rfl ?_
  intro w4 hS Qn
  replace Q2 := Qn
  clear Qn
  replace Q1 := hS.other _ _ ne_k1_k2 Q1
  replace M := hS.mo _ N_k2 M
  clear hS
  refine w_nil ?_
  refine xn_then ?_
  refine w_ret ?_
  refine xr_blk ?_
  refine xr_then ?_
  exact w_ret1 _ (.agg #[.int .i64 (rK), .bool rb, .int .u64 (l0 (rn)), .int .u64 (l1 (rn)), .int .u64 (l2 (rn)), .int .u64 (l3 (rn)), .int .i64 (rs), .bool rf, .string rt, .int .i64 (re)]) rfl ⟨k2, rfl, (run_row Q2 28 0 10 [.int .i64 (rK), .bool rb, .int .u64 (l0 (rn)), .int .u64 (l1 (rn)), .int .u64 (l2 (rn)), .int .u64 (l3 (rn)), .int .i64 (rs), .bool rf, .string rt, .int .i64 (re)] rfl Try.underlying28 rfl sz28)⟩ ⟨rfl, M⟩
theorem val_14 (S : Sm) (sc9 : Int) (rK : Int) (rb : Bool) (rn rs : Int) (rf : Bool) (rt : ByteArray) (re : Int) (hO : ∀ w, Calls Try.prog 33 #[.int .i64 14, smv S, .int .i64 sc9] w fun e w' => e = .returned (vl10 rK rb rn rs rf rt re) ∧ Mo w w') : Calls Try.prog 16 #[.int .i64 14, smv S, .int .i64 sc9] w fun e w' => e = .returned (vl10 rK rb rn rs rf rt re) ∧ Mo w w' := by
  refine w_enter 27 Try.func16 Try.ntmps16 rfl rfl ?_
  have M : Mo w w := Mo.refl _
  refine w_seq ?_
  refine w_reg ?_
  refine wl_box 33 (.tmp 1) (.agg #[.int .i64 (S.r), .int .i64 (S.f), .int .i64 (S.k), .int .i64 (S.d), .int .i64 (S.e), .int .u64 (l0 (S.tt)), .int .u64 (l1 (S.tt)), .int .u64 (l2 (S.tt)), .int .u64 (l3 (S.tt)), .int .u64 (l4 (S.tt)), .bool S.so, .bool S.mn.b, .int .u64 (l0 (S.mn.n)), .int .u64 (l1 (S.mn.n)), .int .u64 (l2 (S.mn.n)), .int .u64 (l3 (S.mn.n)), .int .i64 (S.mn.s), .bool S.mx.b, .int .u64 (l0 (S.mx.n)), .int .u64 (l1 (S.mx.n)), .int .u64 (l2 (S.mx.n)), .int .u64 (l3 (S.mx.n)), .int .i64 (S.mx.s)]) (#[.int .i64 (S.r), .int .i64 (S.f), .int .i64 (S.k), .int .i64 (S.d), .int .i64 (S.e), .int .u64 (l0 (S.tt)), .int .u64 (l1 (S.tt)), .int .u64 (l2 (S.tt)), .int .u64 (l3 (S.tt)), .int .u64 (l4 (S.tt)), .bool S.so, .bool S.mn.b, .int .u64 (l0 (S.mn.n)), .int .u64 (l1 (S.mn.n)), .int .u64 (l2 (S.mn.n)), .int .u64 (l3 (S.mn.n)), .int .i64 (S.mn.s), .bool S.mx.b, .int .u64 (l0 (S.mx.n)), .int .u64 (l1 (S.mx.n)), .int .u64 (l2 (S.mx.n)), .int .u64 (l3 (S.mx.n)), .int .i64 (S.mx.s)]) rfl rfl (fun _ => by kernel_rfl) rfl ?_
  intro k1 w1 hk hz hq Q1
  have N_k1 : w.heap.size ≤ k1 := by have := M.size; omega
  replace M := M.trans hq
  clear hk hz hq
  refine wl_alloc 28 #[.int .i64 0, .bool false, .int .u64 0, .int .u64 0, .int .u64 0, .int .u64 0, .int .i64 0, .bool false, .string ⟨#[]⟩, .int .i64 0] rfl (fun _ => by kernel_rfl) rfl ?_
  intro k2 w2 hk hz hq Q2
  have ne_k1_k2 : k1 ≠ k2 := by have := Q1.lt; omega
  have N_k2 : w.heap.size ≤ k2 := by have := M.size; omega
  replace Q1 := Q1.mo hq
  replace M := M.trans hq
  clear hk hz hq
  refine w_nil ?_
  refine xn_then ?_
  refine w_seq ?_
  refine w_seq ?_
  refine w_reg ?_
  refine wl_mv (.tmp 0) (.int .i64 (14)) (fun _ => rfl) rfl rfl ?_
  refine w_nil ?_
  refine xn_then ?_
  refine w_block ?_
  refine w_seq ?_
  refine w_reg ?_
  refine wl_bin (fun x y => do eqGuard .eql 3 (.tmp 7) (.const (.int .i64 (16))) x y; binOp .eql 3 x y) (.tmp 7) (.const (.int .i64 (16))) (.int .i64 (14)) (.int .i64 (16)) (.bool false) (fun _ => rfl) rfl rfl (by kernel_rfl) rfl ?_
  refine wl_mv (.tmp 9) (.bool false) (fun _ => rfl) rfl rfl ?_
  refine w_nil ?_
  refine xn_then ?_
  refine w_condF rfl ?_
  refine w_seq ?_
  refine w_reg ?_
  refine wl_bin (fun x y => do eqGuard .eql 3 (.tmp 7) (.const (.int .i64 (13))) x y; binOp .eql 3 x y) (.tmp 7) (.const (.int .i64 (13))) (.int .i64 (14)) (.int .i64 (13)) (.bool false) (fun _ => rfl) rfl rfl (by kernel_rfl) rfl ?_
  refine wl_mv (.tmp 14) (.bool false) (fun _ => rfl) rfl rfl ?_
  refine w_nil ?_
  refine xn_then ?_
  refine w_condF rfl ?_
  refine w_seq ?_
  refine w_seq ?_
  refine w_reg ?_
  refine wl_bin (fun x y => do eqGuard .eql 3 (.tmp 7) (.const (.int .i64 (12))) x y; binOp .eql 3 x y) (.tmp 7) (.const (.int .i64 (12))) (.int .i64 (14)) (.int .i64 (12)) (.bool false) (fun _ => rfl) rfl rfl (by kernel_rfl) rfl ?_
  refine wl_mv (.tmp 19) (.bool false) (fun _ => rfl) rfl rfl ?_
  refine w_nil ?_
  refine xn_then ?_
  refine w_condF rfl ?_
  refine w_seq ?_
  refine w_reg ?_
  refine wl_bin (fun x y => do eqGuard .eql 3 (.tmp 7) (.const (.int .i64 (14))) x y; binOp .eql 3 x y) (.tmp 7) (.const (.int .i64 (14))) (.int .i64 (14)) (.int .i64 (14)) (.bool true) (fun _ => rfl) rfl rfl (by kernel_rfl) rfl ?_
  refine wl_mv (.tmp 20) (.bool true) (fun _ => rfl) rfl rfl ?_
  refine w_nil ?_
  refine xn_then ?_
  refine w_condT rfl ?_
  refine w_skip ?_
  refine xn_then ?_
  refine w_condT rfl ?_
  refine w_seq ?_
  refine w_reg ?_
  refine wl_mv (.tmp 0) (.int .i64 (14)) (fun _ => rfl) rfl rfl ?_
  refine wl_load 33 (.tmp 4) (pt k1 0) (.agg #[.int .i64 (S.r), .int .i64 (S.f), .int .i64 (S.k), .int .i64 (S.d), .int .i64 (S.e), .int .u64 (l0 (S.tt)), .int .u64 (l1 (S.tt)), .int .u64 (l2 (S.tt)), .int .u64 (l3 (S.tt)), .int .u64 (l4 (S.tt)), .bool S.so, .bool S.mn.b, .int .u64 (l0 (S.mn.n)), .int .u64 (l1 (S.mn.n)), .int .u64 (l2 (S.mn.n)), .int .u64 (l3 (S.mn.n)), .int .i64 (S.mn.s), .bool S.mx.b, .int .u64 (l0 (S.mx.n)), .int .u64 (l1 (S.mx.n)), .int .u64 (l2 (S.mx.n)), .int .u64 (l3 (S.mx.n)), .int .i64 (S.mx.s)]) rfl rfl (run_row Q1 33 0 23 [.int .i64 (S.r), .int .i64 (S.f), .int .i64 (S.k), .int .i64 (S.d), .int .i64 (S.e), .int .u64 (l0 (S.tt)), .int .u64 (l1 (S.tt)), .int .u64 (l2 (S.tt)), .int .u64 (l3 (S.tt)), .int .u64 (l4 (S.tt)), .bool S.so, .bool S.mn.b, .int .u64 (l0 (S.mn.n)), .int .u64 (l1 (S.mn.n)), .int .u64 (l2 (S.mn.n)), .int .u64 (l3 (S.mn.n)), .int .i64 (S.mn.s), .bool S.mx.b, .int .u64 (l0 (S.mx.n)), .int .u64 (l1 (S.mx.n)), .int .u64 (l2 (S.mx.n)), .int .u64 (l3 (S.mx.n)), .int .i64 (S.mx.s)] rfl Try.underlying33 rfl sz33) rfl ?_
  refine wl_mv (.tmp 2) (.int .i64 (sc9)) (fun _ => rfl) rfl rfl ?_
  refine wl_call 33 [(.tmp 22), (.tmp 23), (.tmp 24)] _ [.int .i64 (14), .agg #[.int .i64 (S.r), .int .i64 (S.f), .int .i64 (S.k), .int .i64 (S.d), .int .i64 (S.e), .int .u64 (l0 (S.tt)), .int .u64 (l1 (S.tt)), .int .u64 (l2 (S.tt)), .int .u64 (l3 (S.tt)), .int .u64 (l4 (S.tt)), .bool S.so, .bool S.mn.b, .int .u64 (l0 (S.mn.n)), .int .u64 (l1 (S.mn.n)), .int .u64 (l2 (S.mn.n)), .int .u64 (l3 (S.mn.n)), .int .i64 (S.mn.s), .bool S.mx.b, .int .u64 (l0 (S.mx.n)), .int .u64 (l1 (S.mx.n)), .int .u64 (l2 (S.mx.n)), .int .u64 (l3 (S.mx.n)), .int .i64 (S.mx.s)], .int .i64 (sc9)] (.agg #[.int .i64 (rK), .bool rb, .int .u64 (l0 (rn)), .int .u64 (l1 (rn)), .int .u64 (l2 (rn)), .int .u64 (l3 (rn)), .int .i64 (rs), .bool rf, .string rt, .int .i64 (re)]) rfl rfl (fun _ _ => by kernel_rfl) (hO _) rfl ?_
  intro w3 hq
  replace Q1 := Q1.mo hq
  replace Q2 := Q2.mo hq
  replace M := M.trans hq
  clear hq
  refine wl_st 28 (.tmp 6) (.tmp 25) k2 0 #[.int .i64 (rK), .bool rb, .int .u64 (l0 (rn)), .int .u64 (l1 (rn)), .int .u64 (l2 (rn)), .int .u64 (l3 (rn)), .int .i64 (rs), .bool rf, .string rt, .int .i64 (re)] [.int .i64 0, .bool false, .int .u64 0, .int .u64 0, .int .u64 0, .int .u64 0, .int .i64 0, .bool false, .string ⟨#[]⟩, .int .i64 0] [.int .i64 (rK), .bool rb, .int .u64 (l0 (rn)), .int .u64 (l1 (rn)), .int .u64 (l2 (rn)), .int .u64 (l3 (rn)), .int .i64 (rs), .bool rf, .string rt, .int .i64 (re)] Q2 rfl rfl rfl rfl rfl sz28 rfl rfl rfl ?_
  intro w4 hS Qn
  replace Q2 := Qn
  clear Qn
  replace Q1 := hS.other _ _ ne_k1_k2 Q1
  replace M := hS.mo _ N_k2 M
  clear hS
  refine w_nil ?_
  refine xn_then ?_
  refine w_ret ?_
  refine xr_blk ?_
  refine xr_then ?_
  exact w_ret1 _ (.agg #[.int .i64 (rK), .bool rb, .int .u64 (l0 (rn)), .int .u64 (l1 (rn)), .int .u64 (l2 (rn)), .int .u64 (l3 (rn)), .int .i64 (rs), .bool rf, .string rt, .int .i64 (re)]) rfl ⟨k2, rfl, (run_row Q2 28 0 10 [.int .i64 (rK), .bool rb, .int .u64 (l0 (rn)), .int .u64 (l1 (rn)), .int .u64 (l2 (rn)), .int .u64 (l3 (rn)), .int .i64 (rs), .bool rf, .string rt, .int .i64 (re)] rfl Try.underlying28 rfl sz28)⟩ ⟨rfl, M⟩
theorem val_15 (S : Sm) (sc9 : Int) (rK : Int) (rb : Bool) (rn rs : Int) (rf : Bool) (rt : ByteArray) (re : Int) (hO : ∀ w, Calls Try.prog 33 #[.int .i64 15, smv S, .int .i64 sc9] w fun e w' => e = .returned (vl10 rK rb rn rs rf rt re) ∧ Mo w w') : Calls Try.prog 16 #[.int .i64 15, smv S, .int .i64 sc9] w fun e w' => e = .returned (vl10 rK rb rn rs rf rt re) ∧ Mo w w' := by
  refine w_enter 27 Try.func16 Try.ntmps16 rfl rfl ?_
  have M : Mo w w := Mo.refl _
  refine w_seq ?_
  refine w_reg ?_
  refine wl_box 33 (.tmp 1) (.agg #[.int .i64 (S.r), .int .i64 (S.f), .int .i64 (S.k), .int .i64 (S.d), .int .i64 (S.e), .int .u64 (l0 (S.tt)), .int .u64 (l1 (S.tt)), .int .u64 (l2 (S.tt)), .int .u64 (l3 (S.tt)), .int .u64 (l4 (S.tt)), .bool S.so, .bool S.mn.b, .int .u64 (l0 (S.mn.n)), .int .u64 (l1 (S.mn.n)), .int .u64 (l2 (S.mn.n)), .int .u64 (l3 (S.mn.n)), .int .i64 (S.mn.s), .bool S.mx.b, .int .u64 (l0 (S.mx.n)), .int .u64 (l1 (S.mx.n)), .int .u64 (l2 (S.mx.n)), .int .u64 (l3 (S.mx.n)), .int .i64 (S.mx.s)]) (#[.int .i64 (S.r), .int .i64 (S.f), .int .i64 (S.k), .int .i64 (S.d), .int .i64 (S.e), .int .u64 (l0 (S.tt)), .int .u64 (l1 (S.tt)), .int .u64 (l2 (S.tt)), .int .u64 (l3 (S.tt)), .int .u64 (l4 (S.tt)), .bool S.so, .bool S.mn.b, .int .u64 (l0 (S.mn.n)), .int .u64 (l1 (S.mn.n)), .int .u64 (l2 (S.mn.n)), .int .u64 (l3 (S.mn.n)), .int .i64 (S.mn.s), .bool S.mx.b, .int .u64 (l0 (S.mx.n)), .int .u64 (l1 (S.mx.n)), .int .u64 (l2 (S.mx.n)), .int .u64 (l3 (S.mx.n)), .int .i64 (S.mx.s)]) rfl rfl (fun _ => by kernel_rfl) rfl ?_
  intro k1 w1 hk hz hq Q1
  have N_k1 : w.heap.size ≤ k1 := by have := M.size; omega
  replace M := M.trans hq
  clear hk hz hq
  refine wl_alloc 28 #[.int .i64 0, .bool false, .int .u64 0, .int .u64 0, .int .u64 0, .int .u64 0, .int .i64 0, .bool false, .string ⟨#[]⟩, .int .i64 0] rfl (fun _ => by kernel_rfl) rfl ?_
  intro k2 w2 hk hz hq Q2
  have ne_k1_k2 : k1 ≠ k2 := by have := Q1.lt; omega
  have N_k2 : w.heap.size ≤ k2 := by have := M.size; omega
  replace Q1 := Q1.mo hq
  replace M := M.trans hq
  clear hk hz hq
  refine w_nil ?_
  refine xn_then ?_
  refine w_seq ?_
  refine w_seq ?_
  refine w_reg ?_
  refine wl_mv (.tmp 0) (.int .i64 (15)) (fun _ => rfl) rfl rfl ?_
  refine w_nil ?_
  refine xn_then ?_
  refine w_block ?_
  refine w_seq ?_
  refine w_reg ?_
  refine wl_bin (fun x y => do eqGuard .eql 3 (.tmp 7) (.const (.int .i64 (16))) x y; binOp .eql 3 x y) (.tmp 7) (.const (.int .i64 (16))) (.int .i64 (15)) (.int .i64 (16)) (.bool false) (fun _ => rfl) rfl rfl (by kernel_rfl) rfl ?_
  refine wl_mv (.tmp 9) (.bool false) (fun _ => rfl) rfl rfl ?_
  refine w_nil ?_
  refine xn_then ?_
  refine w_condF rfl ?_
  refine w_seq ?_
  refine w_reg ?_
  refine wl_bin (fun x y => do eqGuard .eql 3 (.tmp 7) (.const (.int .i64 (13))) x y; binOp .eql 3 x y) (.tmp 7) (.const (.int .i64 (13))) (.int .i64 (15)) (.int .i64 (13)) (.bool false) (fun _ => rfl) rfl rfl (by kernel_rfl) rfl ?_
  refine wl_mv (.tmp 14) (.bool false) (fun _ => rfl) rfl rfl ?_
  refine w_nil ?_
  refine xn_then ?_
  refine w_condF rfl ?_
  refine w_seq ?_
  refine w_seq ?_
  refine w_reg ?_
  refine wl_bin (fun x y => do eqGuard .eql 3 (.tmp 7) (.const (.int .i64 (12))) x y; binOp .eql 3 x y) (.tmp 7) (.const (.int .i64 (12))) (.int .i64 (15)) (.int .i64 (12)) (.bool false) (fun _ => rfl) rfl rfl (by kernel_rfl) rfl ?_
  refine wl_mv (.tmp 19) (.bool false) (fun _ => rfl) rfl rfl ?_
  refine w_nil ?_
  refine xn_then ?_
  refine w_condF rfl ?_
  refine w_seq ?_
  refine w_reg ?_
  refine wl_bin (fun x y => do eqGuard .eql 3 (.tmp 7) (.const (.int .i64 (14))) x y; binOp .eql 3 x y) (.tmp 7) (.const (.int .i64 (14))) (.int .i64 (15)) (.int .i64 (14)) (.bool false) (fun _ => rfl) rfl rfl (by kernel_rfl) rfl ?_
  refine wl_mv (.tmp 20) (.bool false) (fun _ => rfl) rfl rfl ?_
  refine w_nil ?_
  refine xn_then ?_
  refine w_condF rfl ?_
  refine w_reg ?_
  refine wl_bin (fun x y => do eqGuard .eql 3 (.tmp 7) (.const (.int .i64 (15))) x y; binOp .eql 3 x y) (.tmp 7) (.const (.int .i64 (15))) (.int .i64 (15)) (.int .i64 (15)) (.bool true) (fun _ => rfl) rfl rfl (by kernel_rfl) rfl ?_
  refine wl_mv (.tmp 21) (.bool true) (fun _ => rfl) rfl rfl ?_
  refine w_nil ?_
  refine xn_then ?_
  refine w_condT rfl ?_
  refine w_seq ?_
  refine w_reg ?_
  refine wl_mv (.tmp 0) (.int .i64 (15)) (fun _ => rfl) rfl rfl ?_
  refine wl_load 33 (.tmp 4) (pt k1 0) (.agg #[.int .i64 (S.r), .int .i64 (S.f), .int .i64 (S.k), .int .i64 (S.d), .int .i64 (S.e), .int .u64 (l0 (S.tt)), .int .u64 (l1 (S.tt)), .int .u64 (l2 (S.tt)), .int .u64 (l3 (S.tt)), .int .u64 (l4 (S.tt)), .bool S.so, .bool S.mn.b, .int .u64 (l0 (S.mn.n)), .int .u64 (l1 (S.mn.n)), .int .u64 (l2 (S.mn.n)), .int .u64 (l3 (S.mn.n)), .int .i64 (S.mn.s), .bool S.mx.b, .int .u64 (l0 (S.mx.n)), .int .u64 (l1 (S.mx.n)), .int .u64 (l2 (S.mx.n)), .int .u64 (l3 (S.mx.n)), .int .i64 (S.mx.s)]) rfl rfl (run_row Q1 33 0 23 [.int .i64 (S.r), .int .i64 (S.f), .int .i64 (S.k), .int .i64 (S.d), .int .i64 (S.e), .int .u64 (l0 (S.tt)), .int .u64 (l1 (S.tt)), .int .u64 (l2 (S.tt)), .int .u64 (l3 (S.tt)), .int .u64 (l4 (S.tt)), .bool S.so, .bool S.mn.b, .int .u64 (l0 (S.mn.n)), .int .u64 (l1 (S.mn.n)), .int .u64 (l2 (S.mn.n)), .int .u64 (l3 (S.mn.n)), .int .i64 (S.mn.s), .bool S.mx.b, .int .u64 (l0 (S.mx.n)), .int .u64 (l1 (S.mx.n)), .int .u64 (l2 (S.mx.n)), .int .u64 (l3 (S.mx.n)), .int .i64 (S.mx.s)] rfl Try.underlying33 rfl sz33) rfl ?_
  refine wl_mv (.tmp 2) (.int .i64 (sc9)) (fun _ => rfl) rfl rfl ?_
  refine wl_call 33 [(.tmp 22), (.tmp 23), (.tmp 24)] _ [.int .i64 (15), .agg #[.int .i64 (S.r), .int .i64 (S.f), .int .i64 (S.k), .int .i64 (S.d), .int .i64 (S.e), .int .u64 (l0 (S.tt)), .int .u64 (l1 (S.tt)), .int .u64 (l2 (S.tt)), .int .u64 (l3 (S.tt)), .int .u64 (l4 (S.tt)), .bool S.so, .bool S.mn.b, .int .u64 (l0 (S.mn.n)), .int .u64 (l1 (S.mn.n)), .int .u64 (l2 (S.mn.n)), .int .u64 (l3 (S.mn.n)), .int .i64 (S.mn.s), .bool S.mx.b, .int .u64 (l0 (S.mx.n)), .int .u64 (l1 (S.mx.n)), .int .u64 (l2 (S.mx.n)), .int .u64 (l3 (S.mx.n)), .int .i64 (S.mx.s)], .int .i64 (sc9)] (.agg #[.int .i64 (rK), .bool rb, .int .u64 (l0 (rn)), .int .u64 (l1 (rn)), .int .u64 (l2 (rn)), .int .u64 (l3 (rn)), .int .i64 (rs), .bool rf, .string rt, .int .i64 (re)]) rfl rfl (fun _ _ => by kernel_rfl) (hO _) rfl ?_
  intro w3 hq
  replace Q1 := Q1.mo hq
  replace Q2 := Q2.mo hq
  replace M := M.trans hq
  clear hq
  refine wl_st 28 (.tmp 6) (.tmp 25) k2 0 #[.int .i64 (rK), .bool rb, .int .u64 (l0 (rn)), .int .u64 (l1 (rn)), .int .u64 (l2 (rn)), .int .u64 (l3 (rn)), .int .i64 (rs), .bool rf, .string rt, .int .i64 (re)] [.int .i64 0, .bool false, .int .u64 0, .int .u64 0, .int .u64 0, .int .u64 0, .int .i64 0, .bool false, .string ⟨#[]⟩, .int .i64 0] [.int .i64 (rK), .bool rb, .int .u64 (l0 (rn)), .int .u64 (l1 (rn)), .int .u64 (l2 (rn)), .int .u64 (l3 (rn)), .int .i64 (rs), .bool rf, .string rt, .int .i64 (re)] Q2 rfl rfl rfl rfl rfl sz28 rfl rfl rfl ?_
  intro w4 hS Qn
  replace Q2 := Qn
  clear Qn
  replace Q1 := hS.other _ _ ne_k1_k2 Q1
  replace M := hS.mo _ N_k2 M
  clear hS
  refine w_nil ?_
  refine xn_then ?_
  refine w_ret ?_
  refine xr_blk ?_
  refine xr_then ?_
  exact w_ret1 _ (.agg #[.int .i64 (rK), .bool rb, .int .u64 (l0 (rn)), .int .u64 (l1 (rn)), .int .u64 (l2 (rn)), .int .u64 (l3 (rn)), .int .i64 (rs), .bool rf, .string rt, .int .i64 (re)]) rfl ⟨k2, rfl, (run_row Q2 28 0 10 [.int .i64 (rK), .bool rb, .int .u64 (l0 (rn)), .int .u64 (l1 (rn)), .int .u64 (l2 (rn)), .int .u64 (l3 (rn)), .int .i64 (rs), .bool rf, .string rt, .int .i64 (re)] rfl Try.underlying28 rfl sz28)⟩ ⟨rfl, M⟩
theorem live_n : Calls Try.prog 9 #[] w fun e w' => e = .returned (.bool true) ∧ Mo w w' := by
  have hN : ∀ w, Calls Try.prog 18 #[wv LJ.tt, .int .i64 2] w fun e w' => e = .returned (.tuple #[dc false 150 2, .int .i64 0]) ∧ Mo w w' := fun w => by
    have h := narrow_n (w := w) LJ.tt 2
    rw [nrw150] at h
    exact h
  have hr : decide (LJ.r = 3) = true := by decide
  have hk9 : decide (LJ.k = 1) = true := by decide
  refine w_enter 47 Try.func9 Try.ntmps9 rfl rfl ?_
  have M : Mo w w := Mo.refl _
  refine w_seq ?_
  refine w_reg ?_
  refine wl_mv (.const (.bool false)) (.bool false) (fun _ => rfl) rfl rfl ?_
  refine w_nil ?_
  refine xn_then ?_
  refine w_seq ?_
  refine w_reg ?_
  refine wl_build 24 [(0, (.const (.int .u64 (250))))] [(0, .int .u64 (250))] (.agg #[.int .u64 (250), .int .u64 0, .int .u64 0, .int .u64 0]) rfl rfl (by kernel_rfl) rfl ?_
  refine wl_build 26 [(1, (.tmp 5)), (2, (.const (.int .i64 (2))))] [(1, .agg #[.int .u64 (250), .int .u64 0, .int .u64 0, .int .u64 0]), (2, .int .i64 (2))] (.agg #[.bool false, .int .u64 (250), .int .u64 0, .int .u64 0, .int .u64 0, .int .i64 (2)]) rfl rfl (by kernel_rfl) rfl ?_
  refine wl_build 28 [(0, (.const (.int .i64 (1)))), (1, (.tmp 6))] [(0, .int .i64 (1)), (1, .agg #[.bool false, .int .u64 (250), .int .u64 0, .int .u64 0, .int .u64 0, .int .i64 (2)])] (.agg #[.int .i64 (1), .bool false, .int .u64 (250), .int .u64 0, .int .u64 0, .int .u64 0, .int .i64 (2), .bool false, .string ⟨#[]⟩, .int .i64 0]) rfl rfl (by kernel_rfl) rfl ?_
  refine wl_call 10 [(.tmp 7), (.const (.int .i64 (2)))] _ [.agg #[.int .i64 (1), .bool false, .int .u64 (250), .int .u64 0, .int .u64 0, .int .u64 0, .int .i64 (2), .bool false, .string ⟨#[]⟩, .int .i64 0], .int .i64 (2)] (.agg #[.int .i64 (LA.r), .int .i64 (LA.f), .int .i64 (LA.k), .int .i64 (LA.d), .int .i64 (LA.e), .int .u64 (l0 (LA.tt)), .int .u64 (l1 (LA.tt)), .int .u64 (l2 (LA.tt)), .int .u64 (l3 (LA.tt)), .int .u64 (l4 (LA.tt)), .bool LA.so, .bool LA.mn.b, .int .u64 (l0 (LA.mn.n)), .int .u64 (l1 (LA.mn.n)), .int .u64 (l2 (LA.mn.n)), .int .u64 (l3 (LA.mn.n)), .int .i64 (LA.mn.s), .bool LA.mx.b, .int .u64 (l0 (LA.mx.n)), .int .u64 (l1 (LA.mx.n)), .int .u64 (l2 (LA.mx.n)), .int .u64 (l3 (LA.mx.n)), .int .i64 (LA.mx.s)]) rfl rfl (fun _ _ => by kernel_rfl) (of_d 1 false 250 2 false ⟨#[]⟩ 0 2 (by decide) (by unfold MM; decide) rfl rfl rfl rfl rfl) rfl ?_
  intro w1 hq
  replace M := M.trans hq
  clear hq
  refine wl_alloc 33 #[.int .i64 0, .int .i64 0, .int .i64 0, .int .i64 0, .int .i64 0, .int .u64 0, .int .u64 0, .int .u64 0, .int .u64 0, .int .u64 0, .bool false, .bool false, .int .u64 0, .int .u64 0, .int .u64 0, .int .u64 0, .int .i64 0, .bool false, .int .u64 0, .int .u64 0, .int .u64 0, .int .u64 0, .int .i64 0] rfl (fun _ => by kernel_rfl) rfl ?_
  intro k1 w2 hk hz hq Q1
  have N_k1 : w.heap.size ≤ k1 := by have := M.size; omega
  replace M := M.trans hq
  clear hk hz hq
  refine wl_st 33 (.tmp 1) (.tmp 8) k1 0 #[.int .i64 (LA.r), .int .i64 (LA.f), .int .i64 (LA.k), .int .i64 (LA.d), .int .i64 (LA.e), .int .u64 (l0 (LA.tt)), .int .u64 (l1 (LA.tt)), .int .u64 (l2 (LA.tt)), .int .u64 (l3 (LA.tt)), .int .u64 (l4 (LA.tt)), .bool LA.so, .bool LA.mn.b, .int .u64 (l0 (LA.mn.n)), .int .u64 (l1 (LA.mn.n)), .int .u64 (l2 (LA.mn.n)), .int .u64 (l3 (LA.mn.n)), .int .i64 (LA.mn.s), .bool LA.mx.b, .int .u64 (l0 (LA.mx.n)), .int .u64 (l1 (LA.mx.n)), .int .u64 (l2 (LA.mx.n)), .int .u64 (l3 (LA.mx.n)), .int .i64 (LA.mx.s)] [.int .i64 0, .int .i64 0, .int .i64 0, .int .i64 0, .int .i64 0, .int .u64 0, .int .u64 0, .int .u64 0, .int .u64 0, .int .u64 0, .bool false, .bool false, .int .u64 0, .int .u64 0, .int .u64 0, .int .u64 0, .int .i64 0, .bool false, .int .u64 0, .int .u64 0, .int .u64 0, .int .u64 0, .int .i64 0] [.int .i64 (LA.r), .int .i64 (LA.f), .int .i64 (LA.k), .int .i64 (LA.d), .int .i64 (LA.e), .int .u64 (l0 (LA.tt)), .int .u64 (l1 (LA.tt)), .int .u64 (l2 (LA.tt)), .int .u64 (l3 (LA.tt)), .int .u64 (l4 (LA.tt)), .bool LA.so, .bool LA.mn.b, .int .u64 (l0 (LA.mn.n)), .int .u64 (l1 (LA.mn.n)), .int .u64 (l2 (LA.mn.n)), .int .u64 (l3 (LA.mn.n)), .int .i64 (LA.mn.s), .bool LA.mx.b, .int .u64 (l0 (LA.mx.n)), .int .u64 (l1 (LA.mx.n)), .int .u64 (l2 (LA.mx.n)), .int .u64 (l3 (LA.mx.n)), .int .i64 (LA.mx.s)] Q1 rfl rfl rfl rfl rfl sz33 rfl rfl rfl ?_
  intro w3 hS Qn
  replace Q1 := Qn
  clear Qn
  replace M := hS.mo _ N_k1 M
  clear hS
  refine w_nil ?_
  refine xn_then ?_
  refine w_seq ?_
  refine w_reg ?_
  refine wl_build 24 [(0, (.const (.int .u64 (100))))] [(0, .int .u64 (100))] (.agg #[.int .u64 (100), .int .u64 0, .int .u64 0, .int .u64 0]) rfl rfl (by kernel_rfl) rfl ?_
  refine wl_build 26 [(0, (.const (.bool true))), (1, (.tmp 9)), (2, (.const (.int .i64 (2))))] [(0, .bool true), (1, .agg #[.int .u64 (100), .int .u64 0, .int .u64 0, .int .u64 0]), (2, .int .i64 (2))] (.agg #[.bool true, .int .u64 (100), .int .u64 0, .int .u64 0, .int .u64 0, .int .i64 (2)]) rfl rfl (by kernel_rfl) rfl ?_
  refine wl_build 28 [(0, (.const (.int .i64 (1)))), (1, (.tmp 10))] [(0, .int .i64 (1)), (1, .agg #[.bool true, .int .u64 (100), .int .u64 0, .int .u64 0, .int .u64 0, .int .i64 (2)])] (.agg #[.int .i64 (1), .bool true, .int .u64 (100), .int .u64 0, .int .u64 0, .int .u64 0, .int .i64 (2), .bool false, .string ⟨#[]⟩, .int .i64 0]) rfl rfl (by kernel_rfl) rfl ?_
  refine wl_call 10 [(.tmp 11), (.const (.int .i64 (2)))] _ [.agg #[.int .i64 (1), .bool true, .int .u64 (100), .int .u64 0, .int .u64 0, .int .u64 0, .int .i64 (2), .bool false, .string ⟨#[]⟩, .int .i64 0], .int .i64 (2)] (.agg #[.int .i64 (LB.r), .int .i64 (LB.f), .int .i64 (LB.k), .int .i64 (LB.d), .int .i64 (LB.e), .int .u64 (l0 (LB.tt)), .int .u64 (l1 (LB.tt)), .int .u64 (l2 (LB.tt)), .int .u64 (l3 (LB.tt)), .int .u64 (l4 (LB.tt)), .bool LB.so, .bool LB.mn.b, .int .u64 (l0 (LB.mn.n)), .int .u64 (l1 (LB.mn.n)), .int .u64 (l2 (LB.mn.n)), .int .u64 (l3 (LB.mn.n)), .int .i64 (LB.mn.s), .bool LB.mx.b, .int .u64 (l0 (LB.mx.n)), .int .u64 (l1 (LB.mx.n)), .int .u64 (l2 (LB.mx.n)), .int .u64 (l3 (LB.mx.n)), .int .i64 (LB.mx.s)]) rfl rfl (fun _ _ => by kernel_rfl) (of_d 1 true 100 2 false ⟨#[]⟩ 0 2 (by decide) (by unfold MM; decide) rfl rfl rfl rfl rfl) rfl ?_
  intro w4 hq
  replace Q1 := Q1.mo hq
  replace M := M.trans hq
  clear hq
  refine wl_alloc 33 #[.int .i64 0, .int .i64 0, .int .i64 0, .int .i64 0, .int .i64 0, .int .u64 0, .int .u64 0, .int .u64 0, .int .u64 0, .int .u64 0, .bool false, .bool false, .int .u64 0, .int .u64 0, .int .u64 0, .int .u64 0, .int .i64 0, .bool false, .int .u64 0, .int .u64 0, .int .u64 0, .int .u64 0, .int .i64 0] rfl (fun _ => by kernel_rfl) rfl ?_
  intro k2 w5 hk hz hq Q2
  have ne_k1_k2 : k1 ≠ k2 := by have := Q1.lt; omega
  have N_k2 : w.heap.size ≤ k2 := by have := M.size; omega
  replace Q1 := Q1.mo hq
  replace M := M.trans hq
  clear hk hz hq
  refine wl_st 33 (.tmp 2) (.tmp 12) k2 0 #[.int .i64 (LB.r), .int .i64 (LB.f), .int .i64 (LB.k), .int .i64 (LB.d), .int .i64 (LB.e), .int .u64 (l0 (LB.tt)), .int .u64 (l1 (LB.tt)), .int .u64 (l2 (LB.tt)), .int .u64 (l3 (LB.tt)), .int .u64 (l4 (LB.tt)), .bool LB.so, .bool LB.mn.b, .int .u64 (l0 (LB.mn.n)), .int .u64 (l1 (LB.mn.n)), .int .u64 (l2 (LB.mn.n)), .int .u64 (l3 (LB.mn.n)), .int .i64 (LB.mn.s), .bool LB.mx.b, .int .u64 (l0 (LB.mx.n)), .int .u64 (l1 (LB.mx.n)), .int .u64 (l2 (LB.mx.n)), .int .u64 (l3 (LB.mx.n)), .int .i64 (LB.mx.s)] [.int .i64 0, .int .i64 0, .int .i64 0, .int .i64 0, .int .i64 0, .int .u64 0, .int .u64 0, .int .u64 0, .int .u64 0, .int .u64 0, .bool false, .bool false, .int .u64 0, .int .u64 0, .int .u64 0, .int .u64 0, .int .i64 0, .bool false, .int .u64 0, .int .u64 0, .int .u64 0, .int .u64 0, .int .i64 0] [.int .i64 (LB.r), .int .i64 (LB.f), .int .i64 (LB.k), .int .i64 (LB.d), .int .i64 (LB.e), .int .u64 (l0 (LB.tt)), .int .u64 (l1 (LB.tt)), .int .u64 (l2 (LB.tt)), .int .u64 (l3 (LB.tt)), .int .u64 (l4 (LB.tt)), .bool LB.so, .bool LB.mn.b, .int .u64 (l0 (LB.mn.n)), .int .u64 (l1 (LB.mn.n)), .int .u64 (l2 (LB.mn.n)), .int .u64 (l3 (LB.mn.n)), .int .i64 (LB.mn.s), .bool LB.mx.b, .int .u64 (l0 (LB.mx.n)), .int .u64 (l1 (LB.mx.n)), .int .u64 (l2 (LB.mx.n)), .int .u64 (l3 (LB.mx.n)), .int .i64 (LB.mx.s)] Q2 rfl rfl rfl rfl rfl sz33 rfl rfl rfl ?_
  intro w6 hS Qn
  replace Q2 := Qn
  clear Qn
  replace Q1 := hS.other _ _ ne_k1_k2 Q1
  replace M := hS.mo _ N_k2 M
  clear hS
  refine w_nil ?_
  refine xn_then ?_
  refine w_seq ?_
  refine X.w_any 7 [.inl (.agg #[.int .i64 (LA.r), .int .i64 (LA.f), .int .i64 (LA.k), .int .i64 (LA.d), .int .i64 (LA.e), .int .u64 (l0 (LA.tt)), .int .u64 (l1 (LA.tt)), .int .u64 (l2 (LA.tt)), .int .u64 (l3 (LA.tt)), .int .u64 (l4 (LA.tt)), .bool LA.so, .bool LA.mn.b, .int .u64 (l0 (LA.mn.n)), .int .u64 (l1 (LA.mn.n)), .int .u64 (l2 (LA.mn.n)), .int .u64 (l3 (LA.mn.n)), .int .i64 (LA.mn.s), .bool LA.mx.b, .int .u64 (l0 (LA.mx.n)), .int .u64 (l1 (LA.mx.n)), .int .u64 (l2 (LA.mx.n)), .int .u64 (l3 (LA.mx.n)), .int .i64 (LA.mx.s)]), .inl (.agg #[.int .i64 (LB.r), .int .i64 (LB.f), .int .i64 (LB.k), .int .i64 (LB.d), .int .i64 (LB.e), .int .u64 (l0 (LB.tt)), .int .u64 (l1 (LB.tt)), .int .u64 (l2 (LB.tt)), .int .u64 (l3 (LB.tt)), .int .u64 (l4 (LB.tt)), .bool LB.so, .bool LB.mn.b, .int .u64 (l0 (LB.mn.n)), .int .u64 (l1 (LB.mn.n)), .int .u64 (l2 (LB.mn.n)), .int .u64 (l3 (LB.mn.n)), .int .i64 (LB.mn.s), .bool LB.mx.b, .int .u64 (l0 (LB.mx.n)), .int .u64 (l1 (LB.mx.n)), .int .u64 (l2 (LB.mx.n)), .int .u64 (l3 (LB.mx.n)), .int .i64 (LB.mx.s)]), .inl (.agg #[.int .i64 0, .bool false, .int .u64 0, .int .u64 0, .int .u64 0, .int .u64 0, .int .i64 0, .bool false, .string ⟨#[]⟩, .int .i64 0]), .inl (.agg #[.int .i64 (LC.r), .int .i64 (LC.f), .int .i64 (LC.k), .int .i64 (LC.d), .int .i64 (LC.e), .int .u64 (l0 (LC.tt)), .int .u64 (l1 (LC.tt)), .int .u64 (l2 (LC.tt)), .int .u64 (l3 (LC.tt)), .int .u64 (l4 (LC.tt)), .bool LC.so, .bool LC.mn.b, .int .u64 (l0 (LC.mn.n)), .int .u64 (l1 (LC.mn.n)), .int .u64 (l2 (LC.mn.n)), .int .u64 (l3 (LC.mn.n)), .int .i64 (LC.mn.s), .bool LC.mx.b, .int .u64 (l0 (LC.mx.n)), .int .u64 (l1 (LC.mx.n)), .int .u64 (l2 (LC.mx.n)), .int .u64 (l3 (LC.mx.n)), .int .i64 (LC.mx.s)]), .inr (sml LA ++ sml LB ++ sml LC, some 3), .inl (.agg #[.int .i64 (LJ.r), .int .i64 (LJ.f), .int .i64 (LJ.k), .int .i64 (LJ.d), .int .i64 (LJ.e), .int .u64 (l0 (LJ.tt)), .int .u64 (l1 (LJ.tt)), .int .u64 (l2 (LJ.tt)), .int .u64 (l3 (LJ.tt)), .int .u64 (l4 (LJ.tt)), .bool LJ.so, .bool LJ.mn.b, .int .u64 (l0 (LJ.mn.n)), .int .u64 (l1 (LJ.mn.n)), .int .u64 (l2 (LJ.mn.n)), .int .u64 (l3 (LJ.mn.n)), .int .i64 (LJ.mn.s), .bool LJ.mx.b, .int .u64 (l0 (LJ.mx.n)), .int .u64 (l1 (LJ.mx.n)), .int .u64 (l2 (LJ.mx.n)), .int .u64 (l3 (LJ.mx.n)), .int .i64 (LJ.mx.s)]), .inr ([.int .i64 0, .int .i64 0, .int .i64 0, .int .i64 0, .int .i64 0, .int .u64 0, .int .u64 0, .int .u64 0, .int .u64 0, .int .u64 0, .bool false, .bool false, .int .u64 0, .int .u64 0, .int .u64 0, .int .u64 0, .int .i64 0, .bool false, .int .u64 0, .int .u64 0, .int .u64 0, .int .u64 0, .int .i64 0], none)] [] (by kernel_rfl) (by kernel_rfl) (by kernel_rfl) (by kernel_rfl) rfl (by kernel_rfl) (by kernel_rfl) X.late_nil ?_ ?_ ?_
  · exact X.Ds.start (by kernel_rfl)
  · refine X.ea_cons ?_ (X.ea_cons ?_ (X.ea_cons ?_ (X.ea_cons ?_ (X.ea_cons ?_ (X.ea_cons ?_ (X.ea_cons ?_ (X.ea_nil)))))))
    · exact X.og_eq (.agg #[.int .i64 (LA.r), .int .i64 (LA.f), .int .i64 (LA.k), .int .i64 (LA.d), .int .i64 (LA.e), .int .u64 (l0 (LA.tt)), .int .u64 (l1 (LA.tt)), .int .u64 (l2 (LA.tt)), .int .u64 (l3 (LA.tt)), .int .u64 (l4 (LA.tt)), .bool LA.so, .bool LA.mn.b, .int .u64 (l0 (LA.mn.n)), .int .u64 (l1 (LA.mn.n)), .int .u64 (l2 (LA.mn.n)), .int .u64 (l3 (LA.mn.n)), .int .i64 (LA.mn.s), .bool LA.mx.b, .int .u64 (l0 (LA.mx.n)), .int .u64 (l1 (LA.mx.n)), .int .u64 (l2 (LA.mx.n)), .int .u64 (l3 (LA.mx.n)), .int .i64 (LA.mx.s)]) rfl (fun f wf hq hd K hK => have Q1 := Q1.mo hq; go_run rfl (wo_load 33 (.tmp 1) (pt k1 0) (.agg #[.int .i64 (LA.r), .int .i64 (LA.f), .int .i64 (LA.k), .int .i64 (LA.d), .int .i64 (LA.e), .int .u64 (l0 (LA.tt)), .int .u64 (l1 (LA.tt)), .int .u64 (l2 (LA.tt)), .int .u64 (l3 (LA.tt)), .int .u64 (l4 (LA.tt)), .bool LA.so, .bool LA.mn.b, .int .u64 (l0 (LA.mn.n)), .int .u64 (l1 (LA.mn.n)), .int .u64 (l2 (LA.mn.n)), .int .u64 (l3 (LA.mn.n)), .int .i64 (LA.mn.s), .bool LA.mx.b, .int .u64 (l0 (LA.mx.n)), .int .u64 (l1 (LA.mx.n)), .int .u64 (l2 (LA.mx.n)), .int .u64 (l3 (LA.mx.n)), .int .i64 (LA.mx.s)]) rfl rfl (run_row Q1 33 0 23 [.int .i64 (LA.r), .int .i64 (LA.f), .int .i64 (LA.k), .int .i64 (LA.d), .int .i64 (LA.e), .int .u64 (l0 (LA.tt)), .int .u64 (l1 (LA.tt)), .int .u64 (l2 (LA.tt)), .int .u64 (l3 (LA.tt)), .int .u64 (l4 (LA.tt)), .bool LA.so, .bool LA.mn.b, .int .u64 (l0 (LA.mn.n)), .int .u64 (l1 (LA.mn.n)), .int .u64 (l2 (LA.mn.n)), .int .u64 (l3 (LA.mn.n)), .int .i64 (LA.mn.s), .bool LA.mx.b, .int .u64 (l0 (LA.mx.n)), .int .u64 (l1 (LA.mx.n)), .int .u64 (l2 (LA.mx.n)), .int .u64 (l3 (LA.mx.n)), .int .i64 (LA.mx.s)] rfl Try.underlying33 rfl sz33) (hK _ (Mo.refl _))))
    · exact X.og_eq (.agg #[.int .i64 (LB.r), .int .i64 (LB.f), .int .i64 (LB.k), .int .i64 (LB.d), .int .i64 (LB.e), .int .u64 (l0 (LB.tt)), .int .u64 (l1 (LB.tt)), .int .u64 (l2 (LB.tt)), .int .u64 (l3 (LB.tt)), .int .u64 (l4 (LB.tt)), .bool LB.so, .bool LB.mn.b, .int .u64 (l0 (LB.mn.n)), .int .u64 (l1 (LB.mn.n)), .int .u64 (l2 (LB.mn.n)), .int .u64 (l3 (LB.mn.n)), .int .i64 (LB.mn.s), .bool LB.mx.b, .int .u64 (l0 (LB.mx.n)), .int .u64 (l1 (LB.mx.n)), .int .u64 (l2 (LB.mx.n)), .int .u64 (l3 (LB.mx.n)), .int .i64 (LB.mx.s)]) rfl (fun f wf hq hd K hK => have Q2 := Q2.mo hq; go_run rfl (wo_load 33 (.tmp 2) (pt k2 0) (.agg #[.int .i64 (LB.r), .int .i64 (LB.f), .int .i64 (LB.k), .int .i64 (LB.d), .int .i64 (LB.e), .int .u64 (l0 (LB.tt)), .int .u64 (l1 (LB.tt)), .int .u64 (l2 (LB.tt)), .int .u64 (l3 (LB.tt)), .int .u64 (l4 (LB.tt)), .bool LB.so, .bool LB.mn.b, .int .u64 (l0 (LB.mn.n)), .int .u64 (l1 (LB.mn.n)), .int .u64 (l2 (LB.mn.n)), .int .u64 (l3 (LB.mn.n)), .int .i64 (LB.mn.s), .bool LB.mx.b, .int .u64 (l0 (LB.mx.n)), .int .u64 (l1 (LB.mx.n)), .int .u64 (l2 (LB.mx.n)), .int .u64 (l3 (LB.mx.n)), .int .i64 (LB.mx.s)]) rfl rfl (run_row Q2 33 0 23 [.int .i64 (LB.r), .int .i64 (LB.f), .int .i64 (LB.k), .int .i64 (LB.d), .int .i64 (LB.e), .int .u64 (l0 (LB.tt)), .int .u64 (l1 (LB.tt)), .int .u64 (l2 (LB.tt)), .int .u64 (l3 (LB.tt)), .int .u64 (l4 (LB.tt)), .bool LB.so, .bool LB.mn.b, .int .u64 (l0 (LB.mn.n)), .int .u64 (l1 (LB.mn.n)), .int .u64 (l2 (LB.mn.n)), .int .u64 (l3 (LB.mn.n)), .int .i64 (LB.mn.s), .bool LB.mx.b, .int .u64 (l0 (LB.mx.n)), .int .u64 (l1 (LB.mx.n)), .int .u64 (l2 (LB.mx.n)), .int .u64 (l3 (LB.mx.n)), .int .i64 (LB.mx.s)] rfl Try.underlying33 rfl sz33) (hK _ (Mo.refl _))))
    · exact X.og_eq (.agg #[.int .i64 0, .bool false, .int .u64 0, .int .u64 0, .int .u64 0, .int .u64 0, .int .i64 0, .bool false, .string ⟨#[]⟩, .int .i64 0]) rfl (fun f wf hq hd K hK => go_run rfl (wo_build 28 [] [] (.agg #[.int .i64 0, .bool false, .int .u64 0, .int .u64 0, .int .u64 0, .int .u64 0, .int .i64 0, .bool false, .string ⟨#[]⟩, .int .i64 0]) rfl rfl (by kernel_rfl) (hK _ (Mo.refl _))))
    · exact X.og_eq (.agg #[.int .i64 (LC.r), .int .i64 (LC.f), .int .i64 (LC.k), .int .i64 (LC.d), .int .i64 (LC.e), .int .u64 (l0 (LC.tt)), .int .u64 (l1 (LC.tt)), .int .u64 (l2 (LC.tt)), .int .u64 (l3 (LC.tt)), .int .u64 (l4 (LC.tt)), .bool LC.so, .bool LC.mn.b, .int .u64 (l0 (LC.mn.n)), .int .u64 (l1 (LC.mn.n)), .int .u64 (l2 (LC.mn.n)), .int .u64 (l3 (LC.mn.n)), .int .i64 (LC.mn.s), .bool LC.mx.b, .int .u64 (l0 (LC.mx.n)), .int .u64 (l1 (LC.mx.n)), .int .u64 (l2 (LC.mx.n)), .int .u64 (l3 (LC.mx.n)), .int .i64 (LC.mx.s)]) rfl (fun f wf hq hd K hK => go_run rfl (wo_call 10 [(.tmp 15), (.const (.int .i64 (2)))] _ [.agg #[.int .i64 0, .bool false, .int .u64 0, .int .u64 0, .int .u64 0, .int .u64 0, .int .i64 0, .bool false, .string ⟨#[]⟩, .int .i64 0], .int .i64 (2)] (.agg #[.int .i64 (LC.r), .int .i64 (LC.f), .int .i64 (LC.k), .int .i64 (LC.d), .int .i64 (LC.e), .int .u64 (l0 (LC.tt)), .int .u64 (l1 (LC.tt)), .int .u64 (l2 (LC.tt)), .int .u64 (l3 (LC.tt)), .int .u64 (l4 (LC.tt)), .bool LC.so, .bool LC.mn.b, .int .u64 (l0 (LC.mn.n)), .int .u64 (l1 (LC.mn.n)), .int .u64 (l2 (LC.mn.n)), .int .u64 (l3 (LC.mn.n)), .int .i64 (LC.mn.s), .bool LC.mx.b, .int .u64 (l0 (LC.mx.n)), .int .u64 (l1 (LC.mx.n)), .int .u64 (l2 (LC.mx.n)), .int .u64 (l3 (LC.mx.n)), .int .i64 (LC.mx.s)]) rfl (li2 (hd 2 rfl) rfl) (fun _ _ => by kernel_rfl) (of_a 0 false 0 0 false ⟨#[]⟩ 0 2 rfl) hK))
    · exact X.og_new (sml LA ++ sml LB ++ sml LC, some 3) rfl (fun f wf hq hd K hK => go_run rfl (wo_bs36 [(0, (.tmp 13)), (1, (.tmp 14)), (2, (.tmp 16))] [.agg #[.int .i64 (LA.r), .int .i64 (LA.f), .int .i64 (LA.k), .int .i64 (LA.d), .int .i64 (LA.e), .int .u64 (l0 (LA.tt)), .int .u64 (l1 (LA.tt)), .int .u64 (l2 (LA.tt)), .int .u64 (l3 (LA.tt)), .int .u64 (l4 (LA.tt)), .bool LA.so, .bool LA.mn.b, .int .u64 (l0 (LA.mn.n)), .int .u64 (l1 (LA.mn.n)), .int .u64 (l2 (LA.mn.n)), .int .u64 (l3 (LA.mn.n)), .int .i64 (LA.mn.s), .bool LA.mx.b, .int .u64 (l0 (LA.mx.n)), .int .u64 (l1 (LA.mx.n)), .int .u64 (l2 (LA.mx.n)), .int .u64 (l3 (LA.mx.n)), .int .i64 (LA.mx.s)], .agg #[.int .i64 (LB.r), .int .i64 (LB.f), .int .i64 (LB.k), .int .i64 (LB.d), .int .i64 (LB.e), .int .u64 (l0 (LB.tt)), .int .u64 (l1 (LB.tt)), .int .u64 (l2 (LB.tt)), .int .u64 (l3 (LB.tt)), .int .u64 (l4 (LB.tt)), .bool LB.so, .bool LB.mn.b, .int .u64 (l0 (LB.mn.n)), .int .u64 (l1 (LB.mn.n)), .int .u64 (l2 (LB.mn.n)), .int .u64 (l3 (LB.mn.n)), .int .i64 (LB.mn.s), .bool LB.mx.b, .int .u64 (l0 (LB.mx.n)), .int .u64 (l1 (LB.mx.n)), .int .u64 (l2 (LB.mx.n)), .int .u64 (l3 (LB.mx.n)), .int .i64 (LB.mx.s)], .agg #[.int .i64 (LC.r), .int .i64 (LC.f), .int .i64 (LC.k), .int .i64 (LC.d), .int .i64 (LC.e), .int .u64 (l0 (LC.tt)), .int .u64 (l1 (LC.tt)), .int .u64 (l2 (LC.tt)), .int .u64 (l3 (LC.tt)), .int .u64 (l4 (LC.tt)), .bool LC.so, .bool LC.mn.b, .int .u64 (l0 (LC.mn.n)), .int .u64 (l1 (LC.mn.n)), .int .u64 (l2 (LC.mn.n)), .int .u64 (l3 (LC.mn.n)), .int .i64 (LC.mn.s), .bool LC.mx.b, .int .u64 (l0 (LC.mx.n)), .int .u64 (l1 (LC.mx.n)), .int .u64 (l2 (LC.mx.n)), .int .u64 (l3 (LC.mx.n)), .int .i64 (LC.mx.s)]] 3 (sml LA ++ sml LB ++ sml LC).toArray rfl (lp3 (hd 0 rfl) (hd 1 rfl) (hd 3 rfl)) bs_live hK))
    · exact X.og_eq (.agg #[.int .i64 (LJ.r), .int .i64 (LJ.f), .int .i64 (LJ.k), .int .i64 (LJ.d), .int .i64 (LJ.e), .int .u64 (l0 (LJ.tt)), .int .u64 (l1 (LJ.tt)), .int .u64 (l2 (LJ.tt)), .int .u64 (l3 (LJ.tt)), .int .u64 (l4 (LJ.tt)), .bool LJ.so, .bool LJ.mn.b, .int .u64 (l0 (LJ.mn.n)), .int .u64 (l1 (LJ.mn.n)), .int .u64 (l2 (LJ.mn.n)), .int .u64 (l3 (LJ.mn.n)), .int .i64 (LJ.mn.s), .bool LJ.mx.b, .int .u64 (l0 (LJ.mx.n)), .int .u64 (l1 (LJ.mx.n)), .int .u64 (l2 (LJ.mx.n)), .int .u64 (l3 (LJ.mx.n)), .int .i64 (LJ.mx.s)]) rfl (fun f wf hq hd K hK => by
        obtain ⟨k9, e9, _, hA9⟩ := hd 4 rfl
        exact go_run rfl (wo_call 12 [(.tmp 17)] _ [.slice (some ⟨k9, 0, none⟩) 3 3] (.agg #[.int .i64 (LJ.r), .int .i64 (LJ.f), .int .i64 (LJ.k), .int .i64 (LJ.d), .int .i64 (LJ.e), .int .u64 (l0 (LJ.tt)), .int .u64 (l1 (LJ.tt)), .int .u64 (l2 (LJ.tt)), .int .u64 (l3 (LJ.tt)), .int .u64 (l4 (LJ.tt)), .bool LJ.so, .bool LJ.mn.b, .int .u64 (l0 (LJ.mn.n)), .int .u64 (l1 (LJ.mn.n)), .int .u64 (l2 (LJ.mn.n)), .int .u64 (l3 (LJ.mn.n)), .int .i64 (LJ.mn.s), .bool LJ.mx.b, .int .u64 (l0 (LJ.mx.n)), .int .u64 (l1 (LJ.mx.n)), .int .u64 (l2 (LJ.mx.n)), .int .u64 (l3 (LJ.mx.n)), .int .i64 (LJ.mx.s)]) rfl (li1 e9) (fun _ _ => by kernel_rfl) (join_n [LA, LB, LC] (some ⟨k9, 0, none⟩) 3 live_ok (live_ss hA9) (by decide)) hK))
    · exact X.og_new ([.int .i64 0, .int .i64 0, .int .i64 0, .int .i64 0, .int .i64 0, .int .u64 0, .int .u64 0, .int .u64 0, .int .u64 0, .int .u64 0, .bool false, .bool false, .int .u64 0, .int .u64 0, .int .u64 0, .int .u64 0, .int .i64 0, .bool false, .int .u64 0, .int .u64 0, .int .u64 0, .int .u64 0, .int .i64 0], none) rfl (fun f wf hq hd K hK => go_run rfl (wo_alloc 33 #[.int .i64 0, .int .i64 0, .int .i64 0, .int .i64 0, .int .i64 0, .int .u64 0, .int .u64 0, .int .u64 0, .int .u64 0, .int .u64 0, .bool false, .bool false, .int .u64 0, .int .u64 0, .int .u64 0, .int .u64 0, .int .i64 0, .bool false, .int .u64 0, .int .u64 0, .int .u64 0, .int .u64 0, .int .i64 0] rfl (fun _ => by kernel_rfl) hK))
  intro kf7 w7 hq hR hne
  obtain ⟨N_k3, Q3⟩ := hR 6 _ rfl rfl
  have ne_k1_k3 : k1 ≠ (kf7 6) := by have := Q1.lt; omega
  have ne_k2_k3 : k2 ≠ (kf7 6) := by have := Q2.lt; omega
  replace N_k3 := Nat.le_trans M.size N_k3
  replace Q1 := Q1.mo hq
  replace Q2 := Q2.mo hq
  replace M := M.trans hq
  clear hq hR hne
  refine wl_st 33 (.tmp 3) (.tmp 18) (kf7 6) 0 #[.int .i64 (LJ.r), .int .i64 (LJ.f), .int .i64 (LJ.k), .int .i64 (LJ.d), .int .i64 (LJ.e), .int .u64 (l0 (LJ.tt)), .int .u64 (l1 (LJ.tt)), .int .u64 (l2 (LJ.tt)), .int .u64 (l3 (LJ.tt)), .int .u64 (l4 (LJ.tt)), .bool LJ.so, .bool LJ.mn.b, .int .u64 (l0 (LJ.mn.n)), .int .u64 (l1 (LJ.mn.n)), .int .u64 (l2 (LJ.mn.n)), .int .u64 (l3 (LJ.mn.n)), .int .i64 (LJ.mn.s), .bool LJ.mx.b, .int .u64 (l0 (LJ.mx.n)), .int .u64 (l1 (LJ.mx.n)), .int .u64 (l2 (LJ.mx.n)), .int .u64 (l3 (LJ.mx.n)), .int .i64 (LJ.mx.s)] [.int .i64 0, .int .i64 0, .int .i64 0, .int .i64 0, .int .i64 0, .int .u64 0, .int .u64 0, .int .u64 0, .int .u64 0, .int .u64 0, .bool false, .bool false, .int .u64 0, .int .u64 0, .int .u64 0, .int .u64 0, .int .i64 0, .bool false, .int .u64 0, .int .u64 0, .int .u64 0, .int .u64 0, .int .i64 0] [.int .i64 (LJ.r), .int .i64 (LJ.f), .int .i64 (LJ.k), .int .i64 (LJ.d), .int .i64 (LJ.e), .int .u64 (l0 (LJ.tt)), .int .u64 (l1 (LJ.tt)), .int .u64 (l2 (LJ.tt)), .int .u64 (l3 (LJ.tt)), .int .u64 (l4 (LJ.tt)), .bool LJ.so, .bool LJ.mn.b, .int .u64 (l0 (LJ.mn.n)), .int .u64 (l1 (LJ.mn.n)), .int .u64 (l2 (LJ.mn.n)), .int .u64 (l3 (LJ.mn.n)), .int .i64 (LJ.mn.s), .bool LJ.mx.b, .int .u64 (l0 (LJ.mx.n)), .int .u64 (l1 (LJ.mx.n)), .int .u64 (l2 (LJ.mx.n)), .int .u64 (l3 (LJ.mx.n)), .int .i64 (LJ.mx.s)] Q3 rfl rfl rfl rfl rfl sz33 rfl rfl rfl ?_
  intro w8 hS Qn
  replace Q3 := Qn
  clear Qn
  replace Q1 := hS.other _ _ ne_k1_k3 Q1
  replace Q2 := hS.other _ _ ne_k2_k3 Q2
  replace M := hS.mo _ N_k3 M
  clear hS
  refine w_nil ?_
  refine xn_then ?_
  refine w_seq ?_
  refine w_reg ?_
  refine wl_load 33 (.tmp 3) (pt (kf7 6) 0) (.agg #[.int .i64 (LJ.r), .int .i64 (LJ.f), .int .i64 (LJ.k), .int .i64 (LJ.d), .int .i64 (LJ.e), .int .u64 (l0 (LJ.tt)), .int .u64 (l1 (LJ.tt)), .int .u64 (l2 (LJ.tt)), .int .u64 (l3 (LJ.tt)), .int .u64 (l4 (LJ.tt)), .bool LJ.so, .bool LJ.mn.b, .int .u64 (l0 (LJ.mn.n)), .int .u64 (l1 (LJ.mn.n)), .int .u64 (l2 (LJ.mn.n)), .int .u64 (l3 (LJ.mn.n)), .int .i64 (LJ.mn.s), .bool LJ.mx.b, .int .u64 (l0 (LJ.mx.n)), .int .u64 (l1 (LJ.mx.n)), .int .u64 (l2 (LJ.mx.n)), .int .u64 (l3 (LJ.mx.n)), .int .i64 (LJ.mx.s)]) rfl rfl (run_row Q3 33 0 23 [.int .i64 (LJ.r), .int .i64 (LJ.f), .int .i64 (LJ.k), .int .i64 (LJ.d), .int .i64 (LJ.e), .int .u64 (l0 (LJ.tt)), .int .u64 (l1 (LJ.tt)), .int .u64 (l2 (LJ.tt)), .int .u64 (l3 (LJ.tt)), .int .u64 (l4 (LJ.tt)), .bool LJ.so, .bool LJ.mn.b, .int .u64 (l0 (LJ.mn.n)), .int .u64 (l1 (LJ.mn.n)), .int .u64 (l2 (LJ.mn.n)), .int .u64 (l3 (LJ.mn.n)), .int .i64 (LJ.mn.s), .bool LJ.mx.b, .int .u64 (l0 (LJ.mx.n)), .int .u64 (l1 (LJ.mx.n)), .int .u64 (l2 (LJ.mx.n)), .int .u64 (l3 (LJ.mx.n)), .int .i64 (LJ.mx.s)] rfl Try.underlying33 rfl sz33) rfl ?_
  refine wl_call 16 [(.const (.int .i64 (12))), (.tmp 19), (.const (.int .i64 (2)))] _ [.int .i64 (12), .agg #[.int .i64 (LJ.r), .int .i64 (LJ.f), .int .i64 (LJ.k), .int .i64 (LJ.d), .int .i64 (LJ.e), .int .u64 (l0 (LJ.tt)), .int .u64 (l1 (LJ.tt)), .int .u64 (l2 (LJ.tt)), .int .u64 (l3 (LJ.tt)), .int .u64 (l4 (LJ.tt)), .bool LJ.so, .bool LJ.mn.b, .int .u64 (l0 (LJ.mn.n)), .int .u64 (l1 (LJ.mn.n)), .int .u64 (l2 (LJ.mn.n)), .int .u64 (l3 (LJ.mn.n)), .int .i64 (LJ.mn.s), .bool LJ.mx.b, .int .u64 (l0 (LJ.mx.n)), .int .u64 (l1 (LJ.mx.n)), .int .u64 (l2 (LJ.mx.n)), .int .u64 (l3 (LJ.mx.n)), .int .i64 (LJ.mx.s)], .int .i64 (2)] (.agg #[.int .i64 (1), .bool false, .int .u64 (l0 (150)), .int .u64 (l1 (150)), .int .u64 (l2 (150)), .int .u64 (l3 (150)), .int .i64 (2), .bool false, .string ⟨#[]⟩, .int .i64 (0)]) rfl rfl (fun _ _ => by kernel_rfl) (val_12 LJ 2 1 false 150 2 false ⟨#[]⟩ 0 (fun w => onum_c 12 LJ 2 false 150 2 0 hN rfl rfl rfl)) rfl ?_
  intro w9 hq
  replace Q1 := Q1.mo hq
  replace Q2 := Q2.mo hq
  replace Q3 := Q3.mo hq
  replace M := M.trans hq
  clear hq
  refine wl_alloc 28 #[.int .i64 0, .bool false, .int .u64 0, .int .u64 0, .int .u64 0, .int .u64 0, .int .i64 0, .bool false, .string ⟨#[]⟩, .int .i64 0] rfl (fun _ => by kernel_rfl) rfl ?_
  intro k4 w10 hk hz hq Q4
  have ne_k1_k4 : k1 ≠ k4 := by have := Q1.lt; omega
  have ne_k2_k4 : k2 ≠ k4 := by have := Q2.lt; omega
  have ne_k3_k4 : (kf7 6) ≠ k4 := by have := Q3.lt; omega
  have N_k4 : w.heap.size ≤ k4 := by have := M.size; omega
  replace Q1 := Q1.mo hq
  replace Q2 := Q2.mo hq
  replace Q3 := Q3.mo hq
  replace M := M.trans hq
  clear hk hz hq
  refine wl_st 28 (.tmp 4) (.tmp 20) k4 0 #[.int .i64 (1), .bool false, .int .u64 (l0 (150)), .int .u64 (l1 (150)), .int .u64 (l2 (150)), .int .u64 (l3 (150)), .int .i64 (2), .bool false, .string ⟨#[]⟩, .int .i64 (0)] [.int .i64 0, .bool false, .int .u64 0, .int .u64 0, .int .u64 0, .int .u64 0, .int .i64 0, .bool false, .string ⟨#[]⟩, .int .i64 0] [.int .i64 (1), .bool false, .int .u64 (l0 (150)), .int .u64 (l1 (150)), .int .u64 (l2 (150)), .int .u64 (l3 (150)), .int .i64 (2), .bool false, .string ⟨#[]⟩, .int .i64 (0)] Q4 rfl rfl rfl rfl rfl sz28 rfl rfl rfl ?_
  intro w11 hS Qn
  replace Q4 := Qn
  clear Qn
  replace Q1 := hS.other _ _ ne_k1_k4 Q1
  replace Q2 := hS.other _ _ ne_k2_k4 Q2
  replace Q3 := hS.other _ _ ne_k3_k4 Q3
  replace M := hS.mo _ N_k4 M
  clear hS
  refine w_nil ?_
  refine xn_then ?_
  refine w_seq ?_
  refine w_reg ?_
  refine wl_un (fun v => Instr.fieldAt 33 v 0) (.tmp 3) (pt (kf7 6) 0) (pt (kf7 6) 0) (fun _ => rfl) rfl (by kernel_rfl) rfl ?_
  refine wl_load 3 (.tmp 21) (pt (kf7 6) 0) (.int .i64 (LJ.r)) rfl rfl (run_one Q3 3 0 rfl Try.underlying3 rfl) rfl ?_
  refine wl_bin (fun x y => do eqGuard .eql 3 (.tmp 22) (.const (.int .i64 (3))) x y; binOp .eql 3 x y) (.tmp 22) (.const (.int .i64 (3))) (.int .i64 (LJ.r)) (.int .i64 (3)) (.bool true) (fun _ => rfl) rfl rfl (eqI hr _ _ _) rfl ?_
  refine wl_mv (.tmp 23) (.bool true) (fun _ => rfl) rfl rfl ?_
  refine wl_un (fun v => Instr.fieldAt 33 v 2) (.tmp 3) (pt (kf7 6) 0) (pt (kf7 6) 2) (fun _ => rfl) rfl (by kernel_rfl) rfl ?_
  refine wl_load 3 (.tmp 25) (pt (kf7 6) 2) (.int .i64 (LJ.k)) rfl rfl (run_one Q3 3 2 rfl Try.underlying3 rfl) rfl ?_
  refine wl_bin (fun x y => do eqGuard .eql 3 (.tmp 26) (.const (.int .i64 (1))) x y; binOp .eql 3 x y) (.tmp 26) (.const (.int .i64 (1))) (.int .i64 (LJ.k)) (.int .i64 (1)) (.bool true) (fun _ => rfl) rfl rfl (eqI hk9 _ _ _) rfl ?_
  refine wl_pick (.tmp 24) (.tmp 27) (.const (.bool false)) true (.bool true) (fun _ => rfl) rfl rfl rfl ?_
  refine wl_mv (.tmp 28) (.bool true) (fun _ => rfl) rfl rfl ?_
  refine wl_un (fun v => Instr.fieldAt 28 v 0) (.tmp 4) (pt k4 0) (pt k4 0) (fun _ => rfl) rfl (by kernel_rfl) rfl ?_
  refine wl_load 3 (.tmp 30) (pt k4 0) (.int .i64 (1)) rfl rfl (run_one Q4 3 0 rfl Try.underlying3 rfl) rfl ?_
  refine wl_bin (fun x y => do eqGuard .eql 3 (.tmp 31) (.const (.int .i64 (1))) x y; binOp .eql 3 x y) (.tmp 31) (.const (.int .i64 (1))) (.int .i64 (1)) (.int .i64 (1)) (.bool true) (fun _ => rfl) rfl rfl (by kernel_rfl) rfl ?_
  refine wl_pick (.tmp 29) (.tmp 32) (.const (.bool false)) true (.bool true) (fun _ => rfl) rfl rfl rfl ?_
  refine wl_mv (.tmp 33) (.bool true) (fun _ => rfl) rfl rfl ?_
  refine wl_un (fun v => Instr.fieldAt 28 v 1) (.tmp 4) (pt k4 0) (pt k4 1) (fun _ => rfl) rfl (by kernel_rfl) rfl ?_
  refine wl_load 26 (.tmp 35) (pt k4 1) (.agg #[.bool false, .int .u64 (l0 (150)), .int .u64 (l1 (150)), .int .u64 (l2 (150)), .int .u64 (l3 (150)), .int .i64 (2)]) rfl rfl (run_row Q4 26 1 6 [.bool false, .int .u64 (l0 (150)), .int .u64 (l1 (150)), .int .u64 (l2 (150)), .int .u64 (l3 (150)), .int .i64 (2)] rfl Try.underlying26 rfl sz26) rfl ?_
  refine wl_build 24 [(0, (.const (.int .u64 (150))))] [(0, .int .u64 (150))] (.agg #[.int .u64 (150), .int .u64 0, .int .u64 0, .int .u64 0]) rfl rfl (by kernel_rfl) rfl ?_
  refine wl_build 26 [(1, (.tmp 37)), (2, (.const (.int .i64 (2))))] [(1, .agg #[.int .u64 (150), .int .u64 0, .int .u64 0, .int .u64 0]), (2, .int .i64 (2))] (.agg #[.bool false, .int .u64 (150), .int .u64 0, .int .u64 0, .int .u64 0, .int .i64 (2)]) rfl rfl (by kernel_rfl) rfl ?_
  refine wl_bin (fun x y => do eqGuard .eql 26 (.tmp 36) (.tmp 38) x y; binOp .eql 26 x y) (.tmp 36) (.tmp 38) (.agg #[.bool false, .int .u64 (l0 (150)), .int .u64 (l1 (150)), .int .u64 (l2 (150)), .int .u64 (l3 (150)), .int .i64 (2)]) (.agg #[.bool false, .int .u64 (150), .int .u64 0, .int .u64 0, .int .u64 0, .int .i64 (2)]) (.bool true) (fun _ => rfl) rfl rfl (by kernel_rfl) rfl ?_
  refine wl_pick (.tmp 34) (.tmp 39) (.const (.bool false)) true (.bool true) (fun _ => rfl) rfl rfl rfl ?_
  refine wl_mv (.tmp 40) (.bool true) (fun _ => rfl) rfl rfl ?_
  refine wl_build 33 [] [] (.agg #[.int .i64 0, .int .i64 0, .int .i64 0, .int .i64 0, .int .i64 0, .int .u64 0, .int .u64 0, .int .u64 0, .int .u64 0, .int .u64 0, .bool false, .bool false, .int .u64 0, .int .u64 0, .int .u64 0, .int .u64 0, .int .i64 0, .bool false, .int .u64 0, .int .u64 0, .int .u64 0, .int .u64 0, .int .i64 0]) rfl rfl (by kernel_rfl) rfl ?_
  refine wl_call 16 [(.const (.int .i64 (14))), (.tmp 42), (.const (.int .i64 (2)))] _ [.int .i64 (14), .agg #[.int .i64 0, .int .i64 0, .int .i64 0, .int .i64 0, .int .i64 0, .int .u64 0, .int .u64 0, .int .u64 0, .int .u64 0, .int .u64 0, .bool false, .bool false, .int .u64 0, .int .u64 0, .int .u64 0, .int .u64 0, .int .i64 0, .bool false, .int .u64 0, .int .u64 0, .int .u64 0, .int .u64 0, .int .i64 0], .int .i64 (2)] (.agg #[.int .i64 (4), .bool false, .int .u64 (l0 (0)), .int .u64 (l1 (0)), .int .u64 (l2 (0)), .int .u64 (l3 (0)), .int .i64 (0), .bool false, .string ⟨#[]⟩, .int .i64 (4)]) rfl rfl (fun _ _ => by kernel_rfl) (val_14 sm0 2 4 false 0 0 false ⟨#[]⟩ 4 (fun w => onum_d 14 sm0 2 rfl rfl rfl)) rfl ?_
  intro w12 hq
  replace Q1 := Q1.mo hq
  replace Q2 := Q2.mo hq
  replace Q3 := Q3.mo hq
  replace Q4 := Q4.mo hq
  replace M := M.trans hq
  clear hq
  refine wl_un (fun v => Instr.field 28 v 4) (.tmp 43) (.agg #[.int .i64 (4), .bool false, .int .u64 (l0 (0)), .int .u64 (l1 (0)), .int .u64 (l2 (0)), .int .u64 (l3 (0)), .int .i64 (0), .bool false, .string ⟨#[]⟩, .int .i64 (4)]) (.int .i64 (4)) (fun _ => rfl) rfl (by kernel_rfl) rfl ?_
  refine wl_bin (fun x y => do eqGuard .eql 3 (.tmp 44) (.const (.int .i64 (4))) x y; binOp .eql 3 x y) (.tmp 44) (.const (.int .i64 (4))) (.int .i64 (4)) (.int .i64 (4)) (.bool true) (fun _ => rfl) rfl rfl (by kernel_rfl) rfl ?_
  refine wl_pick (.tmp 41) (.tmp 45) (.const (.bool false)) true (.bool true) (fun _ => rfl) rfl rfl rfl ?_
  refine wl_mv (.tmp 46) (.bool true) (fun _ => rfl) rfl rfl ?_
  refine w_nil ?_
  refine xn_then ?_
  refine w_ret ?_
  exact w_ret1 _ (.bool true) rfl rfl ⟨rfl, M⟩
end
end Go.Proofs.Ythpekbohmfmffaa
/-
  The same is the same: wide numbers.
-/
namespace Go.Proofs.Ythpekbohmfmffaa
open Go.RowKit
theorem q5_0 (x0 x1 x2 x3 x4 : Value) (w : World) : (part 22 #[x0, x1, x2, x3, x4] 0).run Try.prog w = .ok x0 w := by kernel_rfl
theorem q5_1 (x0 x1 x2 x3 x4 : Value) (w : World) : (part 22 #[x0, x1, x2, x3, x4] 1).run Try.prog w = .ok x1 w := by kernel_rfl
theorem q5_2 (x0 x1 x2 x3 x4 : Value) (w : World) : (part 22 #[x0, x1, x2, x3, x4] 2).run Try.prog w = .ok x2 w := by kernel_rfl
theorem q5_3 (x0 x1 x2 x3 x4 : Value) (w : World) : (part 22 #[x0, x1, x2, x3, x4] 3).run Try.prog w = .ok x3 w := by kernel_rfl
theorem q5_4 (x0 x1 x2 x3 x4 : Value) (w : World) : (part 22 #[x0, x1, x2, x3, x4] 4).run Try.prog w = .ok x4 w := by kernel_rfl
theorem eq5s (d : Nat) (a b c e f : Int) (w : World) : (Op.equalIn (d + 1 + 1) 31 (.agg #[.int .u64 a, .int .u64 b, .int .u64 c, .int .u64 e, .int .u64 f]) (.agg #[.int .u64 a, .int .u64 b, .int .u64 c, .int .u64 e, .int .u64 f])).run Try.prog w = .ok true w := by
  obtain ⟨j, hj⟩ := info22
  rw [run_equalIn_array w (d + 1) _ _ Try.underlying31 hj, cells22]
  have q : ∀ (x : Int), (Op.equalIn (d + 1) 22 (.int .u64 x) (.int .u64 x)).run Try.prog w = .ok true w := fun x => by rw [run_equalIn_int w d 22 .u64 .u64 x x Try.underlying22]; simp
  rw [show List.range 5 = [0, 1, 2, 3, 4] from rfl]
  simp [Op.eqItems, Sem.run_bind, q5_0, q5_1, q5_2, q5_3, q5_4, Result.andThen_ok, q, Sem.run_pure]
theorem gt31 : Try.prog.eqGuardType Try.prog.depth 31 = false := by kernel_rfl
theorem eqw_run (v : Int) (x y : Operand) (w : World) : (do eqGuard .eql 31 x y (wv v) (wv v); binOp .eql 31 (wv v) (wv v)).run Try.prog w = .ok (.bool true) w :=
  eqa_run gt31 (eq5s 9998 _ _ _ _ _ w) x y
theorem eqd_same (b : Bool) (n0 n1 n2 n3 s : Int) (x y : Operand) (w : World) : (do eqGuard .eql 26 x y (.agg #[.bool b, .int .u64 n0, .int .u64 n1, .int .u64 n2, .int .u64 n3, .int .i64 s]) (.agg #[.bool b, .int .u64 n0, .int .u64 n1, .int .u64 n2, .int .u64 n3, .int .i64 s]); binOp .eql 26 (.agg #[.bool b, .int .u64 n0, .int .u64 n1, .int .u64 n2, .int .u64 n3, .int .i64 s]) (.agg #[.bool b, .int .u64 n0, .int .u64 n1, .int .u64 n2, .int .u64 n3, .int .i64 s])).run Try.prog w = .ok (.bool true) w :=
  eqd_run (by simp) x y w
end Go.Proofs.Ythpekbohmfmffaa
/-
  SummaryWide: the law's walk.
-/
namespace Go.Proofs.Ythpekbohmfmffaa
open Go.RowKit
section
variable {w : World}
theorem wide_n (a b : Int) (db : Bool) (dn ds : Int) (hn0 : 0 ≤ dn) (hn : dn < MM) : Calls Try.prog 6 #[wv a, wv b, dc db dn ds] w fun e w' => e = .returned (.bool true) ∧ Mo w w' := by
  obtain ⟨nb, nn, ns, ec, hf⟩ := nrw_form a ds
  have h18 : ∀ w, Calls Try.prog 18 #[wv a, .int .i64 ds] w fun e w' => e = .returned (.tuple #[dc nb nn ns, .int .i64 ec]) ∧ Mo w w' := fun w => by rw [← hf]; exact narrow_n a ds
  have h15 : ∀ w, Calls Try.prog 15 #[wv a, .int .i64 ds] w fun e w' => e = .returned (.tuple #[dc nb nn ns, .int .i64 ec]) ∧ Mo w w' := fun w => by rw [← hf]; exact rnarrow_n a ds
  refine w_enter 52 Try.func6 Try.ntmps6 rfl rfl ?_
  have M : Mo w w := Mo.refl _
  refine w_seq ?_
  refine w_reg ?_
  refine wl_box 31 (.tmp 0) (wv (a)) ((wla (a))) rfl rfl (fun _ => by kernel_rfl) rfl ?_
  intro k1 w1 hk hz hq Q1
  have N_k1 : w.heap.size ≤ k1 := by have := M.size; omega
  replace M := M.trans hq
  clear hk hz hq
  refine wl_box 31 (.tmp 1) (wv (b)) ((wla (b))) rfl rfl (fun _ => by kernel_rfl) rfl ?_
  intro k2 w2 hk hz hq Q2
  have ne_k1_k2 : k1 ≠ k2 := by have := Q1.lt; omega
  have N_k2 : w.heap.size ≤ k2 := by have := M.size; omega
  replace Q1 := Q1.mo hq
  replace M := M.trans hq
  clear hk hz hq
  refine wl_box 26 (.tmp 2) (.agg #[.bool db, .int .u64 (l0 (dn)), .int .u64 (l1 (dn)), .int .u64 (l2 (dn)), .int .u64 (l3 (dn)), .int .i64 (ds)]) (#[.bool db, .int .u64 (l0 (dn)), .int .u64 (l1 (dn)), .int .u64 (l2 (dn)), .int .u64 (l3 (dn)), .int .i64 (ds)]) rfl rfl (fun _ => by kernel_rfl) rfl ?_
  intro k3 w3 hk hz hq Q3
  have ne_k1_k3 : k1 ≠ k3 := by have := Q1.lt; omega
  have ne_k2_k3 : k2 ≠ k3 := by have := Q2.lt; omega
  have N_k3 : w.heap.size ≤ k3 := by have := M.size; omega
  replace Q1 := Q1.mo hq
  replace Q2 := Q2.mo hq
  replace M := M.trans hq
  clear hk hz hq
  refine wl_mv (.const (.bool false)) (.bool false) (fun _ => rfl) rfl rfl ?_
  refine w_nil ?_
  refine xn_then ?_
  refine w_seq ?_
  refine w_reg ?_
  refine wl_load 31 (.tmp 3) (pt k1 0) (wv (a)) rfl rfl (run_row Q1 31 0 5 (wll (a)) rfl Try.underlying31 rfl sz31) rfl ?_
  refine wl_un (fun v => Instr.fieldAt 26 v 2) (.tmp 5) (pt k3 0) (pt k3 5) (fun _ => rfl) rfl (by kernel_rfl) rfl ?_
  refine wl_load 3 (.tmp 13) (pt k3 5) (.int .i64 (ds)) rfl rfl (run_one Q3 3 5 rfl Try.underlying3 rfl) rfl ?_
  refine wl_call 18 [(.tmp 12), (.tmp 14)] _ [wv (a), .int .i64 (ds)] (.tuple #[.agg #[.bool nb, .int .u64 (l0 (nn)), .int .u64 (l1 (nn)), .int .u64 (l2 (nn)), .int .u64 (l3 (nn)), .int .i64 (ns)], .int .i64 (ec)]) rfl rfl (fun _ _ => by kernel_rfl) (h18 _) rfl ?_
  intro w4 hq
  replace Q1 := Q1.mo hq
  replace Q2 := Q2.mo hq
  replace Q3 := Q3.mo hq
  replace M := M.trans hq
  clear hq
  refine wl_mv (.tmp 15) (.tuple #[.agg #[.bool nb, .int .u64 (l0 (nn)), .int .u64 (l1 (nn)), .int .u64 (l2 (nn)), .int .u64 (l3 (nn)), .int .i64 (ns)], .int .i64 (ec)]) (fun _ => rfl) rfl rfl ?_
  refine wl_un (fun v => Instr.extract v 0) (.tmp 11) (.tuple #[.agg #[.bool nb, .int .u64 (l0 (nn)), .int .u64 (l1 (nn)), .int .u64 (l2 (nn)), .int .u64 (l3 (nn)), .int .i64 (ns)], .int .i64 (ec)]) (.agg #[.bool nb, .int .u64 (l0 (nn)), .int .u64 (l1 (nn)), .int .u64 (l2 (nn)), .int .u64 (l3 (nn)), .int .i64 (ns)]) (fun _ => rfl) rfl (by kernel_rfl) rfl ?_
  refine wl_un (fun v => Instr.extract v 1) (.tmp 11) (.tuple #[.agg #[.bool nb, .int .u64 (l0 (nn)), .int .u64 (l1 (nn)), .int .u64 (l2 (nn)), .int .u64 (l3 (nn)), .int .i64 (ns)], .int .i64 (ec)]) (.int .i64 (ec)) (fun _ => rfl) rfl (by kernel_rfl) rfl ?_
  refine wl_alloc 26 #[.bool false, .int .u64 0, .int .u64 0, .int .u64 0, .int .u64 0, .int .i64 0] rfl (fun _ => by kernel_rfl) rfl ?_
  intro k4 w5 hk hz hq Q4
  have ne_k1_k4 : k1 ≠ k4 := by have := Q1.lt; omega
  have ne_k2_k4 : k2 ≠ k4 := by have := Q2.lt; omega
  have ne_k3_k4 : k3 ≠ k4 := by have := Q3.lt; omega
  have N_k4 : w.heap.size ≤ k4 := by have := M.size; omega
  replace Q1 := Q1.mo hq
  replace Q2 := Q2.mo hq
  replace Q3 := Q3.mo hq
  replace M := M.trans hq
  clear hk hz hq
  refine wl_st 26 (.tmp 7) (.tmp 16) k4 0 #[.bool nb, .int .u64 (l0 (nn)), .int .u64 (l1 (nn)), .int .u64 (l2 (nn)), .int .u64 (l3 (nn)), .int .i64 (ns)] [.bool false, .int .u64 0, .int .u64 0, .int .u64 0, .int .u64 0, .int .i64 0] [.bool nb, .int .u64 (l0 (nn)), .int .u64 (l1 (nn)), .int .u64 (l2 (nn)), .int .u64 (l3 (nn)), .int .i64 (ns)] Q4 rfl rfl rfl rfl rfl sz26 rfl rfl rfl ?_
  intro w6 hS Qn
  replace Q4 := Qn
  clear Qn
  replace Q1 := hS.other _ _ ne_k1_k4 Q1
  replace Q2 := hS.other _ _ ne_k2_k4 Q2
  replace Q3 := hS.other _ _ ne_k3_k4 Q3
  replace M := hS.mo _ N_k4 M
  clear hS
  refine wl_mv (.tmp 17) (.int .i64 (ec)) (fun _ => rfl) rfl rfl ?_
  refine w_nil ?_
  refine xn_then ?_
  refine w_seq ?_
  refine w_reg ?_
  refine wl_load 31 (.tmp 3) (pt k1 0) (wv (a)) rfl rfl (run_row Q1 31 0 5 (wll (a)) rfl Try.underlying31 rfl sz31) rfl ?_
  refine wl_un (fun v => Instr.fieldAt 26 v 2) (.tmp 5) (pt k3 0) (pt k3 5) (fun _ => rfl) rfl (by kernel_rfl) rfl ?_
  refine wl_load 3 (.tmp 20) (pt k3 5) (.int .i64 (ds)) rfl rfl (run_one Q3 3 5 rfl Try.underlying3 rfl) rfl ?_
  refine wl_call 15 [(.tmp 19), (.tmp 21)] _ [wv (a), .int .i64 (ds)] (.tuple #[.agg #[.bool nb, .int .u64 (l0 (nn)), .int .u64 (l1 (nn)), .int .u64 (l2 (nn)), .int .u64 (l3 (nn)), .int .i64 (ns)], .int .i64 (ec)]) rfl rfl (fun _ _ => by kernel_rfl) (h15 _) rfl ?_
  intro w7 hq
  replace Q1 := Q1.mo hq
  replace Q2 := Q2.mo hq
  replace Q3 := Q3.mo hq
  replace Q4 := Q4.mo hq
  replace M := M.trans hq
  clear hq
  refine wl_mv (.tmp 22) (.tuple #[.agg #[.bool nb, .int .u64 (l0 (nn)), .int .u64 (l1 (nn)), .int .u64 (l2 (nn)), .int .u64 (l3 (nn)), .int .i64 (ns)], .int .i64 (ec)]) (fun _ => rfl) rfl rfl ?_
  refine wl_un (fun v => Instr.extract v 0) (.tmp 18) (.tuple #[.agg #[.bool nb, .int .u64 (l0 (nn)), .int .u64 (l1 (nn)), .int .u64 (l2 (nn)), .int .u64 (l3 (nn)), .int .i64 (ns)], .int .i64 (ec)]) (.agg #[.bool nb, .int .u64 (l0 (nn)), .int .u64 (l1 (nn)), .int .u64 (l2 (nn)), .int .u64 (l3 (nn)), .int .i64 (ns)]) (fun _ => rfl) rfl (by kernel_rfl) rfl ?_
  refine wl_un (fun v => Instr.extract v 1) (.tmp 18) (.tuple #[.agg #[.bool nb, .int .u64 (l0 (nn)), .int .u64 (l1 (nn)), .int .u64 (l2 (nn)), .int .u64 (l3 (nn)), .int .i64 (ns)], .int .i64 (ec)]) (.int .i64 (ec)) (fun _ => rfl) rfl (by kernel_rfl) rfl ?_
  refine wl_alloc 26 #[.bool false, .int .u64 0, .int .u64 0, .int .u64 0, .int .u64 0, .int .i64 0] rfl (fun _ => by kernel_rfl) rfl ?_
  intro k5 w8 hk hz hq Q5
  have ne_k1_k5 : k1 ≠ k5 := by have := Q1.lt; omega
  have ne_k2_k5 : k2 ≠ k5 := by have := Q2.lt; omega
  have ne_k3_k5 : k3 ≠ k5 := by have := Q3.lt; omega
  have ne_k4_k5 : k4 ≠ k5 := by have := Q4.lt; omega
  have N_k5 : w.heap.size ≤ k5 := by have := M.size; omega
  replace Q1 := Q1.mo hq
  replace Q2 := Q2.mo hq
  replace Q3 := Q3.mo hq
  replace Q4 := Q4.mo hq
  replace M := M.trans hq
  clear hk hz hq
  refine wl_st 26 (.tmp 9) (.tmp 23) k5 0 #[.bool nb, .int .u64 (l0 (nn)), .int .u64 (l1 (nn)), .int .u64 (l2 (nn)), .int .u64 (l3 (nn)), .int .i64 (ns)] [.bool false, .int .u64 0, .int .u64 0, .int .u64 0, .int .u64 0, .int .i64 0] [.bool nb, .int .u64 (l0 (nn)), .int .u64 (l1 (nn)), .int .u64 (l2 (nn)), .int .u64 (l3 (nn)), .int .i64 (ns)] Q5 rfl rfl rfl rfl rfl sz26 rfl rfl rfl ?_
  intro w9 hS Qn
  replace Q5 := Qn
  clear Qn
  replace Q1 := hS.other _ _ ne_k1_k5 Q1
  replace Q2 := hS.other _ _ ne_k2_k5 Q2
  replace Q3 := hS.other _ _ ne_k3_k5 Q3
  replace Q4 := hS.other _ _ ne_k4_k5 Q4
  replace M := hS.mo _ N_k5 M
  clear hS
  refine wl_mv (.tmp 24) (.int .i64 (ec)) (fun _ => rfl) rfl rfl ?_
  refine w_nil ?_
  refine xn_then ?_
  refine w_seq ?_
  refine w_any 24 [.inl (.bool true), .inl (.bool true), .inl (wv (a)), .inl (wv (b)), .inl (wv (a + b)), .inl (wv (a)), .inl (wv (b)), .inl (wv (a + b)), .inl (.bool true), .inl (.bool true), .inl (.bool true), .inl (.agg #[.bool nb, .int .u64 (l0 (nn)), .int .u64 (l1 (nn)), .int .u64 (l2 (nn)), .int .u64 (l3 (nn)), .int .i64 (ns)]), .inl (.agg #[.bool nb, .int .u64 (l0 (nn)), .int .u64 (l1 (nn)), .int .u64 (l2 (nn)), .int .u64 (l3 (nn)), .int .i64 (ns)]), .inl (.bool true), .inl (.bool true), .inl (.bool true), .inl (.int .i64 (ec)), .inl (.int .i64 (ec)), .inl (.bool true), .inl (.bool true), .inl (.bool true), .inl (.agg #[.bool db, .int .u64 (l0 (dn)), .int .u64 (l1 (dn)), .int .u64 (l2 (dn)), .int .u64 (l3 (dn)), .int .i64 (ds)]), .inl (wv (sv db dn)), .inl (.agg #[.bool db, .int .u64 (l0 (dn)), .int .u64 (l1 (dn)), .int .u64 (l2 (dn)), .int .u64 (l3 (dn)), .int .i64 (ds)])] [] (by kernel_rfl) (by kernel_rfl) (by kernel_rfl) (by kernel_rfl) rfl (by kernel_rfl) (by kernel_rfl) late_nil ?_ ?_ ?_
  · exact Ds.none rfl
  · refine ea_cons ?_ (ea_cons ?_ (ea_cons ?_ (ea_cons ?_ (ea_cons ?_ (ea_cons ?_ (ea_cons ?_ (ea_cons ?_ (ea_cons ?_ (ea_cons ?_ (ea_cons ?_ (ea_cons ?_ (ea_cons ?_ (ea_cons ?_ (ea_cons ?_ (ea_cons ?_ (ea_cons ?_ (ea_cons ?_ (ea_cons ?_ (ea_cons ?_ (ea_cons ?_ (ea_cons ?_ (ea_cons ?_ (ea_cons ?_ (ea_nil))))))))))))))))))))))))
    · exact og_eq (.bool true) rfl (fun f wf hq hd K hK => go_run rfl (wo_call 9 [] _ [] (.bool true) rfl rfl (fun _ _ => by kernel_rfl) (live_n) hK))
    · exact og_eq (.bool true) rfl (fun f wf hq hd K hK => go_run rfl (wo_mv (.tmp 25) (.bool true) (fun _ => rfl) (hd 0 rfl) (hK _ (Mo.refl _))))
    · exact og_eq (wv (a)) rfl (fun f wf hq hd K hK => have Q1 := Q1.mo hq; go_run (wnt_g rfl rfl rfl (hd 1 rfl) rfl) (wo_load 31 (.tmp 3) (pt k1 0) (wv (a)) rfl rfl (run_row Q1 31 0 5 (wll (a)) rfl Try.underlying31 rfl sz31) (hK _ (Mo.refl _))))
    · exact og_eq (wv (b)) rfl (fun f wf hq hd K hK => have Q2 := Q2.mo hq; go_run (wnt_g rfl rfl rfl (hd 1 rfl) rfl) (wo_load 31 (.tmp 4) (pt k2 0) (wv (b)) rfl rfl (run_row Q2 31 0 5 (wll (b)) rfl Try.underlying31 rfl sz31) (hK _ (Mo.refl _))))
    · exact og_eq (wv (a + b)) rfl (fun f wf hq hd K hK => go_run (wnt_g rfl rfl rfl (hd 1 rfl) rfl) (wo_call 19 [(.tmp 27), (.tmp 28)] _ [wv (a), wv (b)] (wv (a + b)) rfl (li2 (hd 2 rfl) (hd 3 rfl)) (fun _ _ => by kernel_rfl) (addw_n a b) hK))
    · exact og_eq (wv (a)) rfl (fun f wf hq hd K hK => have Q1 := Q1.mo hq; go_run (wnt_g rfl rfl rfl (hd 1 rfl) rfl) (wo_load 31 (.tmp 3) (pt k1 0) (wv (a)) rfl rfl (run_row Q1 31 0 5 (wll (a)) rfl Try.underlying31 rfl sz31) (hK _ (Mo.refl _))))
    · exact og_eq (wv (b)) rfl (fun f wf hq hd K hK => have Q2 := Q2.mo hq; go_run (wnt_g rfl rfl rfl (hd 1 rfl) rfl) (wo_load 31 (.tmp 4) (pt k2 0) (wv (b)) rfl rfl (run_row Q2 31 0 5 (wll (b)) rfl Try.underlying31 rfl sz31) (hK _ (Mo.refl _))))
    · exact og_eq (wv (a + b)) rfl (fun f wf hq hd K hK => go_run (wnt_g rfl rfl rfl (hd 1 rfl) rfl) (wo_call 20 [(.tmp 30), (.tmp 31)] _ [wv (a), wv (b)] (wv (a + b)) rfl (li2 (hd 5 rfl) (hd 6 rfl)) (fun _ _ => by kernel_rfl) (raddw_n a b) hK))
    · exact og_eq (.bool true) rfl (fun f wf hq hd K hK => go_run (wnt_g rfl rfl rfl (hd 1 rfl) rfl) (wo_bin (fun x y => do eqGuard .eql 31 (.tmp 29) (.tmp 32) x y; binOp .eql 31 x y) (.tmp 29) (.tmp 32) (wv (a + b)) (wv (a + b)) (.bool true) (fun _ => rfl) (hd 4 rfl) (hd 7 rfl) (eqw_run _ _ _ _) (hK _ (Mo.refl _))))
    · exact og_eq (.bool true) rfl (fun f wf hq hd K hK => go_run rfl (wo_pick (.tmp 26) (.tmp 33) (.const (.bool false)) true (.bool true) (fun _ => rfl) (hd 1 rfl) (hd 8 rfl) (hK _ (Mo.refl _))))
    · exact og_eq (.bool true) rfl (fun f wf hq hd K hK => go_run rfl (wo_mv (.tmp 34) (.bool true) (fun _ => rfl) (hd 9 rfl) (hK _ (Mo.refl _))))
    · exact og_eq (.agg #[.bool nb, .int .u64 (l0 (nn)), .int .u64 (l1 (nn)), .int .u64 (l2 (nn)), .int .u64 (l3 (nn)), .int .i64 (ns)]) rfl (fun f wf hq hd K hK => have Q4 := Q4.mo hq; go_run (wnt_g rfl rfl rfl (hd 10 rfl) rfl) (wo_load 26 (.tmp 7) (pt k4 0) (.agg #[.bool nb, .int .u64 (l0 (nn)), .int .u64 (l1 (nn)), .int .u64 (l2 (nn)), .int .u64 (l3 (nn)), .int .i64 (ns)]) rfl rfl (run_row Q4 26 0 6 [.bool nb, .int .u64 (l0 (nn)), .int .u64 (l1 (nn)), .int .u64 (l2 (nn)), .int .u64 (l3 (nn)), .int .i64 (ns)] rfl Try.underlying26 rfl sz26) (hK _ (Mo.refl _))))
    · exact og_eq (.agg #[.bool nb, .int .u64 (l0 (nn)), .int .u64 (l1 (nn)), .int .u64 (l2 (nn)), .int .u64 (l3 (nn)), .int .i64 (ns)]) rfl (fun f wf hq hd K hK => have Q5 := Q5.mo hq; go_run (wnt_g rfl rfl rfl (hd 10 rfl) rfl) (wo_load 26 (.tmp 9) (pt k5 0) (.agg #[.bool nb, .int .u64 (l0 (nn)), .int .u64 (l1 (nn)), .int .u64 (l2 (nn)), .int .u64 (l3 (nn)), .int .i64 (ns)]) rfl rfl (run_row Q5 26 0 6 [.bool nb, .int .u64 (l0 (nn)), .int .u64 (l1 (nn)), .int .u64 (l2 (nn)), .int .u64 (l3 (nn)), .int .i64 (ns)] rfl Try.underlying26 rfl sz26) (hK _ (Mo.refl _))))
    · exact og_eq (.bool true) rfl (fun f wf hq hd K hK => go_run (wnt_g rfl rfl rfl (hd 10 rfl) rfl) (wo_bin (fun x y => do eqGuard .eql 26 (.tmp 36) (.tmp 37) x y; binOp .eql 26 x y) (.tmp 36) (.tmp 37) (.agg #[.bool nb, .int .u64 (l0 (nn)), .int .u64 (l1 (nn)), .int .u64 (l2 (nn)), .int .u64 (l3 (nn)), .int .i64 (ns)]) (.agg #[.bool nb, .int .u64 (l0 (nn)), .int .u64 (l1 (nn)), .int .u64 (l2 (nn)), .int .u64 (l3 (nn)), .int .i64 (ns)]) (.bool true) (fun _ => rfl) (hd 11 rfl) (hd 12 rfl) (eqd_same _ _ _ _ _ _ _ _ _) (hK _ (Mo.refl _))))
    · exact og_eq (.bool true) rfl (fun f wf hq hd K hK => go_run rfl (wo_pick (.tmp 35) (.tmp 38) (.const (.bool false)) true (.bool true) (fun _ => rfl) (hd 10 rfl) (hd 13 rfl) (hK _ (Mo.refl _))))
    · exact og_eq (.bool true) rfl (fun f wf hq hd K hK => go_run rfl (wo_mv (.tmp 39) (.bool true) (fun _ => rfl) (hd 14 rfl) (hK _ (Mo.refl _))))
    · exact og_eq (.int .i64 (ec)) rfl (fun f wf hq hd K hK => go_run (wnt_g rfl rfl rfl (hd 15 rfl) rfl) (wo_mv (.tmp 8) (.int .i64 (ec)) (fun _ => rfl) rfl (hK _ (Mo.refl _))))
    · exact og_eq (.int .i64 (ec)) rfl (fun f wf hq hd K hK => go_run (wnt_g rfl rfl rfl (hd 15 rfl) rfl) (wo_mv (.tmp 10) (.int .i64 (ec)) (fun _ => rfl) rfl (hK _ (Mo.refl _))))
    · exact og_eq (.bool true) rfl (fun f wf hq hd K hK => go_run (wnt_g rfl rfl rfl (hd 15 rfl) rfl) (wo_bin (fun x y => do eqGuard .eql 40 (.tmp 41) (.tmp 42) x y; binOp .eql 40 x y) (.tmp 41) (.tmp 42) (.int .i64 (ec)) (.int .i64 (ec)) (.bool true) (fun _ => rfl) (hd 16 rfl) (hd 17 rfl) (eqE (decide_eq_true rfl) _ _ _) (hK _ (Mo.refl _))))
    · exact og_eq (.bool true) rfl (fun f wf hq hd K hK => go_run rfl (wo_pick (.tmp 40) (.tmp 43) (.const (.bool false)) true (.bool true) (fun _ => rfl) (hd 15 rfl) (hd 18 rfl) (hK _ (Mo.refl _))))
    · exact og_eq (.bool true) rfl (fun f wf hq hd K hK => go_run rfl (wo_mv (.tmp 44) (.bool true) (fun _ => rfl) (hd 19 rfl) (hK _ (Mo.refl _))))
    · exact og_eq (.agg #[.bool db, .int .u64 (l0 (dn)), .int .u64 (l1 (dn)), .int .u64 (l2 (dn)), .int .u64 (l3 (dn)), .int .i64 (ds)]) rfl (fun f wf hq hd K hK => have Q3 := Q3.mo hq; go_run (wnt_g rfl rfl rfl (hd 20 rfl) rfl) (wo_load 26 (.tmp 5) (pt k3 0) (.agg #[.bool db, .int .u64 (l0 (dn)), .int .u64 (l1 (dn)), .int .u64 (l2 (dn)), .int .u64 (l3 (dn)), .int .i64 (ds)]) rfl rfl (run_row Q3 26 0 6 [.bool db, .int .u64 (l0 (dn)), .int .u64 (l1 (dn)), .int .u64 (l2 (dn)), .int .u64 (l3 (dn)), .int .i64 (ds)] rfl Try.underlying26 rfl sz26) (hK _ (Mo.refl _))))
    · exact og_eq (wv (sv db dn)) rfl (fun f wf hq hd K hK => go_run (wnt_g rfl rfl rfl (hd 20 rfl) rfl) (wo_call 21 [(.tmp 46)] _ [.agg #[.bool db, .int .u64 (l0 (dn)), .int .u64 (l1 (dn)), .int .u64 (l2 (dn)), .int .u64 (l3 (dn)), .int .i64 (ds)]] (wv (sv db dn)) rfl (li1 (hd 21 rfl)) (fun _ _ => by kernel_rfl) (widen_n db dn ds hn0 hn) hK))
    · exact og_eq (.agg #[.bool db, .int .u64 (l0 (dn)), .int .u64 (l1 (dn)), .int .u64 (l2 (dn)), .int .u64 (l3 (dn)), .int .i64 (ds)]) rfl (fun f wf hq hd K hK => have Q3 := Q3.mo hq; go_run (wnt_g rfl rfl rfl (hd 20 rfl) rfl) (wo_load 26 (.tmp 5) (pt k3 0) (.agg #[.bool db, .int .u64 (l0 (dn)), .int .u64 (l1 (dn)), .int .u64 (l2 (dn)), .int .u64 (l3 (dn)), .int .i64 (ds)]) rfl rfl (run_row Q3 26 0 6 [.bool db, .int .u64 (l0 (dn)), .int .u64 (l1 (dn)), .int .u64 (l2 (dn)), .int .u64 (l3 (dn)), .int .i64 (ds)] rfl Try.underlying26 rfl sz26) (hK _ (Mo.refl _))))
  intro kf10 w10 hq hR hne
  replace Q1 := Q1.mo hq
  replace Q2 := Q2.mo hq
  replace Q3 := Q3.mo hq
  replace Q4 := Q4.mo hq
  replace Q5 := Q5.mo hq
  replace M := M.trans hq
  clear hq hR hne
  refine wl_call 22 [(.tmp 48)] _ [.agg #[.bool db, .int .u64 (l0 (dn)), .int .u64 (l1 (dn)), .int .u64 (l2 (dn)), .int .u64 (l3 (dn)), .int .i64 (ds)]] (wv (sv db dn)) rfl rfl (fun _ _ => by kernel_rfl) (rwiden_n db dn ds hn0 hn) rfl ?_
  intro w11 hq
  replace Q1 := Q1.mo hq
  replace Q2 := Q2.mo hq
  replace Q3 := Q3.mo hq
  replace Q4 := Q4.mo hq
  replace Q5 := Q5.mo hq
  replace M := M.trans hq
  clear hq
  refine wl_bin (fun x y => do eqGuard .eql 31 (.tmp 47) (.tmp 49) x y; binOp .eql 31 x y) (.tmp 47) (.tmp 49) (wv (sv db dn)) (wv (sv db dn)) (.bool true) (fun _ => rfl) rfl rfl (eqw_run _ _ _ _) rfl ?_
  refine wl_pick (.tmp 45) (.tmp 50) (.const (.bool false)) true (.bool true) (fun _ => rfl) rfl rfl rfl ?_
  refine wl_mv (.tmp 51) (.bool true) (fun _ => rfl) rfl rfl ?_
  refine w_nil ?_
  refine xn_then ?_
  refine w_ret ?_
  exact w_ret1 _ (.bool true) rfl rfl ⟨rfl, M⟩
end
end Go.Proofs.Ythpekbohmfmffaa
/-
  Summaries of one scale: what is needed of their order.
-/
namespace Go.Proofs.Ythpekbohmfmffaa
open Go.RowKit
/-- A decimal that may be, at a scale. -/
def Vd (s : Int) (d : D3) : Prop := d.ok ∧ ck d.b d.n d.s = 0 ∧ d.s = s
def D3.val (d : D3) : Int := sv d.b d.n
theorem cmpv_vd {s : Int} {a b : D3} (ha : Vd s a) (hb : Vd s b) : cmpv a b = cm a.val b.val := by
  unfold cmpv
  rw [if_pos ⟨ha.2.1, hb.2.1⟩, ha.2.2, hb.2.2, show max s s - s = ((0 : Nat) : Int) by omega, pw_nat]
  unfold D3.val
  rw [Int.pow_zero, Int.mul_one, Int.mul_one]
theorem vd_inj {s : Int} {a b : D3} (ha : Vd s a) (hb : Vd s b) (h : a.val = b.val) : a = b := by
  obtain ⟨h1, h2, h3⟩ := dz_sv ha.1.1 ha.2.1
  obtain ⟨g1, g2, g3⟩ := dz_sv hb.1.1 hb.2.1
  unfold D3.val at h
  rw [h] at h3
  have en : a.n = b.n := h3.symm.trans g3
  have e4 := neg_sv (b := a.b) ha.1.1
  have e5 := neg_sv (b := b.b) hb.1.1
  obtain ⟨ab, an, az⟩ := a
  obtain ⟨bb, bn, bz⟩ := b
  have es : az = bz := ha.2.2.trans hb.2.2.symm
  simp only at en h ha hb
  subst en es
  have hc := ha.2.1
  have hd := hb.2.1
  simp only at hc hd
  unfold ck at hc hd
  unfold sv at h
  have hn := ha.1.1
  simp only at hn
  by_cases hz : an = 0
  · subst hz
    cases ab <;> cases bb <;> simp_all
  · cases ab <;> cases bb
    · rfl
    · simp at h; omega
    · simp at h; omega
    · rfl
theorem w64_l (a b : Int) : w64 (w64 a + b) = w64 (a + b) := by
  unfold w64; simp only [IntKind.wrap_i64]; omega
theorem w64_r (a b : Int) : w64 (a + w64 b) = w64 (a + b) := by
  unfold w64; simp only [IntKind.wrap_i64]; omega
theorem les_assoc (a b c : Int) : les (les a b) c = les a (les b c) := by
  unfold les
  by_cases ha : a = 0
  · simp only [ha, if_true]
  · by_cases hb : b = 0
    · simp only [ha, hb, if_true, if_false]
    · by_cases hc : c = 0
      · simp only [ha, hb, hc, if_true, if_false, show ¬ min a b = 0 by omega]
      · simp only [ha, hb, hc, if_false, show ¬ min a b = 0 by omega, show ¬ min b c = 0 by omega]; omega
end Go.Proofs.Ythpekbohmfmffaa
