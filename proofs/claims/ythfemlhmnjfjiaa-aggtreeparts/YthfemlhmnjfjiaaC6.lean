/-
  A part of the proof.
-/
import Derived.Test.YthfemlhmnjfjiaaC2
import Derived.Test.YthfemlhmnjfjiaaC5
import Derived.Test.YthfemlhmnjfjiaaC3
/-
  A region that draws its order, once more: an operation may yield a slice of a new block, too.
-/
namespace Go.Proofs.Ythfemlhmnjfjiaa.X
open Go.RowKit
/-- What an operation yields: a value, or the address of a new block with such cells. -/
abbrev Sp := Sum Value (List Value × Option Nat)
def nvv (z : List Value × Option Nat) (k : Nat) : Value := match z.2 with
  | none => pt k 0
  | some n => .slice (some ⟨k, 0, none⟩) n n
theorem nvv_inj {z : List Value × Option Nat} {a b : Nat} (h : nvv z a = nvv z b) : a = b := by
  obtain ⟨cs, o⟩ := z
  cases o with
  | none => simpa [nvv] using h
  | some n => simpa [nvv] using h
def spNew : Sp → Bool
  | .inl _ => false
  | .inr z => z.2.isNone
def spDen (N : Nat) : Sp → Value → World → Prop
  | .inl v, u, _ => u = v
  | .inr zs, u, w => ∃ k, u = nvv zs k ∧ N ≤ k ∧ At w k zs.1
theorem spMo {N : Nat} {s : Sp} {u : Value} {w w' : World} (m : Mo w w') (h : spDen N s u w) : spDen N s u w' := by
  cases s with
  | inl v => exact h
  | inr zs => obtain ⟨k, h1, h2, h3⟩ := h; exact ⟨k, h1, h2, h3.mo m⟩
def spAt (sp : List Sp) (i : Nat) : Sp := (sp[i]?).getD (.inl undef)
/-- New blocks are apart. -/
def Ds (sp : List Sp) (f : Nat → Value) (w : World) : Prop :=
  (∀ j, spNew (spAt sp j) = true → ∀ k, f j = pt k 0 → k < w.heap.size) ∧ ∀ i j, spNew (spAt sp i) = true → spNew (spAt sp j) = true → i ≠ j → ∀ k, f i = pt k 0 → f j ≠ pt k 0
theorem Ds.other {sp : List Sp} {f : Nat → Value} {w w' : World} {i : Nat} {v : Value} (h : Ds sp f w) (hi : spNew (spAt sp i) = false) (hz : w.heap.size ≤ w'.heap.size) : Ds sp (upd f i v) w' := by
  have e : ∀ j, spNew (spAt sp j) = true → upd f i v j = f j := fun j hj => by
    unfold upd; rw [if_neg]; intro e; subst e; rw [hi] at hj; cases hj
  exact ⟨fun j hj k hk => Nat.lt_of_lt_of_le (h.1 j hj k (by rw [← e j hj]; exact hk)) hz, fun a b ha hb hab k hk => by rw [e b hb]; exact h.2 a b ha hb hab k (by rw [← e a ha]; exact hk)⟩
theorem pt_inj {a b : Nat} (h : pt a 0 = pt b 0) : a = b := by simpa using h
theorem Ds.fresh {sp : List Sp} {f : Nat → Value} {w w' : World} {i k : Nat} (h : Ds sp f w) (hk : w.heap.size = k) (hz : w'.heap.size = k + 1) : Ds sp (upd f i (pt k 0)) w' := by
  refine ⟨fun j hj m hm => ?_, fun a b ha hb hab m hm hn => ?_⟩
  · unfold upd at hm
    split at hm
    · have := pt_inj hm; omega
    · have := h.1 j hj m hm; omega
  · unfold upd at hm hn
    split at hm
    · have e := pt_inj hm
      split at hn
      · omega
      · have := h.1 b hb m hn; omega
    · split at hn
      · have e := pt_inj hn; have := h.1 a ha m hm; omega
      · exact h.2 a b ha hb hab m hm hn
/-- Does number i wait for number j, by one step or more? -/
def tw (ops : List Oper) : Nat → Nat → Nat → Bool
  | 0, _, _ => false
  | f + 1, i, j => match ops[i]? with
    | some o => depb o j || (List.range i).any fun k => depb o k && tw ops f k j
    | none => false
theorem exists_least0 {p : Nat → Prop} (h : ∃ m, p m) : ∃ m, p m ∧ ∀ k, p k → m ≤ k := by
  obtain ⟨m, hm⟩ := h
  induction m using Nat.strongRecOn with
  | ind m ih =>
    by_cases hh : ∃ k, k < m ∧ p k
    · obtain ⟨k, hk, hp⟩ := hh; exact ih k hk hp
    · exact ⟨m, hm, fun k hp => Nat.le_of_not_lt (fun hk => hh ⟨k, hk, hp⟩)⟩
/-- From number m on each waits for all ahead of it. -/
def chainB (ops : List Oper) (m : Nat) (fs : List Nat) : Bool := (List.range ops.length).all fun i => Nat.blt i m || (List.range i).all fun j => fs.contains j || tw ops ops.length i j
/-- What has come up had all that it waits for. -/
def Shut (ops : List Oper) (listed : Array Bool) : Prop := ∀ i o, ops[i]? = some o → listed.getD i false = true → ∀ e ∈ o.after, Region.binds .any e = true → listed.getD e.on false = true
theorem tw_spec {ops : List Oper} {listed : Array Bool} (hc : Shut ops listed) : ∀ (f i j : Nat) (o : Oper), ops[i]? = some o → (∀ e ∈ o.after, Region.binds .any e = true → listed.getD e.on false = true) → tw ops f i j = true → listed.getD j false = true := by
  intro f
  induction f with
  | zero => intro i j o _ _ h; cases h
  | succ f ih =>
    intro i j o ho hd h
    have dep : ∀ k, depb o k = true → listed.getD k false = true := fun k hk => by
      obtain ⟨e, he, hb⟩ := List.any_eq_true.1 hk
      simp only [Bool.and_eq_true] at hb
      have := hd e (by simpa using he) hb.1
      rwa [Nat.eq_of_beq_eq_true hb.2] at this
    simp only [tw, ho, Bool.or_eq_true] at h
    rcases h with h | h
    · exact dep j h
    · obtain ⟨k, hk, hkk⟩ := List.any_eq_true.1 h
      simp only [Bool.and_eq_true] at hkk
      cases hok : ops[k]? with
      | none => cases f with
        | zero => cases hkk.2
        | succ f => simp [tw, hok] at hkk
      | some ok => exact ih k j ok hok (fun e he hb => hc k ok hok (dep k hkk.1) e he hb) hkk.2
theorem chainB_spec {ops : List Oper} {m : Nat} {fs : List Nat} (h : chainB ops m fs = true) {listed : Array Bool} (hc : Shut ops listed) {i : Nat} {o : Oper} (ho : ops[i]? = some o) (hi : m ≤ i) (hd : ∀ e ∈ o.after, Region.binds .any e = true → listed.getD e.on false = true) : ∀ j, j < i → fs.contains j = false → listed.getD j false = true := by
  intro j hj hfl
  have h1 := List.all_eq_true.1 h i (List.mem_range.2 (List.getElem?_eq_some_iff.1 ho).1)
  simp only [Bool.or_eq_true] at h1
  rcases h1 with h1 | h1
  · rw [Nat.blt_eq] at h1; omega
  · have h2 := List.all_eq_true.1 h1 j (List.mem_range.2 hj)
    rw [hfl, Bool.false_or] at h2
    exact tw_spec hc _ i j o ho hd h2
theorem Shut.step {ops : List Oper} {listed : Array Bool} (h : Shut ops listed) {i : Nat} {o : Oper} (ho : ops[i]? = some o) (hd : ∀ e ∈ o.after, Region.binds .any e = true → listed.getD e.on false = true) : Shut ops (listed.setIfInBounds i true) := by
  intro j oj hoj hl e he hb
  by_cases hij : i = j
  · subst hij
    rw [ho] at hoj; cases hoj
    exact getD_set_true (hd e he hb)
  · rw [getD_set_ne false hij] at hl
    exact getD_set_true (h j oj hoj hl e he hb)
theorem Shut.start (ops : List Oper) (n : Nat) : Shut ops (Array.replicate n false) := fun i _ _ hl => by
  exfalso
  rcases Nat.lt_or_ge i n with h' | h' <;> simp [h'] at hl
section
variable {P : Program} {ops : List Oper} {Q : Exit → Act → World → Prop} {n : Nat} {l : List (Nat × Value)}
/-- The last part. -/
theorem wpAny_chain {m : Nat} {fs : List Nat} (hfs : ∀ j, m ≤ j → fs.contains j = false) (hc : chainB ops m fs = true) (hb : edgesBack .any ops.toArray = true) : ∀ (d q fuel : Nat) (listed : Array Bool) (a : Act) (w : World), q + d = ops.length → m ≤ q → d ≤ fuel → listed.size = ops.length → Shut ops listed →
    (∀ j, j < ops.length → listed.getD j true = decide (j < q)) → wpList P ops.toArray Q (ops.drop q) a w → wpAny P .any ops.toArray Q fuel listed a w := by
  intro d
  induction d with
  | zero =>
    intro q fuel listed a w hq hm hf hz hsh hl h
    have hr : Region.ready .any ops.toArray listed = [] := by
      rw [List.eq_nil_iff_forall_not_mem]
      intro i hi
      obtain ⟨h0, o, ho, _⟩ := mem_ready.1 hi
      have hlt : i < ops.length := by have := (Array.getElem?_eq_some_iff.1 ho).1; simpa using this
      rw [hl i hlt] at h0
      have := of_decide_eq_false h0
      omega
    rw [List.drop_eq_nil_of_le (by omega)] at h
    exact wpAny_done hr h fuel
  | succ d ih =>
    intro q fuel listed a w hq hm hf hz hsh hl h
    have hqlt : q < ops.length := by omega
    cases fuel with
    | zero => omega
    | succ fuel =>
      have hone : ∀ i, i ∈ Region.ready .any ops.toArray listed ↔ i = q := by
        intro i
        constructor
        · intro hi
          obtain ⟨h0, o, ho, hall⟩ := mem_ready.1 hi
          have hlt : i < ops.length := by have := (Array.getElem?_eq_some_iff.1 ho).1; simpa using this
          rw [hl i hlt] at h0
          have hge := of_decide_eq_false h0
          rcases Nat.lt_or_ge q i with hgt | hle
          · have h1 := chainB_spec hc hsh (i := i) (o := o) (by simpa using ho) (by omega) hall q hgt (hfs q hm)
            have h2 := hl q hqlt
            have : q < listed.size := by omega
            simp [this] at h1 h2
            rw [h1] at h2; cases h2
          · omega
        · rintro rfl
          refine mem_ready.2 ⟨by rw [hl i hqlt]; simp, ops[i], by simp [hqlt], fun e he hbd => ?_⟩
          have hlt := edgesBack_spec hb (i := i) (o := ops[i]) (by simp [hqlt]) e he hbd
          have h2 := hl e.on (by omega)
          have : e.on < listed.size := by omega
          simp [this] at h2 ⊢
          rw [h2]; exact decide_eq_true hlt
      refine ⟨fun h0 => ?_, fun i hi => ?_⟩
      · have := (hone q).2 rfl; rw [h0] at this; cases this
      · have := (hone i).1 hi
        subst this
        have hdi : ∀ e ∈ (ops[i]).after, Region.binds .any e = true → listed.getD e.on false = true := by
          obtain ⟨_, o, ho, hall⟩ := mem_ready.1 hi
          have : ops[i] = o := by have := Array.getElem?_eq_some_iff.1 ho; obtain ⟨_, h⟩ := this; simpa using h
          rw [this]; exact hall
        rw [List.drop_eq_getElem_cons hqlt] at h
        have h1 : wpOp P ops.toArray Q i (wpList P ops.toArray Q (ops.drop (i + 1))) a w := by
          unfold wpOp
          have e : ops.toArray[i]? = some ops[i] := by simp [hqlt]
          rw [e]
          unfold wpList at h
          exact h
        refine wpOp_mono (fun a' w' h' => ih (i + 1) fuel _ a' w' (by omega) (by omega) (by omega) (by simpa using hz) (hsh.step (i := i) (o := ops[i]) (by simp [hqlt]) hdi) (fun j hj => ?_) h') h1
        by_cases e : i = j
        · subst e
          have : i < listed.size := by omega
          simp [this]
        · rw [getD_set_ne true e, hl j hj]
          congr 1
          rw [eq_iff_iff]; omega
/-- One operation that yields a value. -/
def OgE (P : Program) (ops : List Oper) (Q : Exit → Act → World → Prop) (n : Nat) (l : List (Nat × Value)) (m : Nat) (W : World) (sp : List Sp) (i : Nat) (o : Oper) : Prop :=
  ∀ f w, Mo W w → (∀ j, depb o j = true → spDen W.heap.size (spAt sp j) (f j) w) → ∀ K : Act → World → Prop,
    (match spAt sp i with
      | .inl v => ∀ w', Mo w w' → K (fr n (ext (asg f 0 (ops.take m) l) o.dst v)) w'
      | .inr zs => ∀ k w', w.heap.size = k → w'.heap.size = k + 1 → Mo w w' → At w' k zs.1 → K (fr n (ext (asg f 0 (ops.take m) l) o.dst (nvv zs k))) w') →
    bif wnt n (asg f 0 (ops.take m) l) ops.toArray o then o.wp P (fr n (asg f 0 (ops.take m) l)) w K Q else K (fr n (ext (asg f 0 (ops.take m) l) o.dst undef)) w
/-- Those that may come up late: each is apart from all that may come behind. -/
def floatB (ops : List Oper) (m : Nat) (fs : List Nat) : Bool := fs.all fun i => Nat.blt i m && match ops[i]? with
  | some o => (List.range ops.length).all fun j => Nat.beq j i || (Nat.blt j m && !fs.contains j) || match ops[j]? with
    | some oj => depb oj i || o.apart ops.toArray oj
    | none => true
  | none => false
/-- What a late one yields, in whatever world. -/
def LateO (P : Program) (ops : List Oper) (Q : Exit → Act → World → Prop) (n : Nat) (l : List (Nat × Value)) (m : Nat) (sp : List Sp) (i : Nat) : Prop :=
  ∃ o v, ops[i]? = some o ∧ spAt sp i = .inl v ∧ (∀ u c a w, Q (.panic c) (a.put o.dst u) w → Q (.panic c) a w) ∧
    ∀ f, (∀ j, depb o j = true → ∀ u, spAt sp j = .inl u → f j = u) → wnt n (asg f 0 (ops.take m) l) ops.toArray o = true ∧ ∀ w, (execOp (evl n (asg f 0 (ops.take m) l)) o).run P w = .ok (.value v) w
theorem r_draw {id : Nat} {W : World} (m : Nat) (sp : List Sp) (fs : List Nat) (hm : P.follows .mixedOrders = true)
    (hb : edgesBack .any ops.toArray = true) (hd : dstsApart (ops.take m) = true) (hc : chainB ops m fs = true) (hl : Nat.ble m ops.length = true) (hf : floatB ops m fs = true) (hns : Region.noSelect ops.toArray = true)
    (hlate : ∀ i, i ∈ fs → LateO P ops Q n l m sp i)
    (hD : Ds sp (slots (fr n l) (ops.take m).toArray) W)
    (hs : Each (OgE P ops Q n l m W sp) 0 (ops.take m))
    (hend : ∀ f w, Mo W w → (∀ i, Nat.blt i m = true → spDen W.heap.size (spAt sp i) (f i) w) → Ds sp f w → wpList P ops.toArray Q (ops.drop m) (fr n (asg f 0 (ops.take m) l)) w) :
    (Code.region id ops.toArray true).wp P Q (fr n l) W := by
  have hml : m ≤ ops.length := Nat.le_of_ble_eq_true hl
  have hfm : ∀ i, i ∈ fs → i < m := fun i hi => by
    have := List.all_eq_true.1 hf i hi
    simp only [Bool.and_eq_true] at this
    rw [Nat.blt_eq] at this; exact this.1
  have hfs : ∀ j, m ≤ j → fs.contains j = false := fun j hj => by
    cases e : fs.contains j with
    | false => rfl
    | true => have := hfm j (by simpa using e); omega
  refine wp_region_any hm ?_
  -- all that are not late have come up: the late ones first, then the last part
  have second : ∀ (d fuel : Nat) (listed : Array Bool) (f : Nat → Value) (w : World), listed.toList.count false = (ops.length - m) + d → (ops.length - m) + d ≤ fuel → listed.size = ops.length → Shut ops listed → (∀ j, m ≤ j → j < ops.length → listed.getD j true = false) →
      (∀ j, j < m → fs.contains j = false → listed.getD j true = true) → Mo W w → Ds sp f w → (∀ i, i < m → listed.getD i false = true → spDen W.heap.size (spAt sp i) (f i) w) → wpAny P .any ops.toArray Q fuel listed (putAll f 0 (ops.take m) (fr n l)) w := by
    intro d
    induction d with
    | zero =>
      intro fuel listed f w hcnt hfu hz hsh hun hall hW hDs hR
      have hall2 : ∀ j, j < m → listed.getD j true = true := fun j hj => by
        cases e : listed.getD j true with
        | true => rfl
        | false =>
          exfalso
          have h1 : (listed.toList.drop m).count false = ops.length - m := by
            have h2 : listed.toList.drop m = List.replicate (ops.length - m) false := by
              apply List.ext_getElem
              · simp [hz]
              · intro j h3 h4
                simp at h3
                have := hun (m + j) (by omega) (by omega)
                have h5 : m + j < listed.size := by omega
                simpa [h5] using this
            rw [h2]; simp
          have h3 := List.take_append_drop m listed.toList
          have h4 : 0 < (listed.toList.take m).count false := by
            apply List.count_pos_iff.2
            have hjs : j < listed.size := by omega
            simp [hjs] at e
            rw [List.mem_iff_getElem]
            exact ⟨j, by simp; omega, by simp [e]⟩
          rw [← h3, List.count_append] at hcnt
          omega
      refine wpAny_chain hfs hc hb (ops.length - m) m _ listed _ w (by omega) (Nat.le_refl _) (by omega) hz hsh (fun j hj => ?_) ?_
      · rcases Nat.lt_or_ge j m with h | h
        · rw [hall2 j h]; simp [h]
        · rw [hun j h hj]; simp [Nat.not_lt.2 h]
      · rw [putAll_fr]
        exact hend f w hW (fun i hi => by
          have hi' : i < m := by rw [Nat.blt_eq] at hi; exact hi
          refine hR i hi' ?_
          have h1 := hall2 i hi'
          have h2 : i < listed.size := by omega
          simpa [h2] using h1) hDs
    | succ d ih =>
      intro fuel listed f w hcnt hfu hz hsh hun hall hW hDs hR
      -- a late one that has not come up: the first
      have hex : ∃ i, i < m ∧ listed.getD i true = false := by
        apply Classical.byContradiction
        intro hno
        have hall2 : ∀ j, j < m → listed.getD j true = true := fun j hj => by
          cases e : listed.getD j true with
          | true => rfl
          | false => exact absurd ⟨j, hj, e⟩ hno
        have h3 := List.take_append_drop m listed.toList
        have h4 : (listed.toList.take m).count false = 0 := by
          rw [List.count_eq_zero]
          intro hmem
          rw [List.mem_iff_getElem] at hmem
          obtain ⟨j, hj, e⟩ := hmem
          simp at hj e
          have hj1 : j < m := by omega
          have hj2 : j < listed.size := by omega
          have := hall2 j hj1
          simp [hj2] at this
          rw [this] at e; cases e
        have h5 : (listed.toList.drop m).count false ≤ ops.length - m := by
          have := List.count_le_length (a := false) (l := listed.toList.drop m)
          simp [hz] at this; exact this
        rw [← h3, List.count_append] at hcnt
        omega
      obtain ⟨i, ⟨him, hiu⟩, hmin⟩ := exists_least0 hex
      have hif : i ∈ fs := by
        cases e : fs.contains i with
        | true => simpa using e
        | false => have := hall i him e; rw [hiu] at this; cases this
      obtain ⟨o, v, ho, hv, hQ, hy⟩ := hlate i hif
      have hdep : ∀ e ∈ o.after, Region.binds .any e = true → listed.getD e.on false = true := fun e he hbd => by
        have hlt := edgesBack_spec hb (i := i) (o := o) (by simpa using ho) e he hbd
        have h1 : listed.getD e.on true = true := by
          cases ee : listed.getD e.on true with
          | true => rfl
          | false => have := hmin e.on ⟨by omega, ee⟩; omega
        have h2 : e.on < listed.size := by omega
        simpa [h2] using h1
      have hval : ∀ j, depb o j = true → ∀ u, spAt sp j = .inl u → f j = u := fun j hj u hu => by
        obtain ⟨e, he, hb'⟩ := List.any_eq_true.1 hj
        simp only [Bool.and_eq_true] at hb'
        have heon := Nat.eq_of_beq_eq_true hb'.2
        have hj' := hdep e (by simpa using he) hb'.1
        have hlt := edgesBack_spec hb (i := i) (o := o) (by simpa using ho) e (by simpa using he) hb'.1
        rw [heon] at hj' hlt
        have := hR j (by omega) hj'
        rw [hu] at this
        exact this
      obtain ⟨hw1, hw2⟩ := hy f hval
      cases fuel with
      | zero => omega
      | succ fuel =>
        refine wpAny_first (i := i) (oi := o) (v := v) (by simpa using ho) (Region.noSelect_spec hns) (hQ v) fuel listed _ w ?_ ?_ ?_ ?_
        · intro j oj hoj hji hju hno
          have hjl : j < ops.length := by have := (Array.getElem?_eq_some_iff.1 hoj).1; simpa using this
          have h1 := List.all_eq_true.1 hf i hif
          simp only [Bool.and_eq_true, ho] at h1
          have h2 := List.all_eq_true.1 h1.2 j (List.mem_range.2 hjl)
          have hoj' : ops[j]? = some oj := by simpa using hoj
          simp only [hoj', Bool.or_eq_true, Bool.and_eq_true, Bool.not_eq_true'] at h2
          rcases h2 with (h2 | h2) | h2 | h2
          · exact absurd (Nat.eq_of_beq_eq_true h2) hji
          · have := hall j (by have := h2.1; rw [Nat.blt_eq] at this; exact this) h2.2
            rw [this] at hju; cases hju
          · obtain ⟨e, he, hb'⟩ := List.any_eq_true.1 h2
            simp only [Bool.and_eq_true] at hb'
            exact absurd (Nat.eq_of_beq_eq_true hb'.2) (hno e (by simpa using he) hb'.1)
          · exact h2
        · exact mem_ready.2 ⟨hiu, o, by simpa using ho, hdep⟩
        · rw [putAll_fr]
          exact Or.inl ⟨by rw [fr_wanted]; exact hw1, fun w => by rw [fr_eval]; exact hw2 w⟩
        · have hot : (ops.take m)[i]? = some o := by rw [List.getElem?_take_of_lt him]; exact ho
          have hp := putAll_put v (ops.take m) 0 f (fr n l) hd i o hot
          rw [Nat.zero_add] at hp
          rw [hp]
          have h1 : listed.toList[i]? = some false := by
            have h' : i < listed.size := by omega
            simp [h'] at hiu; simp [h', hiu]
          have hcs := count_set _ _ h1
          refine ih fuel _ (upd f i v) w ?_ (by omega) (by simpa using hz) (hsh.step ho hdep) (fun j h1 h2 => ?_) (fun j h1 h2 => ?_) hW (hDs.other (by rw [hv]; rfl) (Nat.le_refl _)) (fun j hj hlj => ?_)
          · simp only [Array.toList_setIfInBounds]; omega
          · rw [getD_set_ne true (by omega)]; exact hun j h1 h2
          · have hij : i ≠ j := by intro e; subst e; have : fs.contains i = true := by simpa using hif
                                   rw [this] at h2; cases h2
            rw [getD_set_ne true hij]; exact hall j h1 h2
          · by_cases e : j = i
            · subst e; rw [hv]; simp [upd, spDen]
            · rw [getD_set_ne false (Ne.symm e)] at hlj
              have := hR j hj hlj
              simpa [upd, e] using this
  have main : ∀ (fuel : Nat) (listed : Array Bool) (f : Nat → Value) (w : World), listed.toList.count false ≤ fuel → listed.size = ops.length → Shut ops listed → (∀ j, m ≤ j → j < ops.length → listed.getD j true = false) →
      Mo W w → Ds sp f w → (∀ i, i < m → listed.getD i false = true → spDen W.heap.size (spAt sp i) (f i) w) → wpAny P .any ops.toArray Q fuel listed (putAll f 0 (ops.take m) (fr n l)) w := by
    intro fuel
    induction fuel with
    | zero =>
      intro listed f w hcnt hz hsh hun hW hDs hR
      refine wpAny_chain hfs hc hb (ops.length - m) m 0 listed _ w (by omega) (Nat.le_refl _) ?_ hz hsh ?_ ?_
      · rcases Nat.lt_or_ge m ops.length with h | h
        · exfalso
          have h1 := hun m (Nat.le_refl _) h
          have h2 : m < listed.size := by omega
          have : false ∈ listed.toList := by simp [h2] at h1; rw [← h1]; simp
          have := List.count_pos_iff.2 this
          omega
        · omega
      · intro j hj
        have h2 : j < listed.size := by omega
        have h3 : listed.getD j true = true := by
          cases e : listed.getD j true with
          | true => rfl
          | false =>
            have : false ∈ listed.toList := by simp [h2] at e; rw [← e]; simp
            have := List.count_pos_iff.2 this
            omega
        rcases Nat.lt_or_ge j m with h | h
        · rw [h3]; simp [h]
        · rw [hun j h hj] at h3; cases h3
      · rw [putAll_fr]
        refine hend f w hW (fun i hi => hR i (by rw [Nat.blt_eq] at hi; exact hi) ?_) hDs
        have hi' : i < m := by rw [Nat.blt_eq] at hi; exact hi
        have h2 : i < listed.size := by omega
        cases e : listed.getD i false with
        | true => rfl
        | false =>
          have : false ∈ listed.toList := by simp [h2] at e; rw [← e]; simp
          have := List.count_pos_iff.2 this
          omega
    | succ fuel ih =>
      intro listed f w hcnt hz hsh hun hW hDs hR
      by_cases hall : ∀ j, j < m → fs.contains j = false → listed.getD j true = true
      · have hge : ops.length - m ≤ listed.toList.count false := by
          have h1 : (listed.toList.drop m).count false = ops.length - m := by
            have h2 : listed.toList.drop m = List.replicate (ops.length - m) false := by
              apply List.ext_getElem
              · simp [hz]
              · intro j h3 h4
                simp at h3
                have := hun (m + j) (by omega) (by omega)
                have h5 : m + j < listed.size := by omega
                simpa [h5] using this
            rw [h2]; simp
          have h3 := List.take_append_drop m listed.toList
          rw [← h3, List.count_append]
          omega
        exact second (listed.toList.count false - (ops.length - m)) _ listed f w (by omega) (by omega) hz hsh hun hall hW hDs hR
      · obtain ⟨u, hum, huf, hu⟩ : ∃ u, u < m ∧ fs.contains u = false ∧ listed.getD u true = false := by
          rcases Classical.not_forall.1 hall with ⟨u, h⟩
          rcases Classical.not_imp.1 h with ⟨h1, h2⟩
          rcases Classical.not_imp.1 h2 with ⟨h3, h4⟩
          exact ⟨u, h1, h3, by cases e : listed.getD u true with | true => exact absurd e h4 | false => rfl⟩
        have hne : Region.ready .any ops.toArray listed ≠ [] := fun hr => by
          have := all_listed hb hr u (by simp; omega)
          rw [hu] at this; cases this
        refine ⟨fun h0 => absurd h0 hne, fun i hi => ?_⟩
        obtain ⟨h0, o, ho, hdep⟩ := mem_ready.1 hi
        have hoi : ops[i]? = some o := by simpa using ho
        have hilt : i < ops.length := (List.getElem?_eq_some_iff.1 hoi).1
        have him : i < m := by
          rcases Nat.lt_or_ge i m with h | h
          · exact h
          · exfalso
            have h1 := chainB_spec hc hsh hoi h hdep u (by omega) huf
            have h2 : u < listed.size := by omega
            simp [h2] at h1 hu
            rw [h1] at hu; cases hu
        have hot : (ops.take m)[i]? = some o := by rw [List.getElem?_take_of_lt him]; exact hoi
        have hstep := Each.spec (ops.take m) 0 hs i o hot
        rw [Nat.zero_add] at hstep
        have hcount : ((listed.setIfInBounds i true).toList.count false) ≤ fuel := by
          have h1 : listed.toList[i]? = some false := by
            have h' : i < listed.size := by omega
            simp [h'] at h0; simp [h', h0]
          have := count_set _ _ h1
          simp only [Array.toList_setIfInBounds]
          omega
        have hun' : ∀ j, m ≤ j → j < ops.length → (listed.setIfInBounds i true).getD j true = false := fun j h1 h2 => by
          rw [getD_set_ne true (by omega)]; exact hun j h1 h2
        have next : ∀ v w', Mo w w' → Ds sp (upd f i v) w' → spDen W.heap.size (spAt sp i) v w' → wpAny P .any ops.toArray Q fuel (listed.setIfInBounds i true) (putAll (upd f i v) 0 (ops.take m) (fr n l)) w' := fun v w' hmo hds hden => by
          refine ih _ _ w' hcount (by simpa using hz) (hsh.step hoi hdep) hun' (hW.trans hmo) hds (fun j hj hlj => ?_)
          by_cases e : j = i
          · subst e; simpa [upd] using hden
          · rw [getD_set_ne false (Ne.symm e)] at hlj
            have := spMo hmo (hR j hj hlj)
            simpa [upd, e] using this
        have put : ∀ v, fr n (ext (asg f 0 (ops.take m) l) o.dst v) = putAll (upd f i v) 0 (ops.take m) (fr n l) := fun v => by
          have := putAll_put v (ops.take m) 0 f (fr n l) hd i o hot
          rw [Nat.zero_add] at this
          rw [← this, putAll_fr, fr_put]
        refine wpOp_step ho (fun K hK => ?_)
        rw [putAll_fr, fr_wanted]
        have hh := hstep f w hW (fun j hj => by
          obtain ⟨e, he, hb'⟩ := List.any_eq_true.1 hj
          simp only [Bool.and_eq_true] at hb'
          have heon := Nat.eq_of_beq_eq_true hb'.2
          have hj' := hdep e (by simpa using he) hb'.1
          have hlt := edgesBack_spec hb ho e (by simpa using he) hb'.1
          rw [heon] at hj' hlt
          exact hR j (by omega) hj') K
        have hh2 : (bif wnt n (asg f 0 (ops.take m) l) ops.toArray o then o.wp P (fr n (asg f 0 (ops.take m) l)) w K Q else K (fr n (ext (asg f 0 (ops.take m) l) o.dst undef)) w) := by
          refine hh ?_
          cases hsp : spAt sp i with
          | inl v =>
            intro w' hmo
            rw [put]
            exact hK _ _ (next v w' hmo (hDs.other (by rw [hsp]; rfl) hmo.size) (by rw [hsp]; rfl))
          | inr zs =>
            intro k w' hk hz' hmo hat
            rw [put]
            obtain ⟨cs, on⟩ := zs
            cases on with
            | none => exact hK _ _ (next (pt k 0) w' hmo (hDs.fresh hk hz') (by rw [hsp]; exact ⟨k, rfl, by have := hW.size; omega, hat⟩))
            | some q => exact hK _ _ (next (.slice (some ⟨k, 0, none⟩) q q) w' hmo (hDs.other (by rw [hsp]; rfl) hmo.size) (by rw [hsp]; exact ⟨k, rfl, by have := hW.size; omega, hat⟩))
        rw [fr_put]
        cases hw : wnt n (asg f 0 (ops.take m) l) ops.toArray o <;> simp only [hw, cond_true, cond_false] at hh2 ⊢ <;> exact hh2
  have h0 : putAll (slots (fr n l) (ops.take m).toArray) 0 (ops.take m) (fr n l) = fr n l := putAll_self _ _ 0 _ (fun i o ho t ht => by simp only [Nat.zero_add, slots]; rw [show (ops.take m).toArray[i]? = some o by simpa using ho]; simp [ht])
  have := main ops.length (Array.replicate ops.length false) (slots (fr n l) (ops.take m).toArray) W.drew (by simp) (by simp) (Shut.start _ _) (fun j _ hj => by simp [hj]) (Mo.refl _).drew ⟨fun j hj k hk => hD.1 j hj k hk, hD.2⟩ (fun i _ hi => by
    exfalso
    rcases Nat.lt_or_ge i ops.length with h' | h' <;> simp [h'] at hi)
  rw [h0] at this
  simpa using this
/-- What each slot holds behind the first part. -/
def spv (sp : List Sp) (kf : Nat → Nat) (i : Nat) : Value :=
  match spAt sp i with
  | .inl v => v
  | .inr z => nvv z (kf i)
theorem asg_congr {f g : Nat → Value} : ∀ (r : List Oper) (i : Nat) (l : List (Nat × Value)), (∀ j, i ≤ j → j < i + r.length → f j = g j) → asg f i r l = asg g i r l
  | [], _, _, _ => rfl
  | o :: r, i, l, h => by
    unfold asg
    rw [h i (Nat.le_refl _) (by simp)]
    exact asg_congr r (i + 1) _ (fun j h1 h2 => h j (by omega) (by simp; omega))
theorem r_any {id : Nat} {W : World} (m : Nat) (sp : List Sp) (fs : List Nat) (hm : P.follows .mixedOrders = true)
    (hb : edgesBack .any ops.toArray = true) (hd : dstsApart (ops.take m) = true) (hc : chainB ops m fs = true) (hl : Nat.ble m ops.length = true) (hf : floatB ops m fs = true) (hns : Region.noSelect ops.toArray = true)
    (hlate : ∀ i, i ∈ fs → LateO P ops Q n l m sp i)
    (hD : Ds sp (slots (fr n l) (ops.take m).toArray) W)
    (hs : Each (OgE P ops Q n l m W sp) 0 (ops.take m))
    (hend : ∀ kf w, Mo W w → (∀ i zs, Nat.blt i m = true → spAt sp i = .inr zs → W.heap.size ≤ kf i ∧ At w (kf i) zs.1) → (∀ i j, Nat.blt i m = true → Nat.blt j m = true → spNew (spAt sp i) = true → spNew (spAt sp j) = true → i ≠ j → kf i ≠ kf j) →
      wpList P ops.toArray Q (ops.drop m) (fr n (asg (spv sp kf) 0 (ops.take m) l)) w) :
    (Code.region id ops.toArray true).wp P Q (fr n l) W := by
  refine r_draw m sp fs hm hb hd hc hl hf hns hlate hD hs (fun f w hmo hR hDs => ?_)
  have hk : ∃ kf : Nat → Nat, ∀ i zs, i < m → spAt sp i = .inr zs → f i = nvv zs (kf i) ∧ W.heap.size ≤ kf i ∧ At w (kf i) zs.1 := by
    refine ⟨fun i => Classical.epsilon (fun k => ∃ z, spAt sp i = .inr z ∧ f i = nvv z k), fun i zs hi hsp => ?_⟩
    have h1 := hR i (by rw [Nat.blt_eq]; exact hi)
    rw [hsp] at h1
    obtain ⟨k, e, h2, h3⟩ := h1
    have hex : ∃ k, ∃ z, spAt sp i = .inr z ∧ f i = nvv z k := ⟨k, zs, hsp, e⟩
    have hc := Classical.epsilon_spec hex
    obtain ⟨z9, hz9, hc9⟩ := hc
    obtain rfl : zs = z9 := Sum.inr.inj (hsp.symm.trans hz9)
    have : Classical.epsilon (fun k => ∃ z, spAt sp i = .inr z ∧ f i = nvv z k) = k := nvv_inj (hc9.symm.trans e)
    simp only [this]
    exact ⟨e, h2, h3⟩
  obtain ⟨kf, hkf⟩ := hk
  have e : asg f 0 (ops.take m) l = asg (spv sp kf) 0 (ops.take m) l := asg_congr _ 0 l (fun j _ hj => by
    have hjm : j < m := by have := List.length_take_le m ops; omega
    unfold spv
    cases hsp : spAt sp j with
    | inl v =>
      have := hR j (by rw [Nat.blt_eq]; exact hjm)
      rw [hsp] at this
      exact this
    | inr zs => exact (hkf j zs hjm hsp).1)
  rw [e]
  refine hend kf w hmo (fun i zs hi hsp => (hkf i zs (by rw [Nat.blt_eq] at hi; exact hi) hsp).2) (fun i j hi hj hin hjn hne heq => ?_)
  have gi : ∃ zs, spAt sp i = .inr zs := by cases h : spAt sp i with | inl v => rw [h] at hin; cases hin | inr zs => exact ⟨zs, rfl⟩
  have gj : ∃ zs, spAt sp j = .inr zs := by cases h : spAt sp j with | inl v => rw [h] at hjn; cases hjn | inr zs => exact ⟨zs, rfl⟩
  obtain ⟨zi, gi⟩ := gi
  obtain ⟨zj, gj⟩ := gj
  have hi' : i < m := by rw [Nat.blt_eq] at hi; exact hi
  have hj' : j < m := by rw [Nat.blt_eq] at hj; exact hj
  have h1 := (hkf i zi hi' gi).1
  have h2 := (hkf j zj hj' gj).1
  rw [← heq] at h2
  obtain ⟨ci, oi⟩ := zi
  obtain ⟨cj, oj⟩ := zj
  have n1 : oi = none := by have h9 := hin; rw [gi] at h9; cases oi with | none => rfl | some q => cases h9
  have n2 : oj = none := by have h9 := hjn; rw [gj] at h9; cases oj with | none => rfl | some q => cases h9
  subst n1 n2
  exact hDs.2 i j hin hjn hne _ h1 h2
theorem Ds.none {sp : List Sp} {f : Nat → Value} {w : World} (h : sp.all (fun s => !spNew s) = true) : Ds sp f w := by
  have hh : ∀ j, spNew (spAt sp j) = true → False := fun j hj => by
    unfold spAt at hj
    cases e : sp[j]? with
    | none => rw [e] at hj; cases hj
    | some s =>
      rw [e] at hj
      have := List.all_eq_true.1 h s (List.mem_of_getElem? e)
      simp at this
      simp [this] at hj
  exact ⟨fun j hj => (hh j hj).elim, fun i j hi => (hh i hi).elim⟩
theorem Ds.undef {sp : List Sp} {f : Nat → Value} {w : World} (h : ∀ j, j < sp.length → spNew (spAt sp j) = true → f j = undef) : Ds sp f w := by
  have hh : ∀ j, spNew (spAt sp j) = true → ∀ k, f j ≠ pt k 0 := fun j hj k e => by
    rcases Nat.lt_or_ge j sp.length with hl | hl
    · rw [h j hl hj] at e; cases e
    · unfold spAt at hj; rw [List.getElem?_eq_none hl] at hj; cases hj
  exact ⟨fun j hj k hk => (hh j hj k hk).elim, fun i j hi _ _ k hk => (hh i hi k hk).elim⟩
theorem ct {b : Bool} {A B : Prop} (h : b = true) (a : A) : (bif b then A else B) := by subst h; exact a
theorem cf {b : Bool} {A B : Prop} (h : b = false) (a : B) : (bif b then A else B) := by subst h; exact a
theorem wnt_g {ops : Array Oper} {o : Oper} {j d : Nat} {want b r : Bool} (hg : o.guard = some (j, want)) (hd : (ops[j]?).bind (·.dst) = some d) (hn : Nat.blt d n = true) (hv : look l d = .bool b) (hr : (b == want) = r) : wnt n l ops o = r := by
  unfold wnt
  simp only [hg, hd, hn, cond_true, hv]
  subst hr
  cases b <;> cases want <;> rfl
theorem n_then {Q : Exit → Act → World → Prop} {next : Act → World → Prop} {a : Act} {w : World} (h : next a w) : Exit.then next Q .normal a w := h
theorem n_blk {Q : Exit → Act → World → Prop} {id : Nat} {a : Act} {w : World} (h : Q .normal a w) : Exit.inBlock id Q .normal a w := h
theorem x_then {Q : Exit → Act → World → Prop} {next : Act → World → Prop} {id : Nat} {a : Act} {w : World} (h : Q (.exit id) a w) : Exit.then next Q (.exit id) a w := h
theorem x_blk {Q : Exit → Act → World → Prop} {id : Nat} {a : Act} {w : World} (h : Q .normal a w) : Exit.inBlock id Q (.exit id) a w := by simp only [Exit.inBlock, if_true]; exact h
theorem r_then {Q : Exit → Act → World → Prop} {next : Act → World → Prop} {a : Act} {w : World} (h : Q .ret a w) : Exit.then next Q .ret a w := h
theorem r_blk {Q : Exit → Act → World → Prop} {id : Nat} {a : Act} {w : World} (h : Q .ret a w) : Exit.inBlock id Q .ret a w := h
end
section
variable {P : Program} {o : Oper} {n : Nat} {l : List (Nat × Value)} {w : World} {ops : Array Oper} {rest : List Oper} {Q : Exit → Act → World → Prop} {K : Act → World → Prop}
structure OgW (P : Program) (ops : List Oper) (Q : Exit → Act → World → Prop) (n : Nat) (l : List (Nat × Value)) (m : Nat) (W : World) (sp : List Sp) (i : Nat) (o : Oper) : Prop where
  out : ∀ f w, Mo W w → (∀ j, depb o j = true → spDen W.heap.size (spAt sp j) (f j) w) → ∀ K : Act → World → Prop,
    (match spAt sp i with
      | .inl v => ∀ w', Mo w w' → K (fr n (ext (asg f 0 (ops.take m) l) o.dst v)) w'
      | .inr zs => ∀ k w', w.heap.size = k → w'.heap.size = k + 1 → Mo w w' → At w' k zs.1 → K (fr n (ext (asg f 0 (ops.take m) l) o.dst (nvv zs k))) w') →
    Go1 P ops Q n (asg f 0 (ops.take m) l) w K o
theorem og_eq {ol : List Oper} {m : Nat} {W : World} {sp : List Sp} {i : Nat} (v : Value) (hs : spAt sp i = .inl v)
    (h : ∀ f w, Mo W w → (∀ j, depb o j = true → spDen W.heap.size (spAt sp j) (f j) w) → ∀ K : Act → World → Prop, (∀ w', Mo w w' → K (fr n (ext (asg f 0 (ol.take m) l) o.dst v)) w') → Go1 P ol Q n (asg f 0 (ol.take m) l) w K o) : OgW P ol Q n l m W sp i o :=
  ⟨fun f w hm hd K hK => h f w hm hd K (by rw [hs] at hK; exact hK)⟩
/-- Something of each operation, with its number. -/
theorem ea_nil {F : Nat → Oper → Prop} {i : Nat} : Each F i [] := trivial
theorem ea_cons {F : Nat → Oper → Prop} {i : Nat} {o : Oper} {r : List Oper} (h : F i o) (k : Each F (i + 1) r) : Each F i (o :: r) := ⟨h, k⟩
/-- What lies in the slots, by the list. -/
def slo (n : Nat) (l : List (Nat × Value)) (ops : List Oper) (i : Nat) : Value :=
  match (ops[i]?).bind (·.dst) with
  | some d => bif Nat.blt d n then look l d else undef
  | none => undef
theorem slo_eq (ops : List Oper) : slots (fr n l) ops.toArray = slo n l ops := by
  funext i
  unfold slots slo
  simp only [List.getElem?_toArray]
  cases (ops[i]?).bind (·.dst) with
  | none => rfl
  | some d => exact fr_getD n l d
def isPt : Value → Bool
  | .pointer (some _) => true
  | _ => false
theorem Ds.start {sp : List Sp} {f : Nat → Value} (h : (List.range sp.length).all (fun j => !spNew (spAt sp j) || !isPt (f j)) = true) : Ds sp f w := by
  have hh : ∀ j, spNew (spAt sp j) = true → ∀ k, f j ≠ pt k 0 := fun j hj k e => by
    rcases Nat.lt_or_ge j sp.length with hl | hl
    · have := List.all_eq_true.1 h j (List.mem_range.2 hl)
      simp [hj, e, isPt] at this
    · unfold spAt at hj; rw [List.getElem?_eq_none hl] at hj; cases hj
  exact ⟨fun j hj k hk => (hh j hj k hk).elim, fun i j hi _ _ k hk => (hh i hi k hk).elim⟩
theorem la_mv (x : Operand) (p : Value) (ho : ∀ ρ, execOp ρ o = pure (.value (ρ x))) (hx : evl n l x = p) : ∀ w, (execOp (evl n l) o).run P w = .ok (.value p) w := fun w => by rw [ho, hx]; rfl
theorem la_un (F : Value → Sem Value) (x : Operand) (p v : Value) (ho : ∀ ρ, execOp ρ o = (do pure (.value (← F (ρ x))))) (hx : evl n l x = p) (h : ∀ w, (F p).run P w = .ok v w) : ∀ w, (execOp (evl n l) o).run P w = .ok (.value v) w := fun w => by
  rw [ho, hx]; simp [h]
theorem late_nil {ol : List Oper} {m : Nat} {sp : List Sp} : ∀ i, i ∈ ([] : List Nat) → LateO P ol Q n l m sp i := fun i h => absurd h (by simp)
theorem late_cons {ol : List Oper} {m : Nat} {sp : List Sp} {j : Nat} {r : List Nat} (h : LateO P ol Q n l m sp j) (k : ∀ i, i ∈ r → LateO P ol Q n l m sp i) : ∀ i, i ∈ j :: r → LateO P ol Q n l m sp i := fun i hi => by
  rcases List.mem_cons.1 hi with rfl | hi
  · exact h
  · exact k i hi
theorem w_any {id : Nat} {ol : List Oper} (m : Nat) (sp : List Sp) (fs : List Nat) (hm : P.follows .mixedOrders = true)
    (hb : edgesBack .any ol.toArray = true) (hd : dstsApart (ol.take m) = true) (hc : chainB ol m fs = true) (hl : Nat.ble m ol.length = true) (hf : floatB ol m fs = true) (hns : Region.noSelect ol.toArray = true)
    (hlate : ∀ i, i ∈ fs → LateO P ol Q n l m sp i)
    (hD : Ds sp (slo n l (ol.take m)) w)
    (hs : Each (OgW P ol Q n l m w sp) 0 (ol.take m))
    (hend : ∀ kf w', Mo w w' → (∀ i zs, Nat.blt i m = true → spAt sp i = .inr zs → w.heap.size ≤ kf i ∧ At w' (kf i) zs.1) → (∀ i j, Nat.blt i m = true → Nat.blt j m = true → spNew (spAt sp i) = true → spNew (spAt sp j) = true → i ≠ j → kf i ≠ kf j) →
      WL P ol.toArray Q (ol.drop m) n (asg (spv sp kf) 0 (ol.take m) l) w') : WC P (Code.region id ol.toArray true) Q n l w := by
  refine ⟨r_any m sp fs hm hb hd hc hl hf hns hlate (by rw [slo_eq]; exact hD) (Each.mono ?_ _ 0 hs) (fun kf w' a b c => (hend kf w' a b c).out)⟩
  intro i o h f w' hmo hdep K hK
  rcases (h.out f w' hmo hdep K hK).out with ⟨hg, h⟩ | ⟨hg, h⟩
  · exact ct hg h.out
  · exact cf hg h
end
end Go.Proofs.Ythfemlhmnjfjiaa.X

/-
  The same is the same: wide numbers.
-/
namespace Go.Proofs.Ythfemlhmnjfjiaa
open Go.RowKit
theorem q5_0 (x0 x1 x2 x3 x4 : Value) (w : World) : (part 34 #[x0, x1, x2, x3, x4] 0).run Try.prog w = .ok x0 w := by kernel_rfl
theorem q5_1 (x0 x1 x2 x3 x4 : Value) (w : World) : (part 34 #[x0, x1, x2, x3, x4] 1).run Try.prog w = .ok x1 w := by kernel_rfl
theorem q5_2 (x0 x1 x2 x3 x4 : Value) (w : World) : (part 34 #[x0, x1, x2, x3, x4] 2).run Try.prog w = .ok x2 w := by kernel_rfl
theorem q5_3 (x0 x1 x2 x3 x4 : Value) (w : World) : (part 34 #[x0, x1, x2, x3, x4] 3).run Try.prog w = .ok x3 w := by kernel_rfl
theorem q5_4 (x0 x1 x2 x3 x4 : Value) (w : World) : (part 34 #[x0, x1, x2, x3, x4] 4).run Try.prog w = .ok x4 w := by kernel_rfl
theorem eq5s (d : Nat) (a b c e f : Int) (w : World) : (Op.equalIn (d + 1 + 1) 36 (.agg #[.int .u64 a, .int .u64 b, .int .u64 c, .int .u64 e, .int .u64 f]) (.agg #[.int .u64 a, .int .u64 b, .int .u64 c, .int .u64 e, .int .u64 f])).run Try.prog w = .ok true w := by
  obtain ⟨j, hj⟩ := info22
  rw [run_equalIn_array w (d + 1) _ _ Try.underlying36 hj, cells22]
  have q : ∀ (x : Int), (Op.equalIn (d + 1) 34 (.int .u64 x) (.int .u64 x)).run Try.prog w = .ok true w := fun x => by rw [run_equalIn_int w d 34 .u64 .u64 x x Try.underlying34]; simp
  rw [show List.range 5 = [0, 1, 2, 3, 4] from rfl]
  simp [Op.eqItems, Sem.run_bind, q5_0, q5_1, q5_2, q5_3, q5_4, Result.andThen_ok, q, Sem.run_pure]
end Go.Proofs.Ythfemlhmnjfjiaa

/-
  Summaries of one scale: what is needed of their order.
-/
namespace Go.Proofs.Ythfemlhmnjfjiaa
open Go.RowKit
/-- A decimal that may be, at a scale. -/
def Vd (s : Int) (d : D3) : Prop := d.ok ∧ ck d.b d.n d.s = 0 ∧ d.s = s
def D3.val (d : D3) : Int := sv d.b d.n
theorem cmpv_vd {s : Int} {a b : D3} (ha : Vd s a) (hb : Vd s b) : cmpv a b = cm a.val b.val := by
  unfold cmpv
  rw [if_pos ⟨ha.2.1, hb.2.1⟩, ha.2.2, hb.2.2, show max s s - s = ((0 : Nat) : Int) by omega, pw_nat]
  unfold D3.val
  rw [Int.pow_zero, Int.mul_one, Int.mul_one]
theorem vd_inj {s : Int} {a b : D3} (ha : Vd s a) (hb : Vd s b) (h : a.val = b.val) : a = b := by
  obtain ⟨h1, h2, h3⟩ := dz_sv ha.1.1 ha.2.1
  obtain ⟨g1, g2, g3⟩ := dz_sv hb.1.1 hb.2.1
  unfold D3.val at h
  rw [h] at h3
  have en : a.n = b.n := h3.symm.trans g3
  have e4 := neg_sv (b := a.b) ha.1.1
  have e5 := neg_sv (b := b.b) hb.1.1
  obtain ⟨ab, an, az⟩ := a
  obtain ⟨bb, bn, bz⟩ := b
  have es : az = bz := ha.2.2.trans hb.2.2.symm
  simp only at en h ha hb
  subst en es
  have hc := ha.2.1
  have hd := hb.2.1
  simp only at hc hd
  unfold ck at hc hd
  unfold sv at h
  have hn := ha.1.1
  simp only at hn
  by_cases hz : an = 0
  · subst hz
    cases ab <;> cases bb <;> simp_all
  · cases ab <;> cases bb
    · rfl
    · simp at h; omega
    · simp at h; omega
    · rfl
theorem w64_l (a b : Int) : w64 (w64 a + b) = w64 (a + b) := by
  unfold w64; simp only [IntKind.wrap_i64]; omega
theorem w64_r (a b : Int) : w64 (a + w64 b) = w64 (a + b) := by
  unfold w64; simp only [IntKind.wrap_i64]; omega
theorem les_assoc (a b c : Int) : les (les a b) c = les a (les b c) := by
  unfold les
  by_cases ha : a = 0
  · simp only [ha, if_true]
  · by_cases hb : b = 0
    · simp only [ha, hb, if_true, if_false]
    · by_cases hc : c = 0
      · simp only [ha, hb, hc, if_true, if_false, show ¬ min a b = 0 by omega]
      · simp only [ha, hb, hc, if_false, show ¬ min a b = 0 by omega, show ¬ min b c = 0 by omega]; omega
end Go.Proofs.Ythfemlhmnjfjiaa

/-
  The document's two: two summaries as one.
-/
namespace Go.Proofs.Ythfemlhmnjfjiaa
open Go.RowKit
theorem w_cut {P : Program} {n : Nat} {l : List (Nat × Value)} {w : World} {Q : Exit → Act → World → Prop} {x y : Code} (I : List (Nat × Value) → World → Prop) (h2 : ∀ l w, I l w → WC P y Q n l w) (h : WC P x (Exit.then (fun a w' => ∃ l', a = fr n l' ∧ I l' w') Q) n l w) : WC P (Code.seq x y) Q n l w :=
  w_seq ⟨wp_mono h.out fun e a w' hq => by
    cases e with
    | normal => obtain ⟨l', rfl, hI⟩ := hq; exact (h2 l' w' hI).out
    | _ => exact hq⟩
theorem xn_cut {n : Nat} {l : List (Nat × Value)} {w : World} {Q : Exit → Act → World → Prop} {I : List (Nat × Value) → World → Prop} (h : I l w) : WX (Exit.then (fun a w' => ∃ l', a = fr n l' ∧ I l' w') Q) .normal n l w := ⟨⟨l, rfl, h⟩⟩
theorem les_A {a b : Int} (h : b = 0) : les a b = a := by
  unfold les
  by_cases c : a = 0
  · rw [if_pos c]; omega
  · rw [if_neg c, if_pos h]
theorem les_B {a b : Int} (h : a = 0) : les a b = b := by unfold les; rw [if_pos h]
theorem les_C {a b : Int} (h1 : ¬ b = 0) (h2 : ¬ a = 0) (h : b < a) : les a b = b := by unfold les; rw [if_neg h2, if_neg h1]; omega
theorem les_D {a b : Int} (h1 : ¬ b = 0) (h2 : ¬ a = 0) (h : ¬ b < a) : les a b = a := by unfold les; rw [if_neg h2, if_neg h1]; omega
section
variable {w : World}
theorem two_n (r f k d er tt : Int) (so mb : Bool) (mn ms : Int) (xb : Bool) (xn xs : Int) (r2 f2 kb d2 e2 tt2 : Int) (so2 mb2 : Bool) (mn2 ms2 : Int) (xb2 : Bool) (xn2 xs2 : Int) (hm : D3.ok ⟨mb, mn, ms⟩) (hx : D3.ok ⟨xb, xn, xs⟩) (hm2 : D3.ok ⟨mb2, mn2, ms2⟩) (hx2 : D3.ok ⟨xb2, xn2, xs2⟩) (hz : so = false → (⟨mb, mn, ms⟩ : D3) = d0 ∧ (⟨xb, xn, xs⟩ : D3) = d0) : Calls Try.prog 36 #[sm r (f) (k) (d) (er) (tt) so mb (mn) (ms) xb (xn) (xs), sm r2 (f2) (kb) (d2) (e2) (tt2) so2 mb2 (mn2) (ms2) xb2 (xn2) (xs2)] w fun e w' => e = .returned (smv (jn ⟨r, f, k, d, er, tt, so, ⟨mb, mn, ms⟩, ⟨xb, xn, xs⟩⟩ ⟨r2, f2, kb, d2, e2, tt2, so2, ⟨mb2, mn2, ms2⟩, ⟨xb2, xn2, xs2⟩⟩)) ∧ Mo w w' := by
  refine w_enter 94 Try.func36 Try.ntmps36 rfl rfl ?_
  have M : Mo w w := Mo.refl _
  refine w_seq (w_reg ?_)
  refine wl_box 42 (.tmp 0) (.agg #[.int .i64 (r), .int .i64 (f), .int .i64 (k), .int .i64 (d), .int .i64 (er), .int .u64 (l0 (tt)), .int .u64 (l1 (tt)), .int .u64 (l2 (tt)), .int .u64 (l3 (tt)), .int .u64 (l4 (tt)), .bool so, .bool mb, .int .u64 (l0 (mn)), .int .u64 (l1 (mn)), .int .u64 (l2 (mn)), .int .u64 (l3 (mn)), .int .i64 (ms), .bool xb, .int .u64 (l0 (xn)), .int .u64 (l1 (xn)), .int .u64 (l2 (xn)), .int .u64 (l3 (xn)), .int .i64 (xs)]) (#[.int .i64 (r), .int .i64 (f), .int .i64 (k), .int .i64 (d), .int .i64 (er), .int .u64 (l0 (tt)), .int .u64 (l1 (tt)), .int .u64 (l2 (tt)), .int .u64 (l3 (tt)), .int .u64 (l4 (tt)), .bool so, .bool mb, .int .u64 (l0 (mn)), .int .u64 (l1 (mn)), .int .u64 (l2 (mn)), .int .u64 (l3 (mn)), .int .i64 (ms), .bool xb, .int .u64 (l0 (xn)), .int .u64 (l1 (xn)), .int .u64 (l2 (xn)), .int .u64 (l3 (xn)), .int .i64 (xs)]) rfl rfl (fun _ => by kernel_rfl) rfl ?_
  intro k1 w1 hk hz hq Q1
  have N_k1 : w.heap.size ≤ k1 := by have := M.size; omega
  replace M := M.trans hq
  clear hk hz hq
  refine wl_box 42 (.tmp 1) (.agg #[.int .i64 (r2), .int .i64 (f2), .int .i64 (kb), .int .i64 (d2), .int .i64 (e2), .int .u64 (l0 (tt2)), .int .u64 (l1 (tt2)), .int .u64 (l2 (tt2)), .int .u64 (l3 (tt2)), .int .u64 (l4 (tt2)), .bool so2, .bool mb2, .int .u64 (l0 (mn2)), .int .u64 (l1 (mn2)), .int .u64 (l2 (mn2)), .int .u64 (l3 (mn2)), .int .i64 (ms2), .bool xb2, .int .u64 (l0 (xn2)), .int .u64 (l1 (xn2)), .int .u64 (l2 (xn2)), .int .u64 (l3 (xn2)), .int .i64 (xs2)]) (#[.int .i64 (r2), .int .i64 (f2), .int .i64 (kb), .int .i64 (d2), .int .i64 (e2), .int .u64 (l0 (tt2)), .int .u64 (l1 (tt2)), .int .u64 (l2 (tt2)), .int .u64 (l3 (tt2)), .int .u64 (l4 (tt2)), .bool so2, .bool mb2, .int .u64 (l0 (mn2)), .int .u64 (l1 (mn2)), .int .u64 (l2 (mn2)), .int .u64 (l3 (mn2)), .int .i64 (ms2), .bool xb2, .int .u64 (l0 (xn2)), .int .u64 (l1 (xn2)), .int .u64 (l2 (xn2)), .int .u64 (l3 (xn2)), .int .i64 (xs2)]) rfl rfl (fun _ => by kernel_rfl) rfl ?_
  intro k2 w2 hk hz hq Q2
  have ne_k1_k2 : k1 ≠ k2 := by have := Q1.lt; omega
  have N_k2 : w.heap.size ≤ k2 := by have := M.size; omega
  replace Q1 := Q1.mo hq
  replace M := M.trans hq
  clear hk hz hq
  refine wl_alloc 42 #[.int .i64 0, .int .i64 0, .int .i64 0, .int .i64 0, .int .i64 0, .int .u64 0, .int .u64 0, .int .u64 0, .int .u64 0, .int .u64 0, .bool false, .bool false, .int .u64 0, .int .u64 0, .int .u64 0, .int .u64 0, .int .i64 0, .bool false, .int .u64 0, .int .u64 0, .int .u64 0, .int .u64 0, .int .i64 0] rfl (fun _ => by kernel_rfl) rfl ?_
  intro k3 w3 hk hz hq Q3
  have ne_k1_k3 : k1 ≠ k3 := by have := Q1.lt; omega
  have ne_k2_k3 : k2 ≠ k3 := by have := Q2.lt; omega
  have N_k3 : w.heap.size ≤ k3 := by have := M.size; omega
  replace Q1 := Q1.mo hq
  replace Q2 := Q2.mo hq
  replace M := M.trans hq
  clear hk hz hq
  refine w_nil (xn_then (w_seq (w_reg ?_)))
  refine wl_l 42 (.tmp 2) (pt k1 0) (.agg #[.int .i64 (r), .int .i64 (f), .int .i64 (k), .int .i64 (d), .int .i64 (er), .int .u64 (l0 (tt)), .int .u64 (l1 (tt)), .int .u64 (l2 (tt)), .int .u64 (l3 (tt)), .int .u64 (l4 (tt)), .bool so, .bool mb, .int .u64 (l0 (mn)), .int .u64 (l1 (mn)), .int .u64 (l2 (mn)), .int .u64 (l3 (mn)), .int .i64 (ms), .bool xb, .int .u64 (l0 (xn)), .int .u64 (l1 (xn)), .int .u64 (l2 (xn)), .int .u64 (l3 (xn)), .int .i64 (xs)]) (run_row Q1 42 0 23 [.int .i64 (r), .int .i64 (f), .int .i64 (k), .int .i64 (d), .int .i64 (er), .int .u64 (l0 (tt)), .int .u64 (l1 (tt)), .int .u64 (l2 (tt)), .int .u64 (l3 (tt)), .int .u64 (l4 (tt)), .bool so, .bool mb, .int .u64 (l0 (mn)), .int .u64 (l1 (mn)), .int .u64 (l2 (mn)), .int .u64 (l3 (mn)), .int .i64 (ms), .bool xb, .int .u64 (l0 (xn)), .int .u64 (l1 (xn)), .int .u64 (l2 (xn)), .int .u64 (l3 (xn)), .int .i64 (xs)] rfl Try.underlying42 rfl sz33) ?_
  refine wl_alloc 42 #[.int .i64 0, .int .i64 0, .int .i64 0, .int .i64 0, .int .i64 0, .int .u64 0, .int .u64 0, .int .u64 0, .int .u64 0, .int .u64 0, .bool false, .bool false, .int .u64 0, .int .u64 0, .int .u64 0, .int .u64 0, .int .i64 0, .bool false, .int .u64 0, .int .u64 0, .int .u64 0, .int .u64 0, .int .i64 0] rfl (fun _ => by kernel_rfl) rfl ?_
  intro k4 w4 hk hz hq Q4
  have ne_k1_k4 : k1 ≠ k4 := by have := Q1.lt; omega
  have ne_k2_k4 : k2 ≠ k4 := by have := Q2.lt; omega
  have ne_k3_k4 : k3 ≠ k4 := by have := Q3.lt; omega
  have N_k4 : w.heap.size ≤ k4 := by have := M.size; omega
  replace Q1 := Q1.mo hq
  replace Q2 := Q2.mo hq
  replace Q3 := Q3.mo hq
  replace M := M.trans hq
  clear hk hz hq
  refine wl_st 42 (.tmp 5) (.tmp 6) k4 0 #[.int .i64 (r), .int .i64 (f), .int .i64 (k), .int .i64 (d), .int .i64 (er), .int .u64 (l0 (tt)), .int .u64 (l1 (tt)), .int .u64 (l2 (tt)), .int .u64 (l3 (tt)), .int .u64 (l4 (tt)), .bool so, .bool mb, .int .u64 (l0 (mn)), .int .u64 (l1 (mn)), .int .u64 (l2 (mn)), .int .u64 (l3 (mn)), .int .i64 (ms), .bool xb, .int .u64 (l0 (xn)), .int .u64 (l1 (xn)), .int .u64 (l2 (xn)), .int .u64 (l3 (xn)), .int .i64 (xs)] [.int .i64 0, .int .i64 0, .int .i64 0, .int .i64 0, .int .i64 0, .int .u64 0, .int .u64 0, .int .u64 0, .int .u64 0, .int .u64 0, .bool false, .bool false, .int .u64 0, .int .u64 0, .int .u64 0, .int .u64 0, .int .i64 0, .bool false, .int .u64 0, .int .u64 0, .int .u64 0, .int .u64 0, .int .i64 0] [.int .i64 (r), .int .i64 (f), .int .i64 (k), .int .i64 (d), .int .i64 (er), .int .u64 (l0 (tt)), .int .u64 (l1 (tt)), .int .u64 (l2 (tt)), .int .u64 (l3 (tt)), .int .u64 (l4 (tt)), .bool so, .bool mb, .int .u64 (l0 (mn)), .int .u64 (l1 (mn)), .int .u64 (l2 (mn)), .int .u64 (l3 (mn)), .int .i64 (ms), .bool xb, .int .u64 (l0 (xn)), .int .u64 (l1 (xn)), .int .u64 (l2 (xn)), .int .u64 (l3 (xn)), .int .i64 (xs)] Q4 rfl rfl rfl rfl rfl sz33 rfl rfl rfl ?_
  intro w5 hS Qn
  replace Q4 := Qn
  clear Qn
  replace Q1 := hS.other _ _ ne_k1_k4 Q1
  replace Q2 := hS.other _ _ ne_k2_k4 Q2
  replace Q3 := hS.other _ _ ne_k3_k4 Q3
  replace M := hS.mo _ N_k4 M
  clear hS
  refine w_nil (xn_then (w_seq (w_reg ?_)))
  refine wl_f 42 0 (.tmp 5) (pt k4 0) (pt k4 0) ?_
  refine wl_l 3 (.tmp 7) (pt k4 0) (.int .i64 (r)) (run_one Q4 3 0 rfl Try.underlying3 rfl) ?_
  refine wl_f 42 0 (.tmp 3) (pt k2 0) (pt k2 0) ?_
  refine wl_l 3 (.tmp 9) (pt k2 0) (.int .i64 (r2)) (run_one Q2 3 0 rfl Try.underlying3 rfl) ?_
  refine wl_b .add 3 (.tmp 8) (.tmp 10) (.int .i64 (r)) (.int .i64 (r2)) (.int .i64 (w64 (r + r2))) (addW _ _ _ _ _) ?_
  refine wl_f 42 0 (.tmp 5) (pt k4 0) (pt k4 0) ?_
  refine wl_st1 3 (.tmp 12) (.tmp 11) k4 0 (.int .i64 (w64 (r + r2))) [.int .i64 (r), .int .i64 (f), .int .i64 (k), .int .i64 (d), .int .i64 (er), .int .u64 (l0 (tt)), .int .u64 (l1 (tt)), .int .u64 (l2 (tt)), .int .u64 (l3 (tt)), .int .u64 (l4 (tt)), .bool so, .bool mb, .int .u64 (l0 (mn)), .int .u64 (l1 (mn)), .int .u64 (l2 (mn)), .int .u64 (l3 (mn)), .int .i64 (ms), .bool xb, .int .u64 (l0 (xn)), .int .u64 (l1 (xn)), .int .u64 (l2 (xn)), .int .u64 (l3 (xn)), .int .i64 (xs)] [.int .i64 (w64 (r + r2)), .int .i64 (f), .int .i64 (k), .int .i64 (d), .int .i64 (er), .int .u64 (l0 (tt)), .int .u64 (l1 (tt)), .int .u64 (l2 (tt)), .int .u64 (l3 (tt)), .int .u64 (l4 (tt)), .bool so, .bool mb, .int .u64 (l0 (mn)), .int .u64 (l1 (mn)), .int .u64 (l2 (mn)), .int .u64 (l3 (mn)), .int .i64 (ms), .bool xb, .int .u64 (l0 (xn)), .int .u64 (l1 (xn)), .int .u64 (l2 (xn)), .int .u64 (l3 (xn)), .int .i64 (xs)] Q4 rfl rfl rfl rfl rfl sz3 rfl rfl rfl rfl ?_
  intro w6 hS Qn
  replace Q4 := Qn
  clear Qn
  replace Q1 := hS.other _ _ ne_k1_k4 Q1
  replace Q2 := hS.other _ _ ne_k2_k4 Q2
  replace Q3 := hS.other _ _ ne_k3_k4 Q3
  replace M := hS.mo _ N_k4 M
  clear hS
  refine w_nil (xn_then (w_seq (w_reg ?_)))
  refine wl_f 42 1 (.tmp 5) (pt k4 0) (pt k4 1) ?_
  refine wl_l 3 (.tmp 13) (pt k4 1) (.int .i64 (f)) (run_one Q4 3 1 rfl Try.underlying3 rfl) ?_
  refine wl_f 42 1 (.tmp 3) (pt k2 0) (pt k2 1) ?_
  refine wl_l 3 (.tmp 15) (pt k2 1) (.int .i64 (f2)) (run_one Q2 3 1 rfl Try.underlying3 rfl) ?_
  refine wl_b .add 3 (.tmp 14) (.tmp 16) (.int .i64 (f)) (.int .i64 (f2)) (.int .i64 (w64 (f + f2))) (addW _ _ _ _ _) ?_
  refine wl_f 42 1 (.tmp 5) (pt k4 0) (pt k4 1) ?_
  refine wl_st1 3 (.tmp 18) (.tmp 17) k4 1 (.int .i64 (w64 (f + f2))) [.int .i64 (w64 (r + r2)), .int .i64 (f), .int .i64 (k), .int .i64 (d), .int .i64 (er), .int .u64 (l0 (tt)), .int .u64 (l1 (tt)), .int .u64 (l2 (tt)), .int .u64 (l3 (tt)), .int .u64 (l4 (tt)), .bool so, .bool mb, .int .u64 (l0 (mn)), .int .u64 (l1 (mn)), .int .u64 (l2 (mn)), .int .u64 (l3 (mn)), .int .i64 (ms), .bool xb, .int .u64 (l0 (xn)), .int .u64 (l1 (xn)), .int .u64 (l2 (xn)), .int .u64 (l3 (xn)), .int .i64 (xs)] [.int .i64 (w64 (r + r2)), .int .i64 (w64 (f + f2)), .int .i64 (k), .int .i64 (d), .int .i64 (er), .int .u64 (l0 (tt)), .int .u64 (l1 (tt)), .int .u64 (l2 (tt)), .int .u64 (l3 (tt)), .int .u64 (l4 (tt)), .bool so, .bool mb, .int .u64 (l0 (mn)), .int .u64 (l1 (mn)), .int .u64 (l2 (mn)), .int .u64 (l3 (mn)), .int .i64 (ms), .bool xb, .int .u64 (l0 (xn)), .int .u64 (l1 (xn)), .int .u64 (l2 (xn)), .int .u64 (l3 (xn)), .int .i64 (xs)] Q4 rfl rfl rfl rfl rfl sz3 rfl rfl rfl rfl ?_
  intro w7 hS Qn
  replace Q4 := Qn
  clear Qn
  replace Q1 := hS.other _ _ ne_k1_k4 Q1
  replace Q2 := hS.other _ _ ne_k2_k4 Q2
  replace Q3 := hS.other _ _ ne_k3_k4 Q3
  replace M := hS.mo _ N_k4 M
  clear hS
  refine w_nil (xn_then (w_seq (w_reg ?_)))
  refine wl_f 42 2 (.tmp 5) (pt k4 0) (pt k4 2) ?_
  refine wl_l 3 (.tmp 19) (pt k4 2) (.int .i64 (k)) (run_one Q4 3 2 rfl Try.underlying3 rfl) ?_
  refine wl_f 42 2 (.tmp 3) (pt k2 0) (pt k2 2) ?_
  refine wl_l 3 (.tmp 21) (pt k2 2) (.int .i64 (kb)) (run_one Q2 3 2 rfl Try.underlying3 rfl) ?_
  refine wl_b .add 3 (.tmp 20) (.tmp 22) (.int .i64 (k)) (.int .i64 (kb)) (.int .i64 (w64 (k + kb))) (addW _ _ _ _ _) ?_
  refine wl_f 42 2 (.tmp 5) (pt k4 0) (pt k4 2) ?_
  refine wl_st1 3 (.tmp 24) (.tmp 23) k4 2 (.int .i64 (w64 (k + kb))) [.int .i64 (w64 (r + r2)), .int .i64 (w64 (f + f2)), .int .i64 (k), .int .i64 (d), .int .i64 (er), .int .u64 (l0 (tt)), .int .u64 (l1 (tt)), .int .u64 (l2 (tt)), .int .u64 (l3 (tt)), .int .u64 (l4 (tt)), .bool so, .bool mb, .int .u64 (l0 (mn)), .int .u64 (l1 (mn)), .int .u64 (l2 (mn)), .int .u64 (l3 (mn)), .int .i64 (ms), .bool xb, .int .u64 (l0 (xn)), .int .u64 (l1 (xn)), .int .u64 (l2 (xn)), .int .u64 (l3 (xn)), .int .i64 (xs)] [.int .i64 (w64 (r + r2)), .int .i64 (w64 (f + f2)), .int .i64 (w64 (k + kb)), .int .i64 (d), .int .i64 (er), .int .u64 (l0 (tt)), .int .u64 (l1 (tt)), .int .u64 (l2 (tt)), .int .u64 (l3 (tt)), .int .u64 (l4 (tt)), .bool so, .bool mb, .int .u64 (l0 (mn)), .int .u64 (l1 (mn)), .int .u64 (l2 (mn)), .int .u64 (l3 (mn)), .int .i64 (ms), .bool xb, .int .u64 (l0 (xn)), .int .u64 (l1 (xn)), .int .u64 (l2 (xn)), .int .u64 (l3 (xn)), .int .i64 (xs)] Q4 rfl rfl rfl rfl rfl sz3 rfl rfl rfl rfl ?_
  intro w8 hS Qn
  replace Q4 := Qn
  clear Qn
  replace Q1 := hS.other _ _ ne_k1_k4 Q1
  replace Q2 := hS.other _ _ ne_k2_k4 Q2
  replace Q3 := hS.other _ _ ne_k3_k4 Q3
  replace M := hS.mo _ N_k4 M
  clear hS
  refine w_nil (xn_then (w_seq (w_reg ?_)))
  refine wl_f 42 3 (.tmp 5) (pt k4 0) (pt k4 3) ?_
  refine wl_l 3 (.tmp 25) (pt k4 3) (.int .i64 (d)) (run_one Q4 3 3 rfl Try.underlying3 rfl) ?_
  refine wl_f 42 3 (.tmp 3) (pt k2 0) (pt k2 3) ?_
  refine wl_l 3 (.tmp 27) (pt k2 3) (.int .i64 (d2)) (run_one Q2 3 3 rfl Try.underlying3 rfl) ?_
  refine wl_b .add 3 (.tmp 26) (.tmp 28) (.int .i64 (d)) (.int .i64 (d2)) (.int .i64 (w64 (d + d2))) (addW _ _ _ _ _) ?_
  refine wl_f 42 3 (.tmp 5) (pt k4 0) (pt k4 3) ?_
  refine wl_st1 3 (.tmp 30) (.tmp 29) k4 3 (.int .i64 (w64 (d + d2))) [.int .i64 (w64 (r + r2)), .int .i64 (w64 (f + f2)), .int .i64 (w64 (k + kb)), .int .i64 (d), .int .i64 (er), .int .u64 (l0 (tt)), .int .u64 (l1 (tt)), .int .u64 (l2 (tt)), .int .u64 (l3 (tt)), .int .u64 (l4 (tt)), .bool so, .bool mb, .int .u64 (l0 (mn)), .int .u64 (l1 (mn)), .int .u64 (l2 (mn)), .int .u64 (l3 (mn)), .int .i64 (ms), .bool xb, .int .u64 (l0 (xn)), .int .u64 (l1 (xn)), .int .u64 (l2 (xn)), .int .u64 (l3 (xn)), .int .i64 (xs)] [.int .i64 (w64 (r + r2)), .int .i64 (w64 (f + f2)), .int .i64 (w64 (k + kb)), .int .i64 (w64 (d + d2)), .int .i64 (er), .int .u64 (l0 (tt)), .int .u64 (l1 (tt)), .int .u64 (l2 (tt)), .int .u64 (l3 (tt)), .int .u64 (l4 (tt)), .bool so, .bool mb, .int .u64 (l0 (mn)), .int .u64 (l1 (mn)), .int .u64 (l2 (mn)), .int .u64 (l3 (mn)), .int .i64 (ms), .bool xb, .int .u64 (l0 (xn)), .int .u64 (l1 (xn)), .int .u64 (l2 (xn)), .int .u64 (l3 (xn)), .int .i64 (xs)] Q4 rfl rfl rfl rfl rfl sz3 rfl rfl rfl rfl ?_
  intro w9 hS Qn
  replace Q4 := Qn
  clear Qn
  replace Q1 := hS.other _ _ ne_k1_k4 Q1
  replace Q2 := hS.other _ _ ne_k2_k4 Q2
  replace Q3 := hS.other _ _ ne_k3_k4 Q3
  replace M := hS.mo _ N_k4 M
  clear hS
  refine w_nil (xn_then ?_)
  refine w_cut (fun l w1 => look l 2 = pt k1 0 ∧ look l 3 = pt k2 0 ∧ look l 4 = pt k3 0 ∧ look l 5 = pt k4 0 ∧ At w1 k1 [.int .i64 (r), .int .i64 (f), .int .i64 (k), .int .i64 (d), .int .i64 (er), .int .u64 (l0 (tt)), .int .u64 (l1 (tt)), .int .u64 (l2 (tt)), .int .u64 (l3 (tt)), .int .u64 (l4 (tt)), .bool so, .bool mb, .int .u64 (l0 (mn)), .int .u64 (l1 (mn)), .int .u64 (l2 (mn)), .int .u64 (l3 (mn)), .int .i64 (ms), .bool xb, .int .u64 (l0 (xn)), .int .u64 (l1 (xn)), .int .u64 (l2 (xn)), .int .u64 (l3 (xn)), .int .i64 (xs)] ∧ At w1 k2 [.int .i64 (r2), .int .i64 (f2), .int .i64 (kb), .int .i64 (d2), .int .i64 (e2), .int .u64 (l0 (tt2)), .int .u64 (l1 (tt2)), .int .u64 (l2 (tt2)), .int .u64 (l3 (tt2)), .int .u64 (l4 (tt2)), .bool so2, .bool mb2, .int .u64 (l0 (mn2)), .int .u64 (l1 (mn2)), .int .u64 (l2 (mn2)), .int .u64 (l3 (mn2)), .int .i64 (ms2), .bool xb2, .int .u64 (l0 (xn2)), .int .u64 (l1 (xn2)), .int .u64 (l2 (xn2)), .int .u64 (l3 (xn2)), .int .i64 (xs2)] ∧ At w1 k3 [.int .i64 0, .int .i64 0, .int .i64 0, .int .i64 0, .int .i64 0, .int .u64 0, .int .u64 0, .int .u64 0, .int .u64 0, .int .u64 0, .bool false, .bool false, .int .u64 0, .int .u64 0, .int .u64 0, .int .u64 0, .int .i64 0, .bool false, .int .u64 0, .int .u64 0, .int .u64 0, .int .u64 0, .int .i64 0] ∧ At w1 k4 [.int .i64 (w64 (r + r2)), .int .i64 (w64 (f + f2)), .int .i64 (w64 (k + kb)), .int .i64 (w64 (d + d2)), .int .i64 (les er e2), .int .u64 (l0 (tt)), .int .u64 (l1 (tt)), .int .u64 (l2 (tt)), .int .u64 (l3 (tt)), .int .u64 (l4 (tt)), .bool so, .bool mb, .int .u64 (l0 (mn)), .int .u64 (l1 (mn)), .int .u64 (l2 (mn)), .int .u64 (l3 (mn)), .int .i64 (ms), .bool xb, .int .u64 (l0 (xn)), .int .u64 (l1 (xn)), .int .u64 (l2 (xn)), .int .u64 (l3 (xn)), .int .i64 (xs)] ∧ Mo w w1) ?_ ?_
  · skip
    rintro l9 w9 ⟨g2, g3, g4, g5, Q1, Q2, Q3, Q4, M⟩
    refine w_seq (w_reg ?_)
    refine wl_un (fun v => Instr.fieldAt 42 v 5) (.tmp 2) (pt k1 0) (pt k1 5) (fun _ => rfl) g2 (by kernel_rfl) rfl ?_
    refine wl_l 36 (.tmp 49) (pt k1 5) (.agg #[.int .u64 (l0 (tt)), .int .u64 (l1 (tt)), .int .u64 (l2 (tt)), .int .u64 (l3 (tt)), .int .u64 (l4 (tt))]) (run_row Q1 36 5 5 [.int .u64 (l0 (tt)), .int .u64 (l1 (tt)), .int .u64 (l2 (tt)), .int .u64 (l3 (tt)), .int .u64 (l4 (tt))] rfl Try.underlying36 rfl sz31) ?_
    refine wl_un (fun v => Instr.fieldAt 42 v 5) (.tmp 3) (pt k2 0) (pt k2 5) (fun _ => rfl) g3 (by kernel_rfl) rfl ?_
    refine wl_l 36 (.tmp 51) (pt k2 5) (.agg #[.int .u64 (l0 (tt2)), .int .u64 (l1 (tt2)), .int .u64 (l2 (tt2)), .int .u64 (l3 (tt2)), .int .u64 (l4 (tt2))]) (run_row Q2 36 5 5 [.int .u64 (l0 (tt2)), .int .u64 (l1 (tt2)), .int .u64 (l2 (tt2)), .int .u64 (l3 (tt2)), .int .u64 (l4 (tt2))] rfl Try.underlying36 rfl sz31) ?_
    refine wl_call 51 [(.tmp 50), (.tmp 52)] _ [.agg #[.int .u64 (l0 (tt)), .int .u64 (l1 (tt)), .int .u64 (l2 (tt)), .int .u64 (l3 (tt)), .int .u64 (l4 (tt))], .agg #[.int .u64 (l0 (tt2)), .int .u64 (l1 (tt2)), .int .u64 (l2 (tt2)), .int .u64 (l3 (tt2)), .int .u64 (l4 (tt2))]] (.agg #[.int .u64 (l0 (tt + tt2)), .int .u64 (l1 (tt + tt2)), .int .u64 (l2 (tt + tt2)), .int .u64 (l3 (tt + tt2)), .int .u64 (l4 (tt + tt2))]) rfl rfl (fun _ _ => by kernel_rfl) (raddw_n tt tt2) rfl ?_
    intro w51 hq
    replace Q1 := Q1.mo hq
    replace Q2 := Q2.mo hq
    replace Q3 := Q3.mo hq
    replace Q4 := Q4.mo hq
    replace M := M.trans hq
    clear hq
    refine wl_un (fun v => Instr.fieldAt 42 v 5) (.tmp 5) (pt k4 0) (pt k4 5) (fun _ => rfl) g5 (by kernel_rfl) rfl ?_
    refine wl_st 36 (.tmp 54) (.tmp 53) k4 5 #[.int .u64 (l0 (tt + tt2)), .int .u64 (l1 (tt + tt2)), .int .u64 (l2 (tt + tt2)), .int .u64 (l3 (tt + tt2)), .int .u64 (l4 (tt + tt2))] [.int .i64 (w64 (r + r2)), .int .i64 (w64 (f + f2)), .int .i64 (w64 (k + kb)), .int .i64 (w64 (d + d2)), .int .i64 (les er e2), .int .u64 (l0 (tt)), .int .u64 (l1 (tt)), .int .u64 (l2 (tt)), .int .u64 (l3 (tt)), .int .u64 (l4 (tt)), .bool so, .bool mb, .int .u64 (l0 (mn)), .int .u64 (l1 (mn)), .int .u64 (l2 (mn)), .int .u64 (l3 (mn)), .int .i64 (ms), .bool xb, .int .u64 (l0 (xn)), .int .u64 (l1 (xn)), .int .u64 (l2 (xn)), .int .u64 (l3 (xn)), .int .i64 (xs)] [.int .i64 (w64 (r + r2)), .int .i64 (w64 (f + f2)), .int .i64 (w64 (k + kb)), .int .i64 (w64 (d + d2)), .int .i64 (les er e2), .int .u64 (l0 (tt + tt2)), .int .u64 (l1 (tt + tt2)), .int .u64 (l2 (tt + tt2)), .int .u64 (l3 (tt + tt2)), .int .u64 (l4 (tt + tt2)), .bool so, .bool mb, .int .u64 (l0 (mn)), .int .u64 (l1 (mn)), .int .u64 (l2 (mn)), .int .u64 (l3 (mn)), .int .i64 (ms), .bool xb, .int .u64 (l0 (xn)), .int .u64 (l1 (xn)), .int .u64 (l2 (xn)), .int .u64 (l3 (xn)), .int .i64 (xs)] Q4 rfl rfl rfl rfl rfl sz31 rfl rfl rfl ?_
    intro w52 hS Qn
    replace Q4 := Qn
    clear Qn
    replace Q1 := hS.other _ _ ne_k1_k4 Q1
    replace Q2 := hS.other _ _ ne_k2_k4 Q2
    replace Q3 := hS.other _ _ ne_k3_k4 Q3
    replace M := hS.mo _ N_k4 M
    clear hS
    refine w_nil (xn_then (w_seq (w_seq ?_)))
    cases so with
    | true =>
      refine w_reg ?_
      refine wl_un (fun v => Instr.fieldAt 42 v 6) (.tmp 2) (pt k1 0) (pt k1 10) (fun _ => rfl) g2 (by kernel_rfl) rfl ?_
      refine wl_l 4 (.tmp 55) (pt k1 10) (.bool true) (run_one Q1 4 10 rfl Try.underlying4 rfl) ?_
      refine wl_un (fun v => Op.unary .not v) (.tmp 56) (.bool true) (.bool false) (fun _ => rfl) rfl (by kernel_rfl) rfl ?_
      refine w_nil (xn_then (w_condF rfl (w_skip (xn_then (w_seq (w_seq (w_reg ?_)))))))
      refine wl_un (fun v => Instr.fieldAt 42 v 6) (.tmp 3) (pt k2 0) (pt k2 10) (fun _ => rfl) g3 (by kernel_rfl) rfl ?_
      refine wl_l 4 (.tmp 62) (pt k2 10) (.bool so2) (run_one Q2 4 10 rfl Try.underlying4 rfl) ?_
      refine w_nil (xn_then ?_)
      cases so2 with
      | true =>
        refine w_condT rfl (w_seq (w_seq ?_))
        cases hf20 : decide (cmpv ⟨mb2, mn2, ms2⟩ ⟨mb, mn, ms⟩ < 0) with
        | true =>
          have hf20p := of_decide_eq_true hf20
          refine w_reg ?_
          refine wl_un (fun v => Instr.fieldAt 42 v 6) (.tmp 2) (pt k1 0) (pt k1 10) (fun _ => rfl) g2 (by kernel_rfl) rfl ?_
          refine wl_l 4 (.tmp 64) (pt k1 10) (.bool true) (run_one Q1 4 10 rfl Try.underlying4 rfl) ?_
          refine wl_un (fun v => Op.unary .not v) (.tmp 65) (.bool true) (.bool false) (fun _ => rfl) rfl (by kernel_rfl) rfl ?_
          refine wl_m (.tmp 66) (.bool false) ?_
          refine wl_un (fun v => Instr.fieldAt 42 v 7) (.tmp 3) (pt k2 0) (pt k2 11) (fun _ => rfl) g3 (by kernel_rfl) rfl ?_
          refine wl_l 40 (.tmp 68) (pt k2 11) (.agg #[.bool mb2, .int .u64 (l0 (mn2)), .int .u64 (l1 (mn2)), .int .u64 (l2 (mn2)), .int .u64 (l3 (mn2)), .int .i64 (ms2)]) (run_row Q2 40 11 6 [.bool mb2, .int .u64 (l0 (mn2)), .int .u64 (l1 (mn2)), .int .u64 (l2 (mn2)), .int .u64 (l3 (mn2)), .int .i64 (ms2)] rfl Try.underlying40 rfl sz26) ?_
          refine wl_un (fun v => Instr.fieldAt 42 v 7) (.tmp 2) (pt k1 0) (pt k1 11) (fun _ => rfl) g2 (by kernel_rfl) rfl ?_
          refine wl_l 40 (.tmp 70) (pt k1 11) (.agg #[.bool mb, .int .u64 (l0 (mn)), .int .u64 (l1 (mn)), .int .u64 (l2 (mn)), .int .u64 (l3 (mn)), .int .i64 (ms)]) (run_row Q1 40 11 6 [.bool mb, .int .u64 (l0 (mn)), .int .u64 (l1 (mn)), .int .u64 (l2 (mn)), .int .u64 (l3 (mn)), .int .i64 (ms)] rfl Try.underlying40 rfl sz26) ?_
          refine wl_call 52 [(.tmp 69), (.tmp 71)] _ [.agg #[.bool mb2, .int .u64 (l0 (mn2)), .int .u64 (l1 (mn2)), .int .u64 (l2 (mn2)), .int .u64 (l3 (mn2)), .int .i64 (ms2)], .agg #[.bool mb, .int .u64 (l0 (mn)), .int .u64 (l1 (mn)), .int .u64 (l2 (mn)), .int .u64 (l3 (mn)), .int .i64 (ms)]] (.int .i64 (cmpv ⟨mb2, mn2, ms2⟩ ⟨mb, mn, ms⟩)) rfl rfl (fun _ _ => by kernel_rfl) (rcmp_d ⟨mb2, mn2, ms2⟩ ⟨mb, mn, ms⟩ hm2 hm _) rfl ?_
          intro w53 hq
          replace Q1 := Q1.mo hq
          replace Q2 := Q2.mo hq
          replace Q3 := Q3.mo hq
          replace Q4 := Q4.mo hq
          replace M := M.trans hq
          clear hq
          refine wl_b .lss 3 (.tmp 72) (.const (.int .i64 (0))) (.int .i64 (cmpv ⟨mb2, mn2, ms2⟩ ⟨mb, mn, ms⟩)) (.int .i64 (0)) (.bool true) (ltI hf20 _ _ _) ?_
          refine wl_pick (.tmp 67) (.const (.bool true)) (.tmp 73) false (.bool true) (fun _ => rfl) rfl rfl rfl ?_
          refine w_nil (xn_then (w_condT rfl (w_reg ?_)))
          refine wl_un (fun v => Instr.fieldAt 42 v 7) (.tmp 3) (pt k2 0) (pt k2 11) (fun _ => rfl) g3 (by kernel_rfl) rfl ?_
          refine wl_l 40 (.tmp 75) (pt k2 11) (.agg #[.bool mb2, .int .u64 (l0 (mn2)), .int .u64 (l1 (mn2)), .int .u64 (l2 (mn2)), .int .u64 (l3 (mn2)), .int .i64 (ms2)]) (run_row Q2 40 11 6 [.bool mb2, .int .u64 (l0 (mn2)), .int .u64 (l1 (mn2)), .int .u64 (l2 (mn2)), .int .u64 (l3 (mn2)), .int .i64 (ms2)] rfl Try.underlying40 rfl sz26) ?_
          refine wl_un (fun v => Instr.fieldAt 42 v 7) (.tmp 5) (pt k4 0) (pt k4 11) (fun _ => rfl) g5 (by kernel_rfl) rfl ?_
          refine wl_st 40 (.tmp 77) (.tmp 76) k4 11 #[.bool mb2, .int .u64 (l0 (mn2)), .int .u64 (l1 (mn2)), .int .u64 (l2 (mn2)), .int .u64 (l3 (mn2)), .int .i64 (ms2)] [.int .i64 (w64 (r + r2)), .int .i64 (w64 (f + f2)), .int .i64 (w64 (k + kb)), .int .i64 (w64 (d + d2)), .int .i64 (les er e2), .int .u64 (l0 (tt + tt2)), .int .u64 (l1 (tt + tt2)), .int .u64 (l2 (tt + tt2)), .int .u64 (l3 (tt + tt2)), .int .u64 (l4 (tt + tt2)), .bool true, .bool mb, .int .u64 (l0 (mn)), .int .u64 (l1 (mn)), .int .u64 (l2 (mn)), .int .u64 (l3 (mn)), .int .i64 (ms), .bool xb, .int .u64 (l0 (xn)), .int .u64 (l1 (xn)), .int .u64 (l2 (xn)), .int .u64 (l3 (xn)), .int .i64 (xs)] [.int .i64 (w64 (r + r2)), .int .i64 (w64 (f + f2)), .int .i64 (w64 (k + kb)), .int .i64 (w64 (d + d2)), .int .i64 (les er e2), .int .u64 (l0 (tt + tt2)), .int .u64 (l1 (tt + tt2)), .int .u64 (l2 (tt + tt2)), .int .u64 (l3 (tt + tt2)), .int .u64 (l4 (tt + tt2)), .bool true, .bool mb2, .int .u64 (l0 (mn2)), .int .u64 (l1 (mn2)), .int .u64 (l2 (mn2)), .int .u64 (l3 (mn2)), .int .i64 (ms2), .bool xb, .int .u64 (l0 (xn)), .int .u64 (l1 (xn)), .int .u64 (l2 (xn)), .int .u64 (l3 (xn)), .int .i64 (xs)] Q4 rfl rfl rfl rfl rfl sz26 rfl rfl rfl ?_
          intro w54 hS Qn
          replace Q4 := Qn
          clear Qn
          replace Q1 := hS.other _ _ ne_k1_k4 Q1
          replace Q2 := hS.other _ _ ne_k2_k4 Q2
          replace Q3 := hS.other _ _ ne_k3_k4 Q3
          replace M := hS.mo _ N_k4 M
          clear hS
          refine w_nil (xn_then (w_seq (w_seq ?_)))
          cases hf21 : decide (0 < cmpv ⟨xb2, xn2, xs2⟩ ⟨xb, xn, xs⟩) with
          | true =>
            have hf21p := of_decide_eq_true hf21
            refine w_reg ?_
            refine wl_un (fun v => Instr.fieldAt 42 v 6) (.tmp 2) (pt k1 0) (pt k1 10) (fun _ => rfl) g2 (by kernel_rfl) rfl ?_
            refine wl_l 4 (.tmp 78) (pt k1 10) (.bool true) (run_one Q1 4 10 rfl Try.underlying4 rfl) ?_
            refine wl_un (fun v => Op.unary .not v) (.tmp 79) (.bool true) (.bool false) (fun _ => rfl) rfl (by kernel_rfl) rfl ?_
            refine wl_m (.tmp 80) (.bool false) ?_
            refine wl_un (fun v => Instr.fieldAt 42 v 8) (.tmp 3) (pt k2 0) (pt k2 17) (fun _ => rfl) g3 (by kernel_rfl) rfl ?_
            refine wl_l 40 (.tmp 82) (pt k2 17) (.agg #[.bool xb2, .int .u64 (l0 (xn2)), .int .u64 (l1 (xn2)), .int .u64 (l2 (xn2)), .int .u64 (l3 (xn2)), .int .i64 (xs2)]) (run_row Q2 40 17 6 [.bool xb2, .int .u64 (l0 (xn2)), .int .u64 (l1 (xn2)), .int .u64 (l2 (xn2)), .int .u64 (l3 (xn2)), .int .i64 (xs2)] rfl Try.underlying40 rfl sz26) ?_
            refine wl_un (fun v => Instr.fieldAt 42 v 8) (.tmp 2) (pt k1 0) (pt k1 17) (fun _ => rfl) g2 (by kernel_rfl) rfl ?_
            refine wl_l 40 (.tmp 84) (pt k1 17) (.agg #[.bool xb, .int .u64 (l0 (xn)), .int .u64 (l1 (xn)), .int .u64 (l2 (xn)), .int .u64 (l3 (xn)), .int .i64 (xs)]) (run_row Q1 40 17 6 [.bool xb, .int .u64 (l0 (xn)), .int .u64 (l1 (xn)), .int .u64 (l2 (xn)), .int .u64 (l3 (xn)), .int .i64 (xs)] rfl Try.underlying40 rfl sz26) ?_
            refine wl_call 52 [(.tmp 83), (.tmp 85)] _ [.agg #[.bool xb2, .int .u64 (l0 (xn2)), .int .u64 (l1 (xn2)), .int .u64 (l2 (xn2)), .int .u64 (l3 (xn2)), .int .i64 (xs2)], .agg #[.bool xb, .int .u64 (l0 (xn)), .int .u64 (l1 (xn)), .int .u64 (l2 (xn)), .int .u64 (l3 (xn)), .int .i64 (xs)]] (.int .i64 (cmpv ⟨xb2, xn2, xs2⟩ ⟨xb, xn, xs⟩)) rfl rfl (fun _ _ => by kernel_rfl) (rcmp_d ⟨xb2, xn2, xs2⟩ ⟨xb, xn, xs⟩ hx2 hx _) rfl ?_
            intro w55 hq
            replace Q1 := Q1.mo hq
            replace Q2 := Q2.mo hq
            replace Q3 := Q3.mo hq
            replace Q4 := Q4.mo hq
            replace M := M.trans hq
            clear hq
            refine wl_b .gtr 3 (.tmp 86) (.const (.int .i64 (0))) (.int .i64 (cmpv ⟨xb2, xn2, xs2⟩ ⟨xb, xn, xs⟩)) (.int .i64 (0)) (.bool true) (gtI hf21 _ _ _) ?_
            refine wl_pick (.tmp 81) (.const (.bool true)) (.tmp 87) false (.bool true) (fun _ => rfl) rfl rfl rfl ?_
            refine w_nil (xn_then (w_condT rfl (w_reg ?_)))
            refine wl_un (fun v => Instr.fieldAt 42 v 8) (.tmp 3) (pt k2 0) (pt k2 17) (fun _ => rfl) g3 (by kernel_rfl) rfl ?_
            refine wl_l 40 (.tmp 89) (pt k2 17) (.agg #[.bool xb2, .int .u64 (l0 (xn2)), .int .u64 (l1 (xn2)), .int .u64 (l2 (xn2)), .int .u64 (l3 (xn2)), .int .i64 (xs2)]) (run_row Q2 40 17 6 [.bool xb2, .int .u64 (l0 (xn2)), .int .u64 (l1 (xn2)), .int .u64 (l2 (xn2)), .int .u64 (l3 (xn2)), .int .i64 (xs2)] rfl Try.underlying40 rfl sz26) ?_
            refine wl_un (fun v => Instr.fieldAt 42 v 8) (.tmp 5) (pt k4 0) (pt k4 17) (fun _ => rfl) g5 (by kernel_rfl) rfl ?_
            refine wl_st 40 (.tmp 91) (.tmp 90) k4 17 #[.bool xb2, .int .u64 (l0 (xn2)), .int .u64 (l1 (xn2)), .int .u64 (l2 (xn2)), .int .u64 (l3 (xn2)), .int .i64 (xs2)] [.int .i64 (w64 (r + r2)), .int .i64 (w64 (f + f2)), .int .i64 (w64 (k + kb)), .int .i64 (w64 (d + d2)), .int .i64 (les er e2), .int .u64 (l0 (tt + tt2)), .int .u64 (l1 (tt + tt2)), .int .u64 (l2 (tt + tt2)), .int .u64 (l3 (tt + tt2)), .int .u64 (l4 (tt + tt2)), .bool true, .bool mb2, .int .u64 (l0 (mn2)), .int .u64 (l1 (mn2)), .int .u64 (l2 (mn2)), .int .u64 (l3 (mn2)), .int .i64 (ms2), .bool xb, .int .u64 (l0 (xn)), .int .u64 (l1 (xn)), .int .u64 (l2 (xn)), .int .u64 (l3 (xn)), .int .i64 (xs)] [.int .i64 (w64 (r + r2)), .int .i64 (w64 (f + f2)), .int .i64 (w64 (k + kb)), .int .i64 (w64 (d + d2)), .int .i64 (les er e2), .int .u64 (l0 (tt + tt2)), .int .u64 (l1 (tt + tt2)), .int .u64 (l2 (tt + tt2)), .int .u64 (l3 (tt + tt2)), .int .u64 (l4 (tt + tt2)), .bool true, .bool mb2, .int .u64 (l0 (mn2)), .int .u64 (l1 (mn2)), .int .u64 (l2 (mn2)), .int .u64 (l3 (mn2)), .int .i64 (ms2), .bool xb2, .int .u64 (l0 (xn2)), .int .u64 (l1 (xn2)), .int .u64 (l2 (xn2)), .int .u64 (l3 (xn2)), .int .i64 (xs2)] Q4 rfl rfl rfl rfl rfl sz26 rfl rfl rfl ?_
            intro w56 hS Qn
            replace Q4 := Qn
            clear Qn
            replace Q1 := hS.other _ _ ne_k1_k4 Q1
            replace Q2 := hS.other _ _ ne_k2_k4 Q2
            replace Q3 := hS.other _ _ ne_k3_k4 Q3
            replace M := hS.mo _ N_k4 M
            clear hS
            refine w_nil (xn_then (w_reg ?_))
            refine wl_un (fun v => Instr.fieldAt 42 v 6) (.tmp 5) (pt k4 0) (pt k4 10) (fun _ => rfl) g5 (by kernel_rfl) rfl ?_
            refine wl_st1 4 (.tmp 92) (.const (.bool true)) k4 10 (.bool true) [.int .i64 (w64 (r + r2)), .int .i64 (w64 (f + f2)), .int .i64 (w64 (k + kb)), .int .i64 (w64 (d + d2)), .int .i64 (les er e2), .int .u64 (l0 (tt + tt2)), .int .u64 (l1 (tt + tt2)), .int .u64 (l2 (tt + tt2)), .int .u64 (l3 (tt + tt2)), .int .u64 (l4 (tt + tt2)), .bool true, .bool mb2, .int .u64 (l0 (mn2)), .int .u64 (l1 (mn2)), .int .u64 (l2 (mn2)), .int .u64 (l3 (mn2)), .int .i64 (ms2), .bool xb2, .int .u64 (l0 (xn2)), .int .u64 (l1 (xn2)), .int .u64 (l2 (xn2)), .int .u64 (l3 (xn2)), .int .i64 (xs2)] [.int .i64 (w64 (r + r2)), .int .i64 (w64 (f + f2)), .int .i64 (w64 (k + kb)), .int .i64 (w64 (d + d2)), .int .i64 (les er e2), .int .u64 (l0 (tt + tt2)), .int .u64 (l1 (tt + tt2)), .int .u64 (l2 (tt + tt2)), .int .u64 (l3 (tt + tt2)), .int .u64 (l4 (tt + tt2)), .bool true, .bool mb2, .int .u64 (l0 (mn2)), .int .u64 (l1 (mn2)), .int .u64 (l2 (mn2)), .int .u64 (l3 (mn2)), .int .i64 (ms2), .bool xb2, .int .u64 (l0 (xn2)), .int .u64 (l1 (xn2)), .int .u64 (l2 (xn2)), .int .u64 (l3 (xn2)), .int .i64 (xs2)] Q4 rfl rfl rfl rfl rfl sz4 rfl rfl rfl rfl ?_
            intro w57 hS Qn
            replace Q4 := Qn
            clear Qn
            replace Q1 := hS.other _ _ ne_k1_k4 Q1
            replace Q2 := hS.other _ _ ne_k2_k4 Q2
            replace Q3 := hS.other _ _ ne_k3_k4 Q3
            replace M := hS.mo _ N_k4 M
            clear hS
            refine w_nil (xn_then (w_seq (w_reg ?_)))
            refine wl_load 42 (.tmp 5) (pt k4 0) (.agg #[.int .i64 (w64 (r + r2)), .int .i64 (w64 (f + f2)), .int .i64 (w64 (k + kb)), .int .i64 (w64 (d + d2)), .int .i64 (les er e2), .int .u64 (l0 (tt + tt2)), .int .u64 (l1 (tt + tt2)), .int .u64 (l2 (tt + tt2)), .int .u64 (l3 (tt + tt2)), .int .u64 (l4 (tt + tt2)), .bool true, .bool mb2, .int .u64 (l0 (mn2)), .int .u64 (l1 (mn2)), .int .u64 (l2 (mn2)), .int .u64 (l3 (mn2)), .int .i64 (ms2), .bool xb2, .int .u64 (l0 (xn2)), .int .u64 (l1 (xn2)), .int .u64 (l2 (xn2)), .int .u64 (l3 (xn2)), .int .i64 (xs2)]) rfl g5 (run_row Q4 42 0 23 [.int .i64 (w64 (r + r2)), .int .i64 (w64 (f + f2)), .int .i64 (w64 (k + kb)), .int .i64 (w64 (d + d2)), .int .i64 (les er e2), .int .u64 (l0 (tt + tt2)), .int .u64 (l1 (tt + tt2)), .int .u64 (l2 (tt + tt2)), .int .u64 (l3 (tt + tt2)), .int .u64 (l4 (tt + tt2)), .bool true, .bool mb2, .int .u64 (l0 (mn2)), .int .u64 (l1 (mn2)), .int .u64 (l2 (mn2)), .int .u64 (l3 (mn2)), .int .i64 (ms2), .bool xb2, .int .u64 (l0 (xn2)), .int .u64 (l1 (xn2)), .int .u64 (l2 (xn2)), .int .u64 (l3 (xn2)), .int .i64 (xs2)] rfl Try.underlying42 rfl sz33) rfl ?_
            refine wl_st 42 (.tmp 4) (.tmp 93) k3 0 #[.int .i64 (w64 (r + r2)), .int .i64 (w64 (f + f2)), .int .i64 (w64 (k + kb)), .int .i64 (w64 (d + d2)), .int .i64 (les er e2), .int .u64 (l0 (tt + tt2)), .int .u64 (l1 (tt + tt2)), .int .u64 (l2 (tt + tt2)), .int .u64 (l3 (tt + tt2)), .int .u64 (l4 (tt + tt2)), .bool true, .bool mb2, .int .u64 (l0 (mn2)), .int .u64 (l1 (mn2)), .int .u64 (l2 (mn2)), .int .u64 (l3 (mn2)), .int .i64 (ms2), .bool xb2, .int .u64 (l0 (xn2)), .int .u64 (l1 (xn2)), .int .u64 (l2 (xn2)), .int .u64 (l3 (xn2)), .int .i64 (xs2)] [.int .i64 0, .int .i64 0, .int .i64 0, .int .i64 0, .int .i64 0, .int .u64 0, .int .u64 0, .int .u64 0, .int .u64 0, .int .u64 0, .bool false, .bool false, .int .u64 0, .int .u64 0, .int .u64 0, .int .u64 0, .int .i64 0, .bool false, .int .u64 0, .int .u64 0, .int .u64 0, .int .u64 0, .int .i64 0] [.int .i64 (w64 (r + r2)), .int .i64 (w64 (f + f2)), .int .i64 (w64 (k + kb)), .int .i64 (w64 (d + d2)), .int .i64 (les er e2), .int .u64 (l0 (tt + tt2)), .int .u64 (l1 (tt + tt2)), .int .u64 (l2 (tt + tt2)), .int .u64 (l3 (tt + tt2)), .int .u64 (l4 (tt + tt2)), .bool true, .bool mb2, .int .u64 (l0 (mn2)), .int .u64 (l1 (mn2)), .int .u64 (l2 (mn2)), .int .u64 (l3 (mn2)), .int .i64 (ms2), .bool xb2, .int .u64 (l0 (xn2)), .int .u64 (l1 (xn2)), .int .u64 (l2 (xn2)), .int .u64 (l3 (xn2)), .int .i64 (xs2)] Q3 rfl rfl g4 rfl rfl sz33 rfl rfl rfl ?_
            intro w58 hS Qn
            replace Q3 := Qn
            clear Qn
            replace Q1 := hS.other _ _ ne_k1_k3 Q1
            replace Q2 := hS.other _ _ ne_k2_k3 Q2
            replace Q4 := hS.other _ _ ne_k3_k4.symm Q4
            replace M := hS.mo _ N_k3 M
            clear hS
            refine w_nil (xn_then (w_ret ?_))
            exact w_ret1 _ (.agg #[.int .i64 (w64 (r + r2)), .int .i64 (w64 (f + f2)), .int .i64 (w64 (k + kb)), .int .i64 (w64 (d + d2)), .int .i64 (les er e2), .int .u64 (l0 (tt + tt2)), .int .u64 (l1 (tt + tt2)), .int .u64 (l2 (tt + tt2)), .int .u64 (l3 (tt + tt2)), .int .u64 (l4 (tt + tt2)), .bool true, .bool mb2, .int .u64 (l0 (mn2)), .int .u64 (l1 (mn2)), .int .u64 (l2 (mn2)), .int .u64 (l3 (mn2)), .int .i64 (ms2), .bool xb2, .int .u64 (l0 (xn2)), .int .u64 (l1 (xn2)), .int .u64 (l2 (xn2)), .int .u64 (l3 (xn2)), .int .i64 (xs2)]) rfl ⟨k3, g4, (run_row Q3 42 0 23 [.int .i64 (w64 (r + r2)), .int .i64 (w64 (f + f2)), .int .i64 (w64 (k + kb)), .int .i64 (w64 (d + d2)), .int .i64 (les er e2), .int .u64 (l0 (tt + tt2)), .int .u64 (l1 (tt + tt2)), .int .u64 (l2 (tt + tt2)), .int .u64 (l3 (tt + tt2)), .int .u64 (l4 (tt + tt2)), .bool true, .bool mb2, .int .u64 (l0 (mn2)), .int .u64 (l1 (mn2)), .int .u64 (l2 (mn2)), .int .u64 (l3 (mn2)), .int .i64 (ms2), .bool xb2, .int .u64 (l0 (xn2)), .int .u64 (l1 (xn2)), .int .u64 (l2 (xn2)), .int .u64 (l3 (xn2)), .int .i64 (xs2)] rfl Try.underlying42 rfl sz33)⟩ ⟨by unfold jn str; simp only [if_true, if_pos hf20p, if_pos hf21p], M⟩
          | false =>
            have hf21p := of_decide_eq_false hf21
            refine w_reg ?_
            refine wl_un (fun v => Instr.fieldAt 42 v 6) (.tmp 2) (pt k1 0) (pt k1 10) (fun _ => rfl) g2 (by kernel_rfl) rfl ?_
            refine wl_l 4 (.tmp 78) (pt k1 10) (.bool true) (run_one Q1 4 10 rfl Try.underlying4 rfl) ?_
            refine wl_un (fun v => Op.unary .not v) (.tmp 79) (.bool true) (.bool false) (fun _ => rfl) rfl (by kernel_rfl) rfl ?_
            refine wl_m (.tmp 80) (.bool false) ?_
            refine wl_un (fun v => Instr.fieldAt 42 v 8) (.tmp 3) (pt k2 0) (pt k2 17) (fun _ => rfl) g3 (by kernel_rfl) rfl ?_
            refine wl_l 40 (.tmp 82) (pt k2 17) (.agg #[.bool xb2, .int .u64 (l0 (xn2)), .int .u64 (l1 (xn2)), .int .u64 (l2 (xn2)), .int .u64 (l3 (xn2)), .int .i64 (xs2)]) (run_row Q2 40 17 6 [.bool xb2, .int .u64 (l0 (xn2)), .int .u64 (l1 (xn2)), .int .u64 (l2 (xn2)), .int .u64 (l3 (xn2)), .int .i64 (xs2)] rfl Try.underlying40 rfl sz26) ?_
            refine wl_un (fun v => Instr.fieldAt 42 v 8) (.tmp 2) (pt k1 0) (pt k1 17) (fun _ => rfl) g2 (by kernel_rfl) rfl ?_
            refine wl_l 40 (.tmp 84) (pt k1 17) (.agg #[.bool xb, .int .u64 (l0 (xn)), .int .u64 (l1 (xn)), .int .u64 (l2 (xn)), .int .u64 (l3 (xn)), .int .i64 (xs)]) (run_row Q1 40 17 6 [.bool xb, .int .u64 (l0 (xn)), .int .u64 (l1 (xn)), .int .u64 (l2 (xn)), .int .u64 (l3 (xn)), .int .i64 (xs)] rfl Try.underlying40 rfl sz26) ?_
            refine wl_call 52 [(.tmp 83), (.tmp 85)] _ [.agg #[.bool xb2, .int .u64 (l0 (xn2)), .int .u64 (l1 (xn2)), .int .u64 (l2 (xn2)), .int .u64 (l3 (xn2)), .int .i64 (xs2)], .agg #[.bool xb, .int .u64 (l0 (xn)), .int .u64 (l1 (xn)), .int .u64 (l2 (xn)), .int .u64 (l3 (xn)), .int .i64 (xs)]] (.int .i64 (cmpv ⟨xb2, xn2, xs2⟩ ⟨xb, xn, xs⟩)) rfl rfl (fun _ _ => by kernel_rfl) (rcmp_d ⟨xb2, xn2, xs2⟩ ⟨xb, xn, xs⟩ hx2 hx _) rfl ?_
            intro w55 hq
            replace Q1 := Q1.mo hq
            replace Q2 := Q2.mo hq
            replace Q3 := Q3.mo hq
            replace Q4 := Q4.mo hq
            replace M := M.trans hq
            clear hq
            refine wl_b .gtr 3 (.tmp 86) (.const (.int .i64 (0))) (.int .i64 (cmpv ⟨xb2, xn2, xs2⟩ ⟨xb, xn, xs⟩)) (.int .i64 (0)) (.bool false) (gtI hf21 _ _ _) ?_
            refine wl_pick (.tmp 81) (.const (.bool true)) (.tmp 87) false (.bool false) (fun _ => rfl) rfl rfl rfl ?_
            refine w_nil (xn_then (w_condF rfl (w_skip (xn_then (w_reg ?_)))))
            refine wl_un (fun v => Instr.fieldAt 42 v 6) (.tmp 5) (pt k4 0) (pt k4 10) (fun _ => rfl) g5 (by kernel_rfl) rfl ?_
            refine wl_st1 4 (.tmp 92) (.const (.bool true)) k4 10 (.bool true) [.int .i64 (w64 (r + r2)), .int .i64 (w64 (f + f2)), .int .i64 (w64 (k + kb)), .int .i64 (w64 (d + d2)), .int .i64 (les er e2), .int .u64 (l0 (tt + tt2)), .int .u64 (l1 (tt + tt2)), .int .u64 (l2 (tt + tt2)), .int .u64 (l3 (tt + tt2)), .int .u64 (l4 (tt + tt2)), .bool true, .bool mb2, .int .u64 (l0 (mn2)), .int .u64 (l1 (mn2)), .int .u64 (l2 (mn2)), .int .u64 (l3 (mn2)), .int .i64 (ms2), .bool xb, .int .u64 (l0 (xn)), .int .u64 (l1 (xn)), .int .u64 (l2 (xn)), .int .u64 (l3 (xn)), .int .i64 (xs)] [.int .i64 (w64 (r + r2)), .int .i64 (w64 (f + f2)), .int .i64 (w64 (k + kb)), .int .i64 (w64 (d + d2)), .int .i64 (les er e2), .int .u64 (l0 (tt + tt2)), .int .u64 (l1 (tt + tt2)), .int .u64 (l2 (tt + tt2)), .int .u64 (l3 (tt + tt2)), .int .u64 (l4 (tt + tt2)), .bool true, .bool mb2, .int .u64 (l0 (mn2)), .int .u64 (l1 (mn2)), .int .u64 (l2 (mn2)), .int .u64 (l3 (mn2)), .int .i64 (ms2), .bool xb, .int .u64 (l0 (xn)), .int .u64 (l1 (xn)), .int .u64 (l2 (xn)), .int .u64 (l3 (xn)), .int .i64 (xs)] Q4 rfl rfl rfl rfl rfl sz4 rfl rfl rfl rfl ?_
            intro w56 hS Qn
            replace Q4 := Qn
            clear Qn
            replace Q1 := hS.other _ _ ne_k1_k4 Q1
            replace Q2 := hS.other _ _ ne_k2_k4 Q2
            replace Q3 := hS.other _ _ ne_k3_k4 Q3
            replace M := hS.mo _ N_k4 M
            clear hS
            refine w_nil (xn_then (w_seq (w_reg ?_)))
            refine wl_load 42 (.tmp 5) (pt k4 0) (.agg #[.int .i64 (w64 (r + r2)), .int .i64 (w64 (f + f2)), .int .i64 (w64 (k + kb)), .int .i64 (w64 (d + d2)), .int .i64 (les er e2), .int .u64 (l0 (tt + tt2)), .int .u64 (l1 (tt + tt2)), .int .u64 (l2 (tt + tt2)), .int .u64 (l3 (tt + tt2)), .int .u64 (l4 (tt + tt2)), .bool true, .bool mb2, .int .u64 (l0 (mn2)), .int .u64 (l1 (mn2)), .int .u64 (l2 (mn2)), .int .u64 (l3 (mn2)), .int .i64 (ms2), .bool xb, .int .u64 (l0 (xn)), .int .u64 (l1 (xn)), .int .u64 (l2 (xn)), .int .u64 (l3 (xn)), .int .i64 (xs)]) rfl g5 (run_row Q4 42 0 23 [.int .i64 (w64 (r + r2)), .int .i64 (w64 (f + f2)), .int .i64 (w64 (k + kb)), .int .i64 (w64 (d + d2)), .int .i64 (les er e2), .int .u64 (l0 (tt + tt2)), .int .u64 (l1 (tt + tt2)), .int .u64 (l2 (tt + tt2)), .int .u64 (l3 (tt + tt2)), .int .u64 (l4 (tt + tt2)), .bool true, .bool mb2, .int .u64 (l0 (mn2)), .int .u64 (l1 (mn2)), .int .u64 (l2 (mn2)), .int .u64 (l3 (mn2)), .int .i64 (ms2), .bool xb, .int .u64 (l0 (xn)), .int .u64 (l1 (xn)), .int .u64 (l2 (xn)), .int .u64 (l3 (xn)), .int .i64 (xs)] rfl Try.underlying42 rfl sz33) rfl ?_
            refine wl_st 42 (.tmp 4) (.tmp 93) k3 0 #[.int .i64 (w64 (r + r2)), .int .i64 (w64 (f + f2)), .int .i64 (w64 (k + kb)), .int .i64 (w64 (d + d2)), .int .i64 (les er e2), .int .u64 (l0 (tt + tt2)), .int .u64 (l1 (tt + tt2)), .int .u64 (l2 (tt + tt2)), .int .u64 (l3 (tt + tt2)), .int .u64 (l4 (tt + tt2)), .bool true, .bool mb2, .int .u64 (l0 (mn2)), .int .u64 (l1 (mn2)), .int .u64 (l2 (mn2)), .int .u64 (l3 (mn2)), .int .i64 (ms2), .bool xb, .int .u64 (l0 (xn)), .int .u64 (l1 (xn)), .int .u64 (l2 (xn)), .int .u64 (l3 (xn)), .int .i64 (xs)] [.int .i64 0, .int .i64 0, .int .i64 0, .int .i64 0, .int .i64 0, .int .u64 0, .int .u64 0, .int .u64 0, .int .u64 0, .int .u64 0, .bool false, .bool false, .int .u64 0, .int .u64 0, .int .u64 0, .int .u64 0, .int .i64 0, .bool false, .int .u64 0, .int .u64 0, .int .u64 0, .int .u64 0, .int .i64 0] [.int .i64 (w64 (r + r2)), .int .i64 (w64 (f + f2)), .int .i64 (w64 (k + kb)), .int .i64 (w64 (d + d2)), .int .i64 (les er e2), .int .u64 (l0 (tt + tt2)), .int .u64 (l1 (tt + tt2)), .int .u64 (l2 (tt + tt2)), .int .u64 (l3 (tt + tt2)), .int .u64 (l4 (tt + tt2)), .bool true, .bool mb2, .int .u64 (l0 (mn2)), .int .u64 (l1 (mn2)), .int .u64 (l2 (mn2)), .int .u64 (l3 (mn2)), .int .i64 (ms2), .bool xb, .int .u64 (l0 (xn)), .int .u64 (l1 (xn)), .int .u64 (l2 (xn)), .int .u64 (l3 (xn)), .int .i64 (xs)] Q3 rfl rfl g4 rfl rfl sz33 rfl rfl rfl ?_
            intro w57 hS Qn
            replace Q3 := Qn
            clear Qn
            replace Q1 := hS.other _ _ ne_k1_k3 Q1
            replace Q2 := hS.other _ _ ne_k2_k3 Q2
            replace Q4 := hS.other _ _ ne_k3_k4.symm Q4
            replace M := hS.mo _ N_k3 M
            clear hS
            refine w_nil (xn_then (w_ret ?_))
            exact w_ret1 _ (.agg #[.int .i64 (w64 (r + r2)), .int .i64 (w64 (f + f2)), .int .i64 (w64 (k + kb)), .int .i64 (w64 (d + d2)), .int .i64 (les er e2), .int .u64 (l0 (tt + tt2)), .int .u64 (l1 (tt + tt2)), .int .u64 (l2 (tt + tt2)), .int .u64 (l3 (tt + tt2)), .int .u64 (l4 (tt + tt2)), .bool true, .bool mb2, .int .u64 (l0 (mn2)), .int .u64 (l1 (mn2)), .int .u64 (l2 (mn2)), .int .u64 (l3 (mn2)), .int .i64 (ms2), .bool xb, .int .u64 (l0 (xn)), .int .u64 (l1 (xn)), .int .u64 (l2 (xn)), .int .u64 (l3 (xn)), .int .i64 (xs)]) rfl ⟨k3, g4, (run_row Q3 42 0 23 [.int .i64 (w64 (r + r2)), .int .i64 (w64 (f + f2)), .int .i64 (w64 (k + kb)), .int .i64 (w64 (d + d2)), .int .i64 (les er e2), .int .u64 (l0 (tt + tt2)), .int .u64 (l1 (tt + tt2)), .int .u64 (l2 (tt + tt2)), .int .u64 (l3 (tt + tt2)), .int .u64 (l4 (tt + tt2)), .bool true, .bool mb2, .int .u64 (l0 (mn2)), .int .u64 (l1 (mn2)), .int .u64 (l2 (mn2)), .int .u64 (l3 (mn2)), .int .i64 (ms2), .bool xb, .int .u64 (l0 (xn)), .int .u64 (l1 (xn)), .int .u64 (l2 (xn)), .int .u64 (l3 (xn)), .int .i64 (xs)] rfl Try.underlying42 rfl sz33)⟩ ⟨by unfold jn str; simp only [if_true, if_pos hf20p, if_neg hf21p], M⟩
        | false =>
          have hf20p := of_decide_eq_false hf20
          refine w_reg ?_
          refine wl_un (fun v => Instr.fieldAt 42 v 6) (.tmp 2) (pt k1 0) (pt k1 10) (fun _ => rfl) g2 (by kernel_rfl) rfl ?_
          refine wl_l 4 (.tmp 64) (pt k1 10) (.bool true) (run_one Q1 4 10 rfl Try.underlying4 rfl) ?_
          refine wl_un (fun v => Op.unary .not v) (.tmp 65) (.bool true) (.bool false) (fun _ => rfl) rfl (by kernel_rfl) rfl ?_
          refine wl_m (.tmp 66) (.bool false) ?_
          refine wl_un (fun v => Instr.fieldAt 42 v 7) (.tmp 3) (pt k2 0) (pt k2 11) (fun _ => rfl) g3 (by kernel_rfl) rfl ?_
          refine wl_l 40 (.tmp 68) (pt k2 11) (.agg #[.bool mb2, .int .u64 (l0 (mn2)), .int .u64 (l1 (mn2)), .int .u64 (l2 (mn2)), .int .u64 (l3 (mn2)), .int .i64 (ms2)]) (run_row Q2 40 11 6 [.bool mb2, .int .u64 (l0 (mn2)), .int .u64 (l1 (mn2)), .int .u64 (l2 (mn2)), .int .u64 (l3 (mn2)), .int .i64 (ms2)] rfl Try.underlying40 rfl sz26) ?_
          refine wl_un (fun v => Instr.fieldAt 42 v 7) (.tmp 2) (pt k1 0) (pt k1 11) (fun _ => rfl) g2 (by kernel_rfl) rfl ?_
          refine wl_l 40 (.tmp 70) (pt k1 11) (.agg #[.bool mb, .int .u64 (l0 (mn)), .int .u64 (l1 (mn)), .int .u64 (l2 (mn)), .int .u64 (l3 (mn)), .int .i64 (ms)]) (run_row Q1 40 11 6 [.bool mb, .int .u64 (l0 (mn)), .int .u64 (l1 (mn)), .int .u64 (l2 (mn)), .int .u64 (l3 (mn)), .int .i64 (ms)] rfl Try.underlying40 rfl sz26) ?_
          refine wl_call 52 [(.tmp 69), (.tmp 71)] _ [.agg #[.bool mb2, .int .u64 (l0 (mn2)), .int .u64 (l1 (mn2)), .int .u64 (l2 (mn2)), .int .u64 (l3 (mn2)), .int .i64 (ms2)], .agg #[.bool mb, .int .u64 (l0 (mn)), .int .u64 (l1 (mn)), .int .u64 (l2 (mn)), .int .u64 (l3 (mn)), .int .i64 (ms)]] (.int .i64 (cmpv ⟨mb2, mn2, ms2⟩ ⟨mb, mn, ms⟩)) rfl rfl (fun _ _ => by kernel_rfl) (rcmp_d ⟨mb2, mn2, ms2⟩ ⟨mb, mn, ms⟩ hm2 hm _) rfl ?_
          intro w53 hq
          replace Q1 := Q1.mo hq
          replace Q2 := Q2.mo hq
          replace Q3 := Q3.mo hq
          replace Q4 := Q4.mo hq
          replace M := M.trans hq
          clear hq
          refine wl_b .lss 3 (.tmp 72) (.const (.int .i64 (0))) (.int .i64 (cmpv ⟨mb2, mn2, ms2⟩ ⟨mb, mn, ms⟩)) (.int .i64 (0)) (.bool false) (ltI hf20 _ _ _) ?_
          refine wl_pick (.tmp 67) (.const (.bool true)) (.tmp 73) false (.bool false) (fun _ => rfl) rfl rfl rfl ?_
          refine w_nil (xn_then (w_condF rfl (w_skip (xn_then (w_seq (w_seq ?_))))))
          cases hf21 : decide (0 < cmpv ⟨xb2, xn2, xs2⟩ ⟨xb, xn, xs⟩) with
          | true =>
            have hf21p := of_decide_eq_true hf21
            refine w_reg ?_
            refine wl_un (fun v => Instr.fieldAt 42 v 6) (.tmp 2) (pt k1 0) (pt k1 10) (fun _ => rfl) g2 (by kernel_rfl) rfl ?_
            refine wl_l 4 (.tmp 78) (pt k1 10) (.bool true) (run_one Q1 4 10 rfl Try.underlying4 rfl) ?_
            refine wl_un (fun v => Op.unary .not v) (.tmp 79) (.bool true) (.bool false) (fun _ => rfl) rfl (by kernel_rfl) rfl ?_
            refine wl_m (.tmp 80) (.bool false) ?_
            refine wl_un (fun v => Instr.fieldAt 42 v 8) (.tmp 3) (pt k2 0) (pt k2 17) (fun _ => rfl) g3 (by kernel_rfl) rfl ?_
            refine wl_l 40 (.tmp 82) (pt k2 17) (.agg #[.bool xb2, .int .u64 (l0 (xn2)), .int .u64 (l1 (xn2)), .int .u64 (l2 (xn2)), .int .u64 (l3 (xn2)), .int .i64 (xs2)]) (run_row Q2 40 17 6 [.bool xb2, .int .u64 (l0 (xn2)), .int .u64 (l1 (xn2)), .int .u64 (l2 (xn2)), .int .u64 (l3 (xn2)), .int .i64 (xs2)] rfl Try.underlying40 rfl sz26) ?_
            refine wl_un (fun v => Instr.fieldAt 42 v 8) (.tmp 2) (pt k1 0) (pt k1 17) (fun _ => rfl) g2 (by kernel_rfl) rfl ?_
            refine wl_l 40 (.tmp 84) (pt k1 17) (.agg #[.bool xb, .int .u64 (l0 (xn)), .int .u64 (l1 (xn)), .int .u64 (l2 (xn)), .int .u64 (l3 (xn)), .int .i64 (xs)]) (run_row Q1 40 17 6 [.bool xb, .int .u64 (l0 (xn)), .int .u64 (l1 (xn)), .int .u64 (l2 (xn)), .int .u64 (l3 (xn)), .int .i64 (xs)] rfl Try.underlying40 rfl sz26) ?_
            refine wl_call 52 [(.tmp 83), (.tmp 85)] _ [.agg #[.bool xb2, .int .u64 (l0 (xn2)), .int .u64 (l1 (xn2)), .int .u64 (l2 (xn2)), .int .u64 (l3 (xn2)), .int .i64 (xs2)], .agg #[.bool xb, .int .u64 (l0 (xn)), .int .u64 (l1 (xn)), .int .u64 (l2 (xn)), .int .u64 (l3 (xn)), .int .i64 (xs)]] (.int .i64 (cmpv ⟨xb2, xn2, xs2⟩ ⟨xb, xn, xs⟩)) rfl rfl (fun _ _ => by kernel_rfl) (rcmp_d ⟨xb2, xn2, xs2⟩ ⟨xb, xn, xs⟩ hx2 hx _) rfl ?_
            intro w54 hq
            replace Q1 := Q1.mo hq
            replace Q2 := Q2.mo hq
            replace Q3 := Q3.mo hq
            replace Q4 := Q4.mo hq
            replace M := M.trans hq
            clear hq
            refine wl_b .gtr 3 (.tmp 86) (.const (.int .i64 (0))) (.int .i64 (cmpv ⟨xb2, xn2, xs2⟩ ⟨xb, xn, xs⟩)) (.int .i64 (0)) (.bool true) (gtI hf21 _ _ _) ?_
            refine wl_pick (.tmp 81) (.const (.bool true)) (.tmp 87) false (.bool true) (fun _ => rfl) rfl rfl rfl ?_
            refine w_nil (xn_then (w_condT rfl (w_reg ?_)))
            refine wl_un (fun v => Instr.fieldAt 42 v 8) (.tmp 3) (pt k2 0) (pt k2 17) (fun _ => rfl) g3 (by kernel_rfl) rfl ?_
            refine wl_l 40 (.tmp 89) (pt k2 17) (.agg #[.bool xb2, .int .u64 (l0 (xn2)), .int .u64 (l1 (xn2)), .int .u64 (l2 (xn2)), .int .u64 (l3 (xn2)), .int .i64 (xs2)]) (run_row Q2 40 17 6 [.bool xb2, .int .u64 (l0 (xn2)), .int .u64 (l1 (xn2)), .int .u64 (l2 (xn2)), .int .u64 (l3 (xn2)), .int .i64 (xs2)] rfl Try.underlying40 rfl sz26) ?_
            refine wl_un (fun v => Instr.fieldAt 42 v 8) (.tmp 5) (pt k4 0) (pt k4 17) (fun _ => rfl) g5 (by kernel_rfl) rfl ?_
            refine wl_st 40 (.tmp 91) (.tmp 90) k4 17 #[.bool xb2, .int .u64 (l0 (xn2)), .int .u64 (l1 (xn2)), .int .u64 (l2 (xn2)), .int .u64 (l3 (xn2)), .int .i64 (xs2)] [.int .i64 (w64 (r + r2)), .int .i64 (w64 (f + f2)), .int .i64 (w64 (k + kb)), .int .i64 (w64 (d + d2)), .int .i64 (les er e2), .int .u64 (l0 (tt + tt2)), .int .u64 (l1 (tt + tt2)), .int .u64 (l2 (tt + tt2)), .int .u64 (l3 (tt + tt2)), .int .u64 (l4 (tt + tt2)), .bool true, .bool mb, .int .u64 (l0 (mn)), .int .u64 (l1 (mn)), .int .u64 (l2 (mn)), .int .u64 (l3 (mn)), .int .i64 (ms), .bool xb, .int .u64 (l0 (xn)), .int .u64 (l1 (xn)), .int .u64 (l2 (xn)), .int .u64 (l3 (xn)), .int .i64 (xs)] [.int .i64 (w64 (r + r2)), .int .i64 (w64 (f + f2)), .int .i64 (w64 (k + kb)), .int .i64 (w64 (d + d2)), .int .i64 (les er e2), .int .u64 (l0 (tt + tt2)), .int .u64 (l1 (tt + tt2)), .int .u64 (l2 (tt + tt2)), .int .u64 (l3 (tt + tt2)), .int .u64 (l4 (tt + tt2)), .bool true, .bool mb, .int .u64 (l0 (mn)), .int .u64 (l1 (mn)), .int .u64 (l2 (mn)), .int .u64 (l3 (mn)), .int .i64 (ms), .bool xb2, .int .u64 (l0 (xn2)), .int .u64 (l1 (xn2)), .int .u64 (l2 (xn2)), .int .u64 (l3 (xn2)), .int .i64 (xs2)] Q4 rfl rfl rfl rfl rfl sz26 rfl rfl rfl ?_
            intro w55 hS Qn
            replace Q4 := Qn
            clear Qn
            replace Q1 := hS.other _ _ ne_k1_k4 Q1
            replace Q2 := hS.other _ _ ne_k2_k4 Q2
            replace Q3 := hS.other _ _ ne_k3_k4 Q3
            replace M := hS.mo _ N_k4 M
            clear hS
            refine w_nil (xn_then (w_reg ?_))
            refine wl_un (fun v => Instr.fieldAt 42 v 6) (.tmp 5) (pt k4 0) (pt k4 10) (fun _ => rfl) g5 (by kernel_rfl) rfl ?_
            refine wl_st1 4 (.tmp 92) (.const (.bool true)) k4 10 (.bool true) [.int .i64 (w64 (r + r2)), .int .i64 (w64 (f + f2)), .int .i64 (w64 (k + kb)), .int .i64 (w64 (d + d2)), .int .i64 (les er e2), .int .u64 (l0 (tt + tt2)), .int .u64 (l1 (tt + tt2)), .int .u64 (l2 (tt + tt2)), .int .u64 (l3 (tt + tt2)), .int .u64 (l4 (tt + tt2)), .bool true, .bool mb, .int .u64 (l0 (mn)), .int .u64 (l1 (mn)), .int .u64 (l2 (mn)), .int .u64 (l3 (mn)), .int .i64 (ms), .bool xb2, .int .u64 (l0 (xn2)), .int .u64 (l1 (xn2)), .int .u64 (l2 (xn2)), .int .u64 (l3 (xn2)), .int .i64 (xs2)] [.int .i64 (w64 (r + r2)), .int .i64 (w64 (f + f2)), .int .i64 (w64 (k + kb)), .int .i64 (w64 (d + d2)), .int .i64 (les er e2), .int .u64 (l0 (tt + tt2)), .int .u64 (l1 (tt + tt2)), .int .u64 (l2 (tt + tt2)), .int .u64 (l3 (tt + tt2)), .int .u64 (l4 (tt + tt2)), .bool true, .bool mb, .int .u64 (l0 (mn)), .int .u64 (l1 (mn)), .int .u64 (l2 (mn)), .int .u64 (l3 (mn)), .int .i64 (ms), .bool xb2, .int .u64 (l0 (xn2)), .int .u64 (l1 (xn2)), .int .u64 (l2 (xn2)), .int .u64 (l3 (xn2)), .int .i64 (xs2)] Q4 rfl rfl rfl rfl rfl sz4 rfl rfl rfl rfl ?_
            intro w56 hS Qn
            replace Q4 := Qn
            clear Qn
            replace Q1 := hS.other _ _ ne_k1_k4 Q1
            replace Q2 := hS.other _ _ ne_k2_k4 Q2
            replace Q3 := hS.other _ _ ne_k3_k4 Q3
            replace M := hS.mo _ N_k4 M
            clear hS
            refine w_nil (xn_then (w_seq (w_reg ?_)))
            refine wl_load 42 (.tmp 5) (pt k4 0) (.agg #[.int .i64 (w64 (r + r2)), .int .i64 (w64 (f + f2)), .int .i64 (w64 (k + kb)), .int .i64 (w64 (d + d2)), .int .i64 (les er e2), .int .u64 (l0 (tt + tt2)), .int .u64 (l1 (tt + tt2)), .int .u64 (l2 (tt + tt2)), .int .u64 (l3 (tt + tt2)), .int .u64 (l4 (tt + tt2)), .bool true, .bool mb, .int .u64 (l0 (mn)), .int .u64 (l1 (mn)), .int .u64 (l2 (mn)), .int .u64 (l3 (mn)), .int .i64 (ms), .bool xb2, .int .u64 (l0 (xn2)), .int .u64 (l1 (xn2)), .int .u64 (l2 (xn2)), .int .u64 (l3 (xn2)), .int .i64 (xs2)]) rfl g5 (run_row Q4 42 0 23 [.int .i64 (w64 (r + r2)), .int .i64 (w64 (f + f2)), .int .i64 (w64 (k + kb)), .int .i64 (w64 (d + d2)), .int .i64 (les er e2), .int .u64 (l0 (tt + tt2)), .int .u64 (l1 (tt + tt2)), .int .u64 (l2 (tt + tt2)), .int .u64 (l3 (tt + tt2)), .int .u64 (l4 (tt + tt2)), .bool true, .bool mb, .int .u64 (l0 (mn)), .int .u64 (l1 (mn)), .int .u64 (l2 (mn)), .int .u64 (l3 (mn)), .int .i64 (ms), .bool xb2, .int .u64 (l0 (xn2)), .int .u64 (l1 (xn2)), .int .u64 (l2 (xn2)), .int .u64 (l3 (xn2)), .int .i64 (xs2)] rfl Try.underlying42 rfl sz33) rfl ?_
            refine wl_st 42 (.tmp 4) (.tmp 93) k3 0 #[.int .i64 (w64 (r + r2)), .int .i64 (w64 (f + f2)), .int .i64 (w64 (k + kb)), .int .i64 (w64 (d + d2)), .int .i64 (les er e2), .int .u64 (l0 (tt + tt2)), .int .u64 (l1 (tt + tt2)), .int .u64 (l2 (tt + tt2)), .int .u64 (l3 (tt + tt2)), .int .u64 (l4 (tt + tt2)), .bool true, .bool mb, .int .u64 (l0 (mn)), .int .u64 (l1 (mn)), .int .u64 (l2 (mn)), .int .u64 (l3 (mn)), .int .i64 (ms), .bool xb2, .int .u64 (l0 (xn2)), .int .u64 (l1 (xn2)), .int .u64 (l2 (xn2)), .int .u64 (l3 (xn2)), .int .i64 (xs2)] [.int .i64 0, .int .i64 0, .int .i64 0, .int .i64 0, .int .i64 0, .int .u64 0, .int .u64 0, .int .u64 0, .int .u64 0, .int .u64 0, .bool false, .bool false, .int .u64 0, .int .u64 0, .int .u64 0, .int .u64 0, .int .i64 0, .bool false, .int .u64 0, .int .u64 0, .int .u64 0, .int .u64 0, .int .i64 0] [.int .i64 (w64 (r + r2)), .int .i64 (w64 (f + f2)), .int .i64 (w64 (k + kb)), .int .i64 (w64 (d + d2)), .int .i64 (les er e2), .int .u64 (l0 (tt + tt2)), .int .u64 (l1 (tt + tt2)), .int .u64 (l2 (tt + tt2)), .int .u64 (l3 (tt + tt2)), .int .u64 (l4 (tt + tt2)), .bool true, .bool mb, .int .u64 (l0 (mn)), .int .u64 (l1 (mn)), .int .u64 (l2 (mn)), .int .u64 (l3 (mn)), .int .i64 (ms), .bool xb2, .int .u64 (l0 (xn2)), .int .u64 (l1 (xn2)), .int .u64 (l2 (xn2)), .int .u64 (l3 (xn2)), .int .i64 (xs2)] Q3 rfl rfl g4 rfl rfl sz33 rfl rfl rfl ?_
            intro w57 hS Qn
            replace Q3 := Qn
            clear Qn
            replace Q1 := hS.other _ _ ne_k1_k3 Q1
            replace Q2 := hS.other _ _ ne_k2_k3 Q2
            replace Q4 := hS.other _ _ ne_k3_k4.symm Q4
            replace M := hS.mo _ N_k3 M
            clear hS
            refine w_nil (xn_then (w_ret ?_))
            exact w_ret1 _ (.agg #[.int .i64 (w64 (r + r2)), .int .i64 (w64 (f + f2)), .int .i64 (w64 (k + kb)), .int .i64 (w64 (d + d2)), .int .i64 (les er e2), .int .u64 (l0 (tt + tt2)), .int .u64 (l1 (tt + tt2)), .int .u64 (l2 (tt + tt2)), .int .u64 (l3 (tt + tt2)), .int .u64 (l4 (tt + tt2)), .bool true, .bool mb, .int .u64 (l0 (mn)), .int .u64 (l1 (mn)), .int .u64 (l2 (mn)), .int .u64 (l3 (mn)), .int .i64 (ms), .bool xb2, .int .u64 (l0 (xn2)), .int .u64 (l1 (xn2)), .int .u64 (l2 (xn2)), .int .u64 (l3 (xn2)), .int .i64 (xs2)]) rfl ⟨k3, g4, (run_row Q3 42 0 23 [.int .i64 (w64 (r + r2)), .int .i64 (w64 (f + f2)), .int .i64 (w64 (k + kb)), .int .i64 (w64 (d + d2)), .int .i64 (les er e2), .int .u64 (l0 (tt + tt2)), .int .u64 (l1 (tt + tt2)), .int .u64 (l2 (tt + tt2)), .int .u64 (l3 (tt + tt2)), .int .u64 (l4 (tt + tt2)), .bool true, .bool mb, .int .u64 (l0 (mn)), .int .u64 (l1 (mn)), .int .u64 (l2 (mn)), .int .u64 (l3 (mn)), .int .i64 (ms), .bool xb2, .int .u64 (l0 (xn2)), .int .u64 (l1 (xn2)), .int .u64 (l2 (xn2)), .int .u64 (l3 (xn2)), .int .i64 (xs2)] rfl Try.underlying42 rfl sz33)⟩ ⟨by unfold jn str; simp only [if_true, if_neg hf20p, if_pos hf21p], M⟩
          | false =>
            have hf21p := of_decide_eq_false hf21
            refine w_reg ?_
            refine wl_un (fun v => Instr.fieldAt 42 v 6) (.tmp 2) (pt k1 0) (pt k1 10) (fun _ => rfl) g2 (by kernel_rfl) rfl ?_
            refine wl_l 4 (.tmp 78) (pt k1 10) (.bool true) (run_one Q1 4 10 rfl Try.underlying4 rfl) ?_
            refine wl_un (fun v => Op.unary .not v) (.tmp 79) (.bool true) (.bool false) (fun _ => rfl) rfl (by kernel_rfl) rfl ?_
            refine wl_m (.tmp 80) (.bool false) ?_
            refine wl_un (fun v => Instr.fieldAt 42 v 8) (.tmp 3) (pt k2 0) (pt k2 17) (fun _ => rfl) g3 (by kernel_rfl) rfl ?_
            refine wl_l 40 (.tmp 82) (pt k2 17) (.agg #[.bool xb2, .int .u64 (l0 (xn2)), .int .u64 (l1 (xn2)), .int .u64 (l2 (xn2)), .int .u64 (l3 (xn2)), .int .i64 (xs2)]) (run_row Q2 40 17 6 [.bool xb2, .int .u64 (l0 (xn2)), .int .u64 (l1 (xn2)), .int .u64 (l2 (xn2)), .int .u64 (l3 (xn2)), .int .i64 (xs2)] rfl Try.underlying40 rfl sz26) ?_
            refine wl_un (fun v => Instr.fieldAt 42 v 8) (.tmp 2) (pt k1 0) (pt k1 17) (fun _ => rfl) g2 (by kernel_rfl) rfl ?_
            refine wl_l 40 (.tmp 84) (pt k1 17) (.agg #[.bool xb, .int .u64 (l0 (xn)), .int .u64 (l1 (xn)), .int .u64 (l2 (xn)), .int .u64 (l3 (xn)), .int .i64 (xs)]) (run_row Q1 40 17 6 [.bool xb, .int .u64 (l0 (xn)), .int .u64 (l1 (xn)), .int .u64 (l2 (xn)), .int .u64 (l3 (xn)), .int .i64 (xs)] rfl Try.underlying40 rfl sz26) ?_
            refine wl_call 52 [(.tmp 83), (.tmp 85)] _ [.agg #[.bool xb2, .int .u64 (l0 (xn2)), .int .u64 (l1 (xn2)), .int .u64 (l2 (xn2)), .int .u64 (l3 (xn2)), .int .i64 (xs2)], .agg #[.bool xb, .int .u64 (l0 (xn)), .int .u64 (l1 (xn)), .int .u64 (l2 (xn)), .int .u64 (l3 (xn)), .int .i64 (xs)]] (.int .i64 (cmpv ⟨xb2, xn2, xs2⟩ ⟨xb, xn, xs⟩)) rfl rfl (fun _ _ => by kernel_rfl) (rcmp_d ⟨xb2, xn2, xs2⟩ ⟨xb, xn, xs⟩ hx2 hx _) rfl ?_
            intro w54 hq
            replace Q1 := Q1.mo hq
            replace Q2 := Q2.mo hq
            replace Q3 := Q3.mo hq
            replace Q4 := Q4.mo hq
            replace M := M.trans hq
            clear hq
            refine wl_b .gtr 3 (.tmp 86) (.const (.int .i64 (0))) (.int .i64 (cmpv ⟨xb2, xn2, xs2⟩ ⟨xb, xn, xs⟩)) (.int .i64 (0)) (.bool false) (gtI hf21 _ _ _) ?_
            refine wl_pick (.tmp 81) (.const (.bool true)) (.tmp 87) false (.bool false) (fun _ => rfl) rfl rfl rfl ?_
            refine w_nil (xn_then (w_condF rfl (w_skip (xn_then (w_reg ?_)))))
            refine wl_un (fun v => Instr.fieldAt 42 v 6) (.tmp 5) (pt k4 0) (pt k4 10) (fun _ => rfl) g5 (by kernel_rfl) rfl ?_
            refine wl_st1 4 (.tmp 92) (.const (.bool true)) k4 10 (.bool true) [.int .i64 (w64 (r + r2)), .int .i64 (w64 (f + f2)), .int .i64 (w64 (k + kb)), .int .i64 (w64 (d + d2)), .int .i64 (les er e2), .int .u64 (l0 (tt + tt2)), .int .u64 (l1 (tt + tt2)), .int .u64 (l2 (tt + tt2)), .int .u64 (l3 (tt + tt2)), .int .u64 (l4 (tt + tt2)), .bool true, .bool mb, .int .u64 (l0 (mn)), .int .u64 (l1 (mn)), .int .u64 (l2 (mn)), .int .u64 (l3 (mn)), .int .i64 (ms), .bool xb, .int .u64 (l0 (xn)), .int .u64 (l1 (xn)), .int .u64 (l2 (xn)), .int .u64 (l3 (xn)), .int .i64 (xs)] [.int .i64 (w64 (r + r2)), .int .i64 (w64 (f + f2)), .int .i64 (w64 (k + kb)), .int .i64 (w64 (d + d2)), .int .i64 (les er e2), .int .u64 (l0 (tt + tt2)), .int .u64 (l1 (tt + tt2)), .int .u64 (l2 (tt + tt2)), .int .u64 (l3 (tt + tt2)), .int .u64 (l4 (tt + tt2)), .bool true, .bool mb, .int .u64 (l0 (mn)), .int .u64 (l1 (mn)), .int .u64 (l2 (mn)), .int .u64 (l3 (mn)), .int .i64 (ms), .bool xb, .int .u64 (l0 (xn)), .int .u64 (l1 (xn)), .int .u64 (l2 (xn)), .int .u64 (l3 (xn)), .int .i64 (xs)] Q4 rfl rfl rfl rfl rfl sz4 rfl rfl rfl rfl ?_
            intro w55 hS Qn
            replace Q4 := Qn
            clear Qn
            replace Q1 := hS.other _ _ ne_k1_k4 Q1
            replace Q2 := hS.other _ _ ne_k2_k4 Q2
            replace Q3 := hS.other _ _ ne_k3_k4 Q3
            replace M := hS.mo _ N_k4 M
            clear hS
            refine w_nil (xn_then (w_seq (w_reg ?_)))
            refine wl_load 42 (.tmp 5) (pt k4 0) (.agg #[.int .i64 (w64 (r + r2)), .int .i64 (w64 (f + f2)), .int .i64 (w64 (k + kb)), .int .i64 (w64 (d + d2)), .int .i64 (les er e2), .int .u64 (l0 (tt + tt2)), .int .u64 (l1 (tt + tt2)), .int .u64 (l2 (tt + tt2)), .int .u64 (l3 (tt + tt2)), .int .u64 (l4 (tt + tt2)), .bool true, .bool mb, .int .u64 (l0 (mn)), .int .u64 (l1 (mn)), .int .u64 (l2 (mn)), .int .u64 (l3 (mn)), .int .i64 (ms), .bool xb, .int .u64 (l0 (xn)), .int .u64 (l1 (xn)), .int .u64 (l2 (xn)), .int .u64 (l3 (xn)), .int .i64 (xs)]) rfl g5 (run_row Q4 42 0 23 [.int .i64 (w64 (r + r2)), .int .i64 (w64 (f + f2)), .int .i64 (w64 (k + kb)), .int .i64 (w64 (d + d2)), .int .i64 (les er e2), .int .u64 (l0 (tt + tt2)), .int .u64 (l1 (tt + tt2)), .int .u64 (l2 (tt + tt2)), .int .u64 (l3 (tt + tt2)), .int .u64 (l4 (tt + tt2)), .bool true, .bool mb, .int .u64 (l0 (mn)), .int .u64 (l1 (mn)), .int .u64 (l2 (mn)), .int .u64 (l3 (mn)), .int .i64 (ms), .bool xb, .int .u64 (l0 (xn)), .int .u64 (l1 (xn)), .int .u64 (l2 (xn)), .int .u64 (l3 (xn)), .int .i64 (xs)] rfl Try.underlying42 rfl sz33) rfl ?_
            refine wl_st 42 (.tmp 4) (.tmp 93) k3 0 #[.int .i64 (w64 (r + r2)), .int .i64 (w64 (f + f2)), .int .i64 (w64 (k + kb)), .int .i64 (w64 (d + d2)), .int .i64 (les er e2), .int .u64 (l0 (tt + tt2)), .int .u64 (l1 (tt + tt2)), .int .u64 (l2 (tt + tt2)), .int .u64 (l3 (tt + tt2)), .int .u64 (l4 (tt + tt2)), .bool true, .bool mb, .int .u64 (l0 (mn)), .int .u64 (l1 (mn)), .int .u64 (l2 (mn)), .int .u64 (l3 (mn)), .int .i64 (ms), .bool xb, .int .u64 (l0 (xn)), .int .u64 (l1 (xn)), .int .u64 (l2 (xn)), .int .u64 (l3 (xn)), .int .i64 (xs)] [.int .i64 0, .int .i64 0, .int .i64 0, .int .i64 0, .int .i64 0, .int .u64 0, .int .u64 0, .int .u64 0, .int .u64 0, .int .u64 0, .bool false, .bool false, .int .u64 0, .int .u64 0, .int .u64 0, .int .u64 0, .int .i64 0, .bool false, .int .u64 0, .int .u64 0, .int .u64 0, .int .u64 0, .int .i64 0] [.int .i64 (w64 (r + r2)), .int .i64 (w64 (f + f2)), .int .i64 (w64 (k + kb)), .int .i64 (w64 (d + d2)), .int .i64 (les er e2), .int .u64 (l0 (tt + tt2)), .int .u64 (l1 (tt + tt2)), .int .u64 (l2 (tt + tt2)), .int .u64 (l3 (tt + tt2)), .int .u64 (l4 (tt + tt2)), .bool true, .bool mb, .int .u64 (l0 (mn)), .int .u64 (l1 (mn)), .int .u64 (l2 (mn)), .int .u64 (l3 (mn)), .int .i64 (ms), .bool xb, .int .u64 (l0 (xn)), .int .u64 (l1 (xn)), .int .u64 (l2 (xn)), .int .u64 (l3 (xn)), .int .i64 (xs)] Q3 rfl rfl g4 rfl rfl sz33 rfl rfl rfl ?_
            intro w56 hS Qn
            replace Q3 := Qn
            clear Qn
            replace Q1 := hS.other _ _ ne_k1_k3 Q1
            replace Q2 := hS.other _ _ ne_k2_k3 Q2
            replace Q4 := hS.other _ _ ne_k3_k4.symm Q4
            replace M := hS.mo _ N_k3 M
            clear hS
            refine w_nil (xn_then (w_ret ?_))
            exact w_ret1 _ (.agg #[.int .i64 (w64 (r + r2)), .int .i64 (w64 (f + f2)), .int .i64 (w64 (k + kb)), .int .i64 (w64 (d + d2)), .int .i64 (les er e2), .int .u64 (l0 (tt + tt2)), .int .u64 (l1 (tt + tt2)), .int .u64 (l2 (tt + tt2)), .int .u64 (l3 (tt + tt2)), .int .u64 (l4 (tt + tt2)), .bool true, .bool mb, .int .u64 (l0 (mn)), .int .u64 (l1 (mn)), .int .u64 (l2 (mn)), .int .u64 (l3 (mn)), .int .i64 (ms), .bool xb, .int .u64 (l0 (xn)), .int .u64 (l1 (xn)), .int .u64 (l2 (xn)), .int .u64 (l3 (xn)), .int .i64 (xs)]) rfl ⟨k3, g4, (run_row Q3 42 0 23 [.int .i64 (w64 (r + r2)), .int .i64 (w64 (f + f2)), .int .i64 (w64 (k + kb)), .int .i64 (w64 (d + d2)), .int .i64 (les er e2), .int .u64 (l0 (tt + tt2)), .int .u64 (l1 (tt + tt2)), .int .u64 (l2 (tt + tt2)), .int .u64 (l3 (tt + tt2)), .int .u64 (l4 (tt + tt2)), .bool true, .bool mb, .int .u64 (l0 (mn)), .int .u64 (l1 (mn)), .int .u64 (l2 (mn)), .int .u64 (l3 (mn)), .int .i64 (ms), .bool xb, .int .u64 (l0 (xn)), .int .u64 (l1 (xn)), .int .u64 (l2 (xn)), .int .u64 (l3 (xn)), .int .i64 (xs)] rfl Try.underlying42 rfl sz33)⟩ ⟨by unfold jn str; simp only [if_true, if_neg hf20p, if_neg hf21p], M⟩
      | false =>
        refine w_condF rfl (w_skip (xn_then (w_seq (w_reg ?_))))
        refine wl_load 42 (.tmp 5) (pt k4 0) (.agg #[.int .i64 (w64 (r + r2)), .int .i64 (w64 (f + f2)), .int .i64 (w64 (k + kb)), .int .i64 (w64 (d + d2)), .int .i64 (les er e2), .int .u64 (l0 (tt + tt2)), .int .u64 (l1 (tt + tt2)), .int .u64 (l2 (tt + tt2)), .int .u64 (l3 (tt + tt2)), .int .u64 (l4 (tt + tt2)), .bool true, .bool mb, .int .u64 (l0 (mn)), .int .u64 (l1 (mn)), .int .u64 (l2 (mn)), .int .u64 (l3 (mn)), .int .i64 (ms), .bool xb, .int .u64 (l0 (xn)), .int .u64 (l1 (xn)), .int .u64 (l2 (xn)), .int .u64 (l3 (xn)), .int .i64 (xs)]) rfl g5 (run_row Q4 42 0 23 [.int .i64 (w64 (r + r2)), .int .i64 (w64 (f + f2)), .int .i64 (w64 (k + kb)), .int .i64 (w64 (d + d2)), .int .i64 (les er e2), .int .u64 (l0 (tt + tt2)), .int .u64 (l1 (tt + tt2)), .int .u64 (l2 (tt + tt2)), .int .u64 (l3 (tt + tt2)), .int .u64 (l4 (tt + tt2)), .bool true, .bool mb, .int .u64 (l0 (mn)), .int .u64 (l1 (mn)), .int .u64 (l2 (mn)), .int .u64 (l3 (mn)), .int .i64 (ms), .bool xb, .int .u64 (l0 (xn)), .int .u64 (l1 (xn)), .int .u64 (l2 (xn)), .int .u64 (l3 (xn)), .int .i64 (xs)] rfl Try.underlying42 rfl sz33) rfl ?_
        refine wl_st 42 (.tmp 4) (.tmp 93) k3 0 #[.int .i64 (w64 (r + r2)), .int .i64 (w64 (f + f2)), .int .i64 (w64 (k + kb)), .int .i64 (w64 (d + d2)), .int .i64 (les er e2), .int .u64 (l0 (tt + tt2)), .int .u64 (l1 (tt + tt2)), .int .u64 (l2 (tt + tt2)), .int .u64 (l3 (tt + tt2)), .int .u64 (l4 (tt + tt2)), .bool true, .bool mb, .int .u64 (l0 (mn)), .int .u64 (l1 (mn)), .int .u64 (l2 (mn)), .int .u64 (l3 (mn)), .int .i64 (ms), .bool xb, .int .u64 (l0 (xn)), .int .u64 (l1 (xn)), .int .u64 (l2 (xn)), .int .u64 (l3 (xn)), .int .i64 (xs)] [.int .i64 0, .int .i64 0, .int .i64 0, .int .i64 0, .int .i64 0, .int .u64 0, .int .u64 0, .int .u64 0, .int .u64 0, .int .u64 0, .bool false, .bool false, .int .u64 0, .int .u64 0, .int .u64 0, .int .u64 0, .int .i64 0, .bool false, .int .u64 0, .int .u64 0, .int .u64 0, .int .u64 0, .int .i64 0] [.int .i64 (w64 (r + r2)), .int .i64 (w64 (f + f2)), .int .i64 (w64 (k + kb)), .int .i64 (w64 (d + d2)), .int .i64 (les er e2), .int .u64 (l0 (tt + tt2)), .int .u64 (l1 (tt + tt2)), .int .u64 (l2 (tt + tt2)), .int .u64 (l3 (tt + tt2)), .int .u64 (l4 (tt + tt2)), .bool true, .bool mb, .int .u64 (l0 (mn)), .int .u64 (l1 (mn)), .int .u64 (l2 (mn)), .int .u64 (l3 (mn)), .int .i64 (ms), .bool xb, .int .u64 (l0 (xn)), .int .u64 (l1 (xn)), .int .u64 (l2 (xn)), .int .u64 (l3 (xn)), .int .i64 (xs)] Q3 rfl rfl g4 rfl rfl sz33 rfl rfl rfl ?_
        intro w53 hS Qn
        replace Q3 := Qn
        clear Qn
        replace Q1 := hS.other _ _ ne_k1_k3 Q1
        replace Q2 := hS.other _ _ ne_k2_k3 Q2
        replace Q4 := hS.other _ _ ne_k3_k4.symm Q4
        replace M := hS.mo _ N_k3 M
        clear hS
        refine w_nil (xn_then (w_ret ?_))
        exact w_ret1 _ (.agg #[.int .i64 (w64 (r + r2)), .int .i64 (w64 (f + f2)), .int .i64 (w64 (k + kb)), .int .i64 (w64 (d + d2)), .int .i64 (les er e2), .int .u64 (l0 (tt + tt2)), .int .u64 (l1 (tt + tt2)), .int .u64 (l2 (tt + tt2)), .int .u64 (l3 (tt + tt2)), .int .u64 (l4 (tt + tt2)), .bool true, .bool mb, .int .u64 (l0 (mn)), .int .u64 (l1 (mn)), .int .u64 (l2 (mn)), .int .u64 (l3 (mn)), .int .i64 (ms), .bool xb, .int .u64 (l0 (xn)), .int .u64 (l1 (xn)), .int .u64 (l2 (xn)), .int .u64 (l3 (xn)), .int .i64 (xs)]) rfl ⟨k3, g4, (run_row Q3 42 0 23 [.int .i64 (w64 (r + r2)), .int .i64 (w64 (f + f2)), .int .i64 (w64 (k + kb)), .int .i64 (w64 (d + d2)), .int .i64 (les er e2), .int .u64 (l0 (tt + tt2)), .int .u64 (l1 (tt + tt2)), .int .u64 (l2 (tt + tt2)), .int .u64 (l3 (tt + tt2)), .int .u64 (l4 (tt + tt2)), .bool true, .bool mb, .int .u64 (l0 (mn)), .int .u64 (l1 (mn)), .int .u64 (l2 (mn)), .int .u64 (l3 (mn)), .int .i64 (ms), .bool xb, .int .u64 (l0 (xn)), .int .u64 (l1 (xn)), .int .u64 (l2 (xn)), .int .u64 (l3 (xn)), .int .i64 (xs)] rfl Try.underlying42 rfl sz33)⟩ ⟨rfl, M⟩
    | false =>
      refine w_reg ?_
      refine wl_un (fun v => Instr.fieldAt 42 v 6) (.tmp 2) (pt k1 0) (pt k1 10) (fun _ => rfl) g2 (by kernel_rfl) rfl ?_
      refine wl_l 4 (.tmp 55) (pt k1 10) (.bool false) (run_one Q1 4 10 rfl Try.underlying4 rfl) ?_
      refine wl_un (fun v => Op.unary .not v) (.tmp 56) (.bool false) (.bool true) (fun _ => rfl) rfl (by kernel_rfl) rfl ?_
      refine w_nil (xn_then (w_condT rfl (w_reg ?_)))
      refine wl_build 40 [] [] (.agg #[.bool false, .int .u64 0, .int .u64 0, .int .u64 0, .int .u64 0, .int .i64 0]) rfl rfl (by kernel_rfl) rfl ?_
      refine wl_build 40 [] [] (.agg #[.bool false, .int .u64 0, .int .u64 0, .int .u64 0, .int .u64 0, .int .i64 0]) rfl rfl (by kernel_rfl) rfl ?_
      refine wl_un (fun v => Instr.fieldAt 42 v 7) (.tmp 5) (pt k4 0) (pt k4 11) (fun _ => rfl) g5 (by kernel_rfl) rfl ?_
      refine wl_st 40 (.tmp 60) (.tmp 58) k4 11 #[.bool false, .int .u64 0, .int .u64 0, .int .u64 0, .int .u64 0, .int .i64 0] [.int .i64 (w64 (r + r2)), .int .i64 (w64 (f + f2)), .int .i64 (w64 (k + kb)), .int .i64 (w64 (d + d2)), .int .i64 (les er e2), .int .u64 (l0 (tt + tt2)), .int .u64 (l1 (tt + tt2)), .int .u64 (l2 (tt + tt2)), .int .u64 (l3 (tt + tt2)), .int .u64 (l4 (tt + tt2)), .bool false, .bool mb, .int .u64 (l0 (mn)), .int .u64 (l1 (mn)), .int .u64 (l2 (mn)), .int .u64 (l3 (mn)), .int .i64 (ms), .bool xb, .int .u64 (l0 (xn)), .int .u64 (l1 (xn)), .int .u64 (l2 (xn)), .int .u64 (l3 (xn)), .int .i64 (xs)] [.int .i64 (w64 (r + r2)), .int .i64 (w64 (f + f2)), .int .i64 (w64 (k + kb)), .int .i64 (w64 (d + d2)), .int .i64 (les er e2), .int .u64 (l0 (tt + tt2)), .int .u64 (l1 (tt + tt2)), .int .u64 (l2 (tt + tt2)), .int .u64 (l3 (tt + tt2)), .int .u64 (l4 (tt + tt2)), .bool false, .bool false, .int .u64 0, .int .u64 0, .int .u64 0, .int .u64 0, .int .i64 0, .bool xb, .int .u64 (l0 (xn)), .int .u64 (l1 (xn)), .int .u64 (l2 (xn)), .int .u64 (l3 (xn)), .int .i64 (xs)] Q4 rfl rfl rfl rfl rfl sz26 rfl rfl rfl ?_
      intro w53 hS Qn
      replace Q4 := Qn
      clear Qn
      replace Q1 := hS.other _ _ ne_k1_k4 Q1
      replace Q2 := hS.other _ _ ne_k2_k4 Q2
      replace Q3 := hS.other _ _ ne_k3_k4 Q3
      replace M := hS.mo _ N_k4 M
      clear hS
      refine wl_un (fun v => Instr.fieldAt 42 v 8) (.tmp 5) (pt k4 0) (pt k4 17) (fun _ => rfl) g5 (by kernel_rfl) rfl ?_
      refine wl_st 40 (.tmp 61) (.tmp 59) k4 17 #[.bool false, .int .u64 0, .int .u64 0, .int .u64 0, .int .u64 0, .int .i64 0] [.int .i64 (w64 (r + r2)), .int .i64 (w64 (f + f2)), .int .i64 (w64 (k + kb)), .int .i64 (w64 (d + d2)), .int .i64 (les er e2), .int .u64 (l0 (tt + tt2)), .int .u64 (l1 (tt + tt2)), .int .u64 (l2 (tt + tt2)), .int .u64 (l3 (tt + tt2)), .int .u64 (l4 (tt + tt2)), .bool false, .bool false, .int .u64 0, .int .u64 0, .int .u64 0, .int .u64 0, .int .i64 0, .bool xb, .int .u64 (l0 (xn)), .int .u64 (l1 (xn)), .int .u64 (l2 (xn)), .int .u64 (l3 (xn)), .int .i64 (xs)] [.int .i64 (w64 (r + r2)), .int .i64 (w64 (f + f2)), .int .i64 (w64 (k + kb)), .int .i64 (w64 (d + d2)), .int .i64 (les er e2), .int .u64 (l0 (tt + tt2)), .int .u64 (l1 (tt + tt2)), .int .u64 (l2 (tt + tt2)), .int .u64 (l3 (tt + tt2)), .int .u64 (l4 (tt + tt2)), .bool false, .bool false, .int .u64 0, .int .u64 0, .int .u64 0, .int .u64 0, .int .i64 0, .bool false, .int .u64 0, .int .u64 0, .int .u64 0, .int .u64 0, .int .i64 0] Q4 rfl rfl rfl rfl rfl sz26 rfl rfl rfl ?_
      intro w54 hS Qn
      replace Q4 := Qn
      clear Qn
      replace Q1 := hS.other _ _ ne_k1_k4 Q1
      replace Q2 := hS.other _ _ ne_k2_k4 Q2
      replace Q3 := hS.other _ _ ne_k3_k4 Q3
      replace M := hS.mo _ N_k4 M
      clear hS
      refine w_nil (xn_then (w_seq (w_seq (w_reg ?_))))
      refine wl_un (fun v => Instr.fieldAt 42 v 6) (.tmp 3) (pt k2 0) (pt k2 10) (fun _ => rfl) g3 (by kernel_rfl) rfl ?_
      refine wl_l 4 (.tmp 62) (pt k2 10) (.bool so2) (run_one Q2 4 10 rfl Try.underlying4 rfl) ?_
      refine w_nil (xn_then ?_)
      cases so2 with
      | true =>
        refine w_condT rfl (w_seq (w_seq (w_reg ?_)))
        refine wl_un (fun v => Instr.fieldAt 42 v 6) (.tmp 2) (pt k1 0) (pt k1 10) (fun _ => rfl) g2 (by kernel_rfl) rfl ?_
        refine wl_l 4 (.tmp 64) (pt k1 10) (.bool false) (run_one Q1 4 10 rfl Try.underlying4 rfl) ?_
        refine wl_un (fun v => Op.unary .not v) (.tmp 65) (.bool false) (.bool true) (fun _ => rfl) rfl (by kernel_rfl) rfl ?_
        refine wl_m (.tmp 66) (.bool true) ?_
        refine wl_skip rfl (wl_skip rfl (wl_skip rfl (wl_skip rfl (wl_skip rfl (wl_skip rfl ?_)))))
        refine wl_pick (.tmp 67) (.const (.bool true)) (.tmp 73) true (.bool true) (fun _ => rfl) rfl rfl rfl ?_
        refine w_nil (xn_then (w_condT rfl (w_reg ?_)))
        refine wl_un (fun v => Instr.fieldAt 42 v 7) (.tmp 3) (pt k2 0) (pt k2 11) (fun _ => rfl) g3 (by kernel_rfl) rfl ?_
        refine wl_l 40 (.tmp 75) (pt k2 11) (.agg #[.bool mb2, .int .u64 (l0 (mn2)), .int .u64 (l1 (mn2)), .int .u64 (l2 (mn2)), .int .u64 (l3 (mn2)), .int .i64 (ms2)]) (run_row Q2 40 11 6 [.bool mb2, .int .u64 (l0 (mn2)), .int .u64 (l1 (mn2)), .int .u64 (l2 (mn2)), .int .u64 (l3 (mn2)), .int .i64 (ms2)] rfl Try.underlying40 rfl sz26) ?_
        refine wl_un (fun v => Instr.fieldAt 42 v 7) (.tmp 5) (pt k4 0) (pt k4 11) (fun _ => rfl) g5 (by kernel_rfl) rfl ?_
        refine wl_st 40 (.tmp 77) (.tmp 76) k4 11 #[.bool mb2, .int .u64 (l0 (mn2)), .int .u64 (l1 (mn2)), .int .u64 (l2 (mn2)), .int .u64 (l3 (mn2)), .int .i64 (ms2)] [.int .i64 (w64 (r + r2)), .int .i64 (w64 (f + f2)), .int .i64 (w64 (k + kb)), .int .i64 (w64 (d + d2)), .int .i64 (les er e2), .int .u64 (l0 (tt + tt2)), .int .u64 (l1 (tt + tt2)), .int .u64 (l2 (tt + tt2)), .int .u64 (l3 (tt + tt2)), .int .u64 (l4 (tt + tt2)), .bool false, .bool false, .int .u64 0, .int .u64 0, .int .u64 0, .int .u64 0, .int .i64 0, .bool false, .int .u64 0, .int .u64 0, .int .u64 0, .int .u64 0, .int .i64 0] [.int .i64 (w64 (r + r2)), .int .i64 (w64 (f + f2)), .int .i64 (w64 (k + kb)), .int .i64 (w64 (d + d2)), .int .i64 (les er e2), .int .u64 (l0 (tt + tt2)), .int .u64 (l1 (tt + tt2)), .int .u64 (l2 (tt + tt2)), .int .u64 (l3 (tt + tt2)), .int .u64 (l4 (tt + tt2)), .bool false, .bool mb2, .int .u64 (l0 (mn2)), .int .u64 (l1 (mn2)), .int .u64 (l2 (mn2)), .int .u64 (l3 (mn2)), .int .i64 (ms2), .bool false, .int .u64 0, .int .u64 0, .int .u64 0, .int .u64 0, .int .i64 0] Q4 rfl rfl rfl rfl rfl sz26 rfl rfl rfl ?_
        intro w55 hS Qn
        replace Q4 := Qn
        clear Qn
        replace Q1 := hS.other _ _ ne_k1_k4 Q1
        replace Q2 := hS.other _ _ ne_k2_k4 Q2
        replace Q3 := hS.other _ _ ne_k3_k4 Q3
        replace M := hS.mo _ N_k4 M
        clear hS
        refine w_nil (xn_then (w_seq (w_seq (w_reg ?_))))
        refine wl_un (fun v => Instr.fieldAt 42 v 6) (.tmp 2) (pt k1 0) (pt k1 10) (fun _ => rfl) g2 (by kernel_rfl) rfl ?_
        refine wl_l 4 (.tmp 78) (pt k1 10) (.bool false) (run_one Q1 4 10 rfl Try.underlying4 rfl) ?_
        refine wl_un (fun v => Op.unary .not v) (.tmp 79) (.bool false) (.bool true) (fun _ => rfl) rfl (by kernel_rfl) rfl ?_
        refine wl_m (.tmp 80) (.bool true) ?_
        refine wl_skip rfl (wl_skip rfl (wl_skip rfl (wl_skip rfl (wl_skip rfl (wl_skip rfl ?_)))))
        refine wl_pick (.tmp 81) (.const (.bool true)) (.tmp 87) true (.bool true) (fun _ => rfl) rfl rfl rfl ?_
        refine w_nil (xn_then (w_condT rfl (w_reg ?_)))
        refine wl_un (fun v => Instr.fieldAt 42 v 8) (.tmp 3) (pt k2 0) (pt k2 17) (fun _ => rfl) g3 (by kernel_rfl) rfl ?_
        refine wl_l 40 (.tmp 89) (pt k2 17) (.agg #[.bool xb2, .int .u64 (l0 (xn2)), .int .u64 (l1 (xn2)), .int .u64 (l2 (xn2)), .int .u64 (l3 (xn2)), .int .i64 (xs2)]) (run_row Q2 40 17 6 [.bool xb2, .int .u64 (l0 (xn2)), .int .u64 (l1 (xn2)), .int .u64 (l2 (xn2)), .int .u64 (l3 (xn2)), .int .i64 (xs2)] rfl Try.underlying40 rfl sz26) ?_
        refine wl_un (fun v => Instr.fieldAt 42 v 8) (.tmp 5) (pt k4 0) (pt k4 17) (fun _ => rfl) g5 (by kernel_rfl) rfl ?_
        refine wl_st 40 (.tmp 91) (.tmp 90) k4 17 #[.bool xb2, .int .u64 (l0 (xn2)), .int .u64 (l1 (xn2)), .int .u64 (l2 (xn2)), .int .u64 (l3 (xn2)), .int .i64 (xs2)] [.int .i64 (w64 (r + r2)), .int .i64 (w64 (f + f2)), .int .i64 (w64 (k + kb)), .int .i64 (w64 (d + d2)), .int .i64 (les er e2), .int .u64 (l0 (tt + tt2)), .int .u64 (l1 (tt + tt2)), .int .u64 (l2 (tt + tt2)), .int .u64 (l3 (tt + tt2)), .int .u64 (l4 (tt + tt2)), .bool false, .bool mb2, .int .u64 (l0 (mn2)), .int .u64 (l1 (mn2)), .int .u64 (l2 (mn2)), .int .u64 (l3 (mn2)), .int .i64 (ms2), .bool false, .int .u64 0, .int .u64 0, .int .u64 0, .int .u64 0, .int .i64 0] [.int .i64 (w64 (r + r2)), .int .i64 (w64 (f + f2)), .int .i64 (w64 (k + kb)), .int .i64 (w64 (d + d2)), .int .i64 (les er e2), .int .u64 (l0 (tt + tt2)), .int .u64 (l1 (tt + tt2)), .int .u64 (l2 (tt + tt2)), .int .u64 (l3 (tt + tt2)), .int .u64 (l4 (tt + tt2)), .bool false, .bool mb2, .int .u64 (l0 (mn2)), .int .u64 (l1 (mn2)), .int .u64 (l2 (mn2)), .int .u64 (l3 (mn2)), .int .i64 (ms2), .bool xb2, .int .u64 (l0 (xn2)), .int .u64 (l1 (xn2)), .int .u64 (l2 (xn2)), .int .u64 (l3 (xn2)), .int .i64 (xs2)] Q4 rfl rfl rfl rfl rfl sz26 rfl rfl rfl ?_
        intro w56 hS Qn
        replace Q4 := Qn
        clear Qn
        replace Q1 := hS.other _ _ ne_k1_k4 Q1
        replace Q2 := hS.other _ _ ne_k2_k4 Q2
        replace Q3 := hS.other _ _ ne_k3_k4 Q3
        replace M := hS.mo _ N_k4 M
        clear hS
        refine w_nil (xn_then (w_reg ?_))
        refine wl_un (fun v => Instr.fieldAt 42 v 6) (.tmp 5) (pt k4 0) (pt k4 10) (fun _ => rfl) g5 (by kernel_rfl) rfl ?_
        refine wl_st1 4 (.tmp 92) (.const (.bool true)) k4 10 (.bool true) [.int .i64 (w64 (r + r2)), .int .i64 (w64 (f + f2)), .int .i64 (w64 (k + kb)), .int .i64 (w64 (d + d2)), .int .i64 (les er e2), .int .u64 (l0 (tt + tt2)), .int .u64 (l1 (tt + tt2)), .int .u64 (l2 (tt + tt2)), .int .u64 (l3 (tt + tt2)), .int .u64 (l4 (tt + tt2)), .bool false, .bool mb2, .int .u64 (l0 (mn2)), .int .u64 (l1 (mn2)), .int .u64 (l2 (mn2)), .int .u64 (l3 (mn2)), .int .i64 (ms2), .bool xb2, .int .u64 (l0 (xn2)), .int .u64 (l1 (xn2)), .int .u64 (l2 (xn2)), .int .u64 (l3 (xn2)), .int .i64 (xs2)] [.int .i64 (w64 (r + r2)), .int .i64 (w64 (f + f2)), .int .i64 (w64 (k + kb)), .int .i64 (w64 (d + d2)), .int .i64 (les er e2), .int .u64 (l0 (tt + tt2)), .int .u64 (l1 (tt + tt2)), .int .u64 (l2 (tt + tt2)), .int .u64 (l3 (tt + tt2)), .int .u64 (l4 (tt + tt2)), .bool true, .bool mb2, .int .u64 (l0 (mn2)), .int .u64 (l1 (mn2)), .int .u64 (l2 (mn2)), .int .u64 (l3 (mn2)), .int .i64 (ms2), .bool xb2, .int .u64 (l0 (xn2)), .int .u64 (l1 (xn2)), .int .u64 (l2 (xn2)), .int .u64 (l3 (xn2)), .int .i64 (xs2)] Q4 rfl rfl rfl rfl rfl sz4 rfl rfl rfl rfl ?_
        intro w57 hS Qn
        replace Q4 := Qn
        clear Qn
        replace Q1 := hS.other _ _ ne_k1_k4 Q1
        replace Q2 := hS.other _ _ ne_k2_k4 Q2
        replace Q3 := hS.other _ _ ne_k3_k4 Q3
        replace M := hS.mo _ N_k4 M
        clear hS
        refine w_nil (xn_then (w_seq (w_reg ?_)))
        refine wl_load 42 (.tmp 5) (pt k4 0) (.agg #[.int .i64 (w64 (r + r2)), .int .i64 (w64 (f + f2)), .int .i64 (w64 (k + kb)), .int .i64 (w64 (d + d2)), .int .i64 (les er e2), .int .u64 (l0 (tt + tt2)), .int .u64 (l1 (tt + tt2)), .int .u64 (l2 (tt + tt2)), .int .u64 (l3 (tt + tt2)), .int .u64 (l4 (tt + tt2)), .bool true, .bool mb2, .int .u64 (l0 (mn2)), .int .u64 (l1 (mn2)), .int .u64 (l2 (mn2)), .int .u64 (l3 (mn2)), .int .i64 (ms2), .bool xb2, .int .u64 (l0 (xn2)), .int .u64 (l1 (xn2)), .int .u64 (l2 (xn2)), .int .u64 (l3 (xn2)), .int .i64 (xs2)]) rfl g5 (run_row Q4 42 0 23 [.int .i64 (w64 (r + r2)), .int .i64 (w64 (f + f2)), .int .i64 (w64 (k + kb)), .int .i64 (w64 (d + d2)), .int .i64 (les er e2), .int .u64 (l0 (tt + tt2)), .int .u64 (l1 (tt + tt2)), .int .u64 (l2 (tt + tt2)), .int .u64 (l3 (tt + tt2)), .int .u64 (l4 (tt + tt2)), .bool true, .bool mb2, .int .u64 (l0 (mn2)), .int .u64 (l1 (mn2)), .int .u64 (l2 (mn2)), .int .u64 (l3 (mn2)), .int .i64 (ms2), .bool xb2, .int .u64 (l0 (xn2)), .int .u64 (l1 (xn2)), .int .u64 (l2 (xn2)), .int .u64 (l3 (xn2)), .int .i64 (xs2)] rfl Try.underlying42 rfl sz33) rfl ?_
        refine wl_st 42 (.tmp 4) (.tmp 93) k3 0 #[.int .i64 (w64 (r + r2)), .int .i64 (w64 (f + f2)), .int .i64 (w64 (k + kb)), .int .i64 (w64 (d + d2)), .int .i64 (les er e2), .int .u64 (l0 (tt + tt2)), .int .u64 (l1 (tt + tt2)), .int .u64 (l2 (tt + tt2)), .int .u64 (l3 (tt + tt2)), .int .u64 (l4 (tt + tt2)), .bool true, .bool mb2, .int .u64 (l0 (mn2)), .int .u64 (l1 (mn2)), .int .u64 (l2 (mn2)), .int .u64 (l3 (mn2)), .int .i64 (ms2), .bool xb2, .int .u64 (l0 (xn2)), .int .u64 (l1 (xn2)), .int .u64 (l2 (xn2)), .int .u64 (l3 (xn2)), .int .i64 (xs2)] [.int .i64 0, .int .i64 0, .int .i64 0, .int .i64 0, .int .i64 0, .int .u64 0, .int .u64 0, .int .u64 0, .int .u64 0, .int .u64 0, .bool false, .bool false, .int .u64 0, .int .u64 0, .int .u64 0, .int .u64 0, .int .i64 0, .bool false, .int .u64 0, .int .u64 0, .int .u64 0, .int .u64 0, .int .i64 0] [.int .i64 (w64 (r + r2)), .int .i64 (w64 (f + f2)), .int .i64 (w64 (k + kb)), .int .i64 (w64 (d + d2)), .int .i64 (les er e2), .int .u64 (l0 (tt + tt2)), .int .u64 (l1 (tt + tt2)), .int .u64 (l2 (tt + tt2)), .int .u64 (l3 (tt + tt2)), .int .u64 (l4 (tt + tt2)), .bool true, .bool mb2, .int .u64 (l0 (mn2)), .int .u64 (l1 (mn2)), .int .u64 (l2 (mn2)), .int .u64 (l3 (mn2)), .int .i64 (ms2), .bool xb2, .int .u64 (l0 (xn2)), .int .u64 (l1 (xn2)), .int .u64 (l2 (xn2)), .int .u64 (l3 (xn2)), .int .i64 (xs2)] Q3 rfl rfl g4 rfl rfl sz33 rfl rfl rfl ?_
        intro w58 hS Qn
        replace Q3 := Qn
        clear Qn
        replace Q1 := hS.other _ _ ne_k1_k3 Q1
        replace Q2 := hS.other _ _ ne_k2_k3 Q2
        replace Q4 := hS.other _ _ ne_k3_k4.symm Q4
        replace M := hS.mo _ N_k3 M
        clear hS
        refine w_nil (xn_then (w_ret ?_))
        exact w_ret1 _ (.agg #[.int .i64 (w64 (r + r2)), .int .i64 (w64 (f + f2)), .int .i64 (w64 (k + kb)), .int .i64 (w64 (d + d2)), .int .i64 (les er e2), .int .u64 (l0 (tt + tt2)), .int .u64 (l1 (tt + tt2)), .int .u64 (l2 (tt + tt2)), .int .u64 (l3 (tt + tt2)), .int .u64 (l4 (tt + tt2)), .bool true, .bool mb2, .int .u64 (l0 (mn2)), .int .u64 (l1 (mn2)), .int .u64 (l2 (mn2)), .int .u64 (l3 (mn2)), .int .i64 (ms2), .bool xb2, .int .u64 (l0 (xn2)), .int .u64 (l1 (xn2)), .int .u64 (l2 (xn2)), .int .u64 (l3 (xn2)), .int .i64 (xs2)]) rfl ⟨k3, g4, (run_row Q3 42 0 23 [.int .i64 (w64 (r + r2)), .int .i64 (w64 (f + f2)), .int .i64 (w64 (k + kb)), .int .i64 (w64 (d + d2)), .int .i64 (les er e2), .int .u64 (l0 (tt + tt2)), .int .u64 (l1 (tt + tt2)), .int .u64 (l2 (tt + tt2)), .int .u64 (l3 (tt + tt2)), .int .u64 (l4 (tt + tt2)), .bool true, .bool mb2, .int .u64 (l0 (mn2)), .int .u64 (l1 (mn2)), .int .u64 (l2 (mn2)), .int .u64 (l3 (mn2)), .int .i64 (ms2), .bool xb2, .int .u64 (l0 (xn2)), .int .u64 (l1 (xn2)), .int .u64 (l2 (xn2)), .int .u64 (l3 (xn2)), .int .i64 (xs2)] rfl Try.underlying42 rfl sz33)⟩ ⟨rfl, M⟩
      | false =>
        refine w_condF rfl (w_skip (xn_then (w_seq (w_reg ?_))))
        refine wl_load 42 (.tmp 5) (pt k4 0) (.agg #[.int .i64 (w64 (r + r2)), .int .i64 (w64 (f + f2)), .int .i64 (w64 (k + kb)), .int .i64 (w64 (d + d2)), .int .i64 (les er e2), .int .u64 (l0 (tt + tt2)), .int .u64 (l1 (tt + tt2)), .int .u64 (l2 (tt + tt2)), .int .u64 (l3 (tt + tt2)), .int .u64 (l4 (tt + tt2)), .bool false, .bool false, .int .u64 0, .int .u64 0, .int .u64 0, .int .u64 0, .int .i64 0, .bool false, .int .u64 0, .int .u64 0, .int .u64 0, .int .u64 0, .int .i64 0]) rfl g5 (run_row Q4 42 0 23 [.int .i64 (w64 (r + r2)), .int .i64 (w64 (f + f2)), .int .i64 (w64 (k + kb)), .int .i64 (w64 (d + d2)), .int .i64 (les er e2), .int .u64 (l0 (tt + tt2)), .int .u64 (l1 (tt + tt2)), .int .u64 (l2 (tt + tt2)), .int .u64 (l3 (tt + tt2)), .int .u64 (l4 (tt + tt2)), .bool false, .bool false, .int .u64 0, .int .u64 0, .int .u64 0, .int .u64 0, .int .i64 0, .bool false, .int .u64 0, .int .u64 0, .int .u64 0, .int .u64 0, .int .i64 0] rfl Try.underlying42 rfl sz33) rfl ?_
        refine wl_st 42 (.tmp 4) (.tmp 93) k3 0 #[.int .i64 (w64 (r + r2)), .int .i64 (w64 (f + f2)), .int .i64 (w64 (k + kb)), .int .i64 (w64 (d + d2)), .int .i64 (les er e2), .int .u64 (l0 (tt + tt2)), .int .u64 (l1 (tt + tt2)), .int .u64 (l2 (tt + tt2)), .int .u64 (l3 (tt + tt2)), .int .u64 (l4 (tt + tt2)), .bool false, .bool false, .int .u64 0, .int .u64 0, .int .u64 0, .int .u64 0, .int .i64 0, .bool false, .int .u64 0, .int .u64 0, .int .u64 0, .int .u64 0, .int .i64 0] [.int .i64 0, .int .i64 0, .int .i64 0, .int .i64 0, .int .i64 0, .int .u64 0, .int .u64 0, .int .u64 0, .int .u64 0, .int .u64 0, .bool false, .bool false, .int .u64 0, .int .u64 0, .int .u64 0, .int .u64 0, .int .i64 0, .bool false, .int .u64 0, .int .u64 0, .int .u64 0, .int .u64 0, .int .i64 0] [.int .i64 (w64 (r + r2)), .int .i64 (w64 (f + f2)), .int .i64 (w64 (k + kb)), .int .i64 (w64 (d + d2)), .int .i64 (les er e2), .int .u64 (l0 (tt + tt2)), .int .u64 (l1 (tt + tt2)), .int .u64 (l2 (tt + tt2)), .int .u64 (l3 (tt + tt2)), .int .u64 (l4 (tt + tt2)), .bool false, .bool false, .int .u64 0, .int .u64 0, .int .u64 0, .int .u64 0, .int .i64 0, .bool false, .int .u64 0, .int .u64 0, .int .u64 0, .int .u64 0, .int .i64 0] Q3 rfl rfl g4 rfl rfl sz33 rfl rfl rfl ?_
        intro w55 hS Qn
        replace Q3 := Qn
        clear Qn
        replace Q1 := hS.other _ _ ne_k1_k3 Q1
        replace Q2 := hS.other _ _ ne_k2_k3 Q2
        replace Q4 := hS.other _ _ ne_k3_k4.symm Q4
        replace M := hS.mo _ N_k3 M
        clear hS
        refine w_nil (xn_then (w_ret ?_))
        exact w_ret1 _ (.agg #[.int .i64 (w64 (r + r2)), .int .i64 (w64 (f + f2)), .int .i64 (w64 (k + kb)), .int .i64 (w64 (d + d2)), .int .i64 (les er e2), .int .u64 (l0 (tt + tt2)), .int .u64 (l1 (tt + tt2)), .int .u64 (l2 (tt + tt2)), .int .u64 (l3 (tt + tt2)), .int .u64 (l4 (tt + tt2)), .bool false, .bool false, .int .u64 0, .int .u64 0, .int .u64 0, .int .u64 0, .int .i64 0, .bool false, .int .u64 0, .int .u64 0, .int .u64 0, .int .u64 0, .int .i64 0]) rfl ⟨k3, g4, (run_row Q3 42 0 23 [.int .i64 (w64 (r + r2)), .int .i64 (w64 (f + f2)), .int .i64 (w64 (k + kb)), .int .i64 (w64 (d + d2)), .int .i64 (les er e2), .int .u64 (l0 (tt + tt2)), .int .u64 (l1 (tt + tt2)), .int .u64 (l2 (tt + tt2)), .int .u64 (l3 (tt + tt2)), .int .u64 (l4 (tt + tt2)), .bool false, .bool false, .int .u64 0, .int .u64 0, .int .u64 0, .int .u64 0, .int .i64 0, .bool false, .int .u64 0, .int .u64 0, .int .u64 0, .int .u64 0, .int .i64 0] rfl Try.underlying42 rfl sz33)⟩ ⟨by obtain ⟨z1, z2⟩ := hz rfl; cases z1; cases z2; rfl, M⟩
  · skip
    refine w_seq ?_
    cases hf0 : decide (e2 = 0) with
    | true =>
      have hf0p := of_decide_eq_true hf0
      refine w_reg ?_
      refine wl_f 42 4 (.tmp 3) (pt k2 0) (pt k2 4) ?_
      refine wl_l 3 (.tmp 31) (pt k2 4) (.int .i64 (e2)) (run_one Q2 3 4 rfl Try.underlying3 rfl) ?_
      refine wl_b .neq 3 (.tmp 32) (.const (.int .i64 (0))) (.int .i64 (e2)) (.int .i64 (0)) (.bool false) (neI hf0 _ _ _) ?_
      refine wl_m (.tmp 33) (.bool false) ?_
      refine wl_skip rfl (wl_skip rfl (wl_skip rfl (wl_skip rfl (wl_skip rfl (wl_skip rfl (wl_skip rfl (wl_skip rfl (wl_skip rfl (wl_skip rfl ?_)))))))))
      refine wl_pick (.tmp 34) (.tmp 44) (.const (.bool false)) false (.bool false) (fun _ => rfl) rfl rfl rfl ?_
      refine w_nil (xn_then (w_condF rfl (w_skip ?_)))
      exact xn_cut ⟨rfl, rfl, rfl, rfl, Q1, Q2, Q3, by rw [les_A hf0p]; exact Q4, M⟩
    | false =>
      have hf0p := of_decide_eq_false hf0
      cases hf1 : decide (er = 0) with
      | true =>
        have hf1p := of_decide_eq_true hf1
        refine w_reg ?_
        refine wl_f 42 4 (.tmp 3) (pt k2 0) (pt k2 4) ?_
        refine wl_l 3 (.tmp 31) (pt k2 4) (.int .i64 (e2)) (run_one Q2 3 4 rfl Try.underlying3 rfl) ?_
        refine wl_b .neq 3 (.tmp 32) (.const (.int .i64 (0))) (.int .i64 (e2)) (.int .i64 (0)) (.bool true) (neI hf0 _ _ _) ?_
        refine wl_m (.tmp 33) (.bool true) ?_
        refine wl_f 42 4 (.tmp 2) (pt k1 0) (pt k1 4) ?_
        refine wl_l 3 (.tmp 35) (pt k1 4) (.int .i64 (er)) (run_one Q1 3 4 rfl Try.underlying3 rfl) ?_
        refine wl_b .eql 3 (.tmp 36) (.const (.int .i64 (0))) (.int .i64 (er)) (.int .i64 (0)) (.bool true) (eqI hf1 _ _ _) ?_
        refine wl_m (.tmp 37) (.bool true) ?_
        refine wl_skip rfl (wl_skip rfl (wl_skip rfl (wl_skip rfl (wl_skip rfl ?_))))
        refine wl_pick (.tmp 38) (.const (.bool true)) (.tmp 43) true (.bool true) (fun _ => rfl) rfl rfl rfl ?_
        refine wl_pick (.tmp 34) (.tmp 44) (.const (.bool false)) true (.bool true) (fun _ => rfl) rfl rfl rfl ?_
        refine w_nil (xn_then (w_condT rfl (w_reg ?_)))
        refine wl_f 42 4 (.tmp 3) (pt k2 0) (pt k2 4) ?_
        refine wl_l 3 (.tmp 46) (pt k2 4) (.int .i64 (e2)) (run_one Q2 3 4 rfl Try.underlying3 rfl) ?_
        refine wl_f 42 4 (.tmp 5) (pt k4 0) (pt k4 4) ?_
        refine wl_st1 3 (.tmp 48) (.tmp 47) k4 4 (.int .i64 (e2)) [.int .i64 (w64 (r + r2)), .int .i64 (w64 (f + f2)), .int .i64 (w64 (k + kb)), .int .i64 (w64 (d + d2)), .int .i64 (er), .int .u64 (l0 (tt)), .int .u64 (l1 (tt)), .int .u64 (l2 (tt)), .int .u64 (l3 (tt)), .int .u64 (l4 (tt)), .bool so, .bool mb, .int .u64 (l0 (mn)), .int .u64 (l1 (mn)), .int .u64 (l2 (mn)), .int .u64 (l3 (mn)), .int .i64 (ms), .bool xb, .int .u64 (l0 (xn)), .int .u64 (l1 (xn)), .int .u64 (l2 (xn)), .int .u64 (l3 (xn)), .int .i64 (xs)] [.int .i64 (w64 (r + r2)), .int .i64 (w64 (f + f2)), .int .i64 (w64 (k + kb)), .int .i64 (w64 (d + d2)), .int .i64 (e2), .int .u64 (l0 (tt)), .int .u64 (l1 (tt)), .int .u64 (l2 (tt)), .int .u64 (l3 (tt)), .int .u64 (l4 (tt)), .bool so, .bool mb, .int .u64 (l0 (mn)), .int .u64 (l1 (mn)), .int .u64 (l2 (mn)), .int .u64 (l3 (mn)), .int .i64 (ms), .bool xb, .int .u64 (l0 (xn)), .int .u64 (l1 (xn)), .int .u64 (l2 (xn)), .int .u64 (l3 (xn)), .int .i64 (xs)] Q4 rfl rfl rfl rfl rfl sz3 rfl rfl rfl rfl ?_
        intro w10 hS Qn
        replace Q4 := Qn
        clear Qn
        replace Q1 := hS.other _ _ ne_k1_k4 Q1
        replace Q2 := hS.other _ _ ne_k2_k4 Q2
        replace Q3 := hS.other _ _ ne_k3_k4 Q3
        replace M := hS.mo _ N_k4 M
        clear hS
        refine w_nil ?_
        exact xn_cut ⟨rfl, rfl, rfl, rfl, Q1, Q2, Q3, by rw [les_B hf1p]; exact Q4, M⟩
      | false =>
        have hf1p := of_decide_eq_false hf1
        cases hf2 : decide (e2 < er) with
        | true =>
          have hf2p := of_decide_eq_true hf2
          refine w_reg ?_
          refine wl_f 42 4 (.tmp 3) (pt k2 0) (pt k2 4) ?_
          refine wl_l 3 (.tmp 31) (pt k2 4) (.int .i64 (e2)) (run_one Q2 3 4 rfl Try.underlying3 rfl) ?_
          refine wl_b .neq 3 (.tmp 32) (.const (.int .i64 (0))) (.int .i64 (e2)) (.int .i64 (0)) (.bool true) (neI hf0 _ _ _) ?_
          refine wl_m (.tmp 33) (.bool true) ?_
          refine wl_f 42 4 (.tmp 2) (pt k1 0) (pt k1 4) ?_
          refine wl_l 3 (.tmp 35) (pt k1 4) (.int .i64 (er)) (run_one Q1 3 4 rfl Try.underlying3 rfl) ?_
          refine wl_b .eql 3 (.tmp 36) (.const (.int .i64 (0))) (.int .i64 (er)) (.int .i64 (0)) (.bool false) (eqI hf1 _ _ _) ?_
          refine wl_m (.tmp 37) (.bool false) ?_
          refine wl_f 42 4 (.tmp 3) (pt k2 0) (pt k2 4) ?_
          refine wl_l 3 (.tmp 39) (pt k2 4) (.int .i64 (e2)) (run_one Q2 3 4 rfl Try.underlying3 rfl) ?_
          refine wl_f 42 4 (.tmp 2) (pt k1 0) (pt k1 4) ?_
          refine wl_l 3 (.tmp 41) (pt k1 4) (.int .i64 (er)) (run_one Q1 3 4 rfl Try.underlying3 rfl) ?_
          refine wl_b .lss 3 (.tmp 40) (.tmp 42) (.int .i64 (e2)) (.int .i64 (er)) (.bool true) (ltI hf2 _ _ _) ?_
          refine wl_pick (.tmp 38) (.const (.bool true)) (.tmp 43) false (.bool true) (fun _ => rfl) rfl rfl rfl ?_
          refine wl_pick (.tmp 34) (.tmp 44) (.const (.bool false)) true (.bool true) (fun _ => rfl) rfl rfl rfl ?_
          refine w_nil (xn_then (w_condT rfl (w_reg ?_)))
          refine wl_f 42 4 (.tmp 3) (pt k2 0) (pt k2 4) ?_
          refine wl_l 3 (.tmp 46) (pt k2 4) (.int .i64 (e2)) (run_one Q2 3 4 rfl Try.underlying3 rfl) ?_
          refine wl_f 42 4 (.tmp 5) (pt k4 0) (pt k4 4) ?_
          refine wl_st1 3 (.tmp 48) (.tmp 47) k4 4 (.int .i64 (e2)) [.int .i64 (w64 (r + r2)), .int .i64 (w64 (f + f2)), .int .i64 (w64 (k + kb)), .int .i64 (w64 (d + d2)), .int .i64 (er), .int .u64 (l0 (tt)), .int .u64 (l1 (tt)), .int .u64 (l2 (tt)), .int .u64 (l3 (tt)), .int .u64 (l4 (tt)), .bool so, .bool mb, .int .u64 (l0 (mn)), .int .u64 (l1 (mn)), .int .u64 (l2 (mn)), .int .u64 (l3 (mn)), .int .i64 (ms), .bool xb, .int .u64 (l0 (xn)), .int .u64 (l1 (xn)), .int .u64 (l2 (xn)), .int .u64 (l3 (xn)), .int .i64 (xs)] [.int .i64 (w64 (r + r2)), .int .i64 (w64 (f + f2)), .int .i64 (w64 (k + kb)), .int .i64 (w64 (d + d2)), .int .i64 (e2), .int .u64 (l0 (tt)), .int .u64 (l1 (tt)), .int .u64 (l2 (tt)), .int .u64 (l3 (tt)), .int .u64 (l4 (tt)), .bool so, .bool mb, .int .u64 (l0 (mn)), .int .u64 (l1 (mn)), .int .u64 (l2 (mn)), .int .u64 (l3 (mn)), .int .i64 (ms), .bool xb, .int .u64 (l0 (xn)), .int .u64 (l1 (xn)), .int .u64 (l2 (xn)), .int .u64 (l3 (xn)), .int .i64 (xs)] Q4 rfl rfl rfl rfl rfl sz3 rfl rfl rfl rfl ?_
          intro w10 hS Qn
          replace Q4 := Qn
          clear Qn
          replace Q1 := hS.other _ _ ne_k1_k4 Q1
          replace Q2 := hS.other _ _ ne_k2_k4 Q2
          replace Q3 := hS.other _ _ ne_k3_k4 Q3
          replace M := hS.mo _ N_k4 M
          clear hS
          refine w_nil ?_
          exact xn_cut ⟨rfl, rfl, rfl, rfl, Q1, Q2, Q3, by rw [les_C hf0p hf1p hf2p]; exact Q4, M⟩
        | false =>
          have hf2p := of_decide_eq_false hf2
          refine w_reg ?_
          refine wl_f 42 4 (.tmp 3) (pt k2 0) (pt k2 4) ?_
          refine wl_l 3 (.tmp 31) (pt k2 4) (.int .i64 (e2)) (run_one Q2 3 4 rfl Try.underlying3 rfl) ?_
          refine wl_b .neq 3 (.tmp 32) (.const (.int .i64 (0))) (.int .i64 (e2)) (.int .i64 (0)) (.bool true) (neI hf0 _ _ _) ?_
          refine wl_m (.tmp 33) (.bool true) ?_
          refine wl_f 42 4 (.tmp 2) (pt k1 0) (pt k1 4) ?_
          refine wl_l 3 (.tmp 35) (pt k1 4) (.int .i64 (er)) (run_one Q1 3 4 rfl Try.underlying3 rfl) ?_
          refine wl_b .eql 3 (.tmp 36) (.const (.int .i64 (0))) (.int .i64 (er)) (.int .i64 (0)) (.bool false) (eqI hf1 _ _ _) ?_
          refine wl_m (.tmp 37) (.bool false) ?_
          refine wl_f 42 4 (.tmp 3) (pt k2 0) (pt k2 4) ?_
          refine wl_l 3 (.tmp 39) (pt k2 4) (.int .i64 (e2)) (run_one Q2 3 4 rfl Try.underlying3 rfl) ?_
          refine wl_f 42 4 (.tmp 2) (pt k1 0) (pt k1 4) ?_
          refine wl_l 3 (.tmp 41) (pt k1 4) (.int .i64 (er)) (run_one Q1 3 4 rfl Try.underlying3 rfl) ?_
          refine wl_b .lss 3 (.tmp 40) (.tmp 42) (.int .i64 (e2)) (.int .i64 (er)) (.bool false) (ltI hf2 _ _ _) ?_
          refine wl_pick (.tmp 38) (.const (.bool true)) (.tmp 43) false (.bool false) (fun _ => rfl) rfl rfl rfl ?_
          refine wl_pick (.tmp 34) (.tmp 44) (.const (.bool false)) true (.bool false) (fun _ => rfl) rfl rfl rfl ?_
          refine w_nil (xn_then (w_condF rfl (w_skip ?_)))
          exact xn_cut ⟨rfl, rfl, rfl, rfl, Q1, Q2, Q3, by rw [les_D hf0p hf1p hf2p]; exact Q4, M⟩
theorem rtwo_n (S T : Sm) (hS : S.ok) (hT : T.ok) (hz : S.so = false → S.mn = d0 ∧ S.mx = d0) : Calls Try.prog 36 #[smv S, smv T] w fun e w' => e = .returned (smv (jn S T)) ∧ Mo w w' := by
  obtain ⟨r, f, k, d, er, tt, so, ⟨mb, mn, ms⟩, ⟨xb, xn, xs⟩⟩ := S
  obtain ⟨r2, f2, kb, d2, e2, tt2, so2, ⟨mb2, mn2, ms2⟩, ⟨xb2, xn2, xs2⟩⟩ := T
  exact two_n r f k d er tt so mb mn ms xb xn xs r2 f2 kb d2 e2 tt2 so2 mb2 mn2 ms2 xb2 xn2 xs2 hS.1 hS.2 hT.1 hT.2 hz
end
end Go.Proofs.Ythfemlhmnjfjiaa

/-
  The same is the same: values.
-/
namespace Go.Proofs.Ythfemlhmnjfjiaa
open Go.RowKit
theorem eq26s (d : Nat) (b : Bool) (n0 n1 n2 n3 s : Int) (w : World) : (Op.equalIn (d + 1 + 1 + 1) 40 (.agg #[.bool b, .int .u64 n0, .int .u64 n1, .int .u64 n2, .int .u64 n3, .int .i64 s]) (.agg #[.bool b, .int .u64 n0, .int .u64 n1, .int .u64 n2, .int .u64 n3, .int .i64 s])).run Try.prog w = .ok true w := by
  rw [run_equalIn_struct w (d + 1 + 1) 40 _ _ ht40 hp40]
  have h := fo40
  generalize (Try.prog.fieldsOf 40).toList = L at h
  have hl : L.length = 3 := by have := congrArg List.length h; simpa using this
  match L, hl with
  | [f0, f1, f2], _ =>
    simp at h
    obtain ⟨⟨a0, a1, a2⟩, ⟨b0, b1, b2⟩, ⟨c0, c1, c2⟩⟩ := h
    have q1 : (Op.equalIn (d + 1 + 1) 4 (.bool b) (.bool b)).run Try.prog w = .ok true w := by
      have : (Op.equalIn (d + 1 + 1) 4 (.bool b) (.bool b)).run Try.prog w = .ok (b == b) w := by kernel_rfl
      rw [this]; simp
    have q2 := eq4d d n0 n1 n2 n3 n0 n1 n2 n3 w
    have q3 : (Op.equalIn (d + 1 + 1) 3 (.int .i64 s) (.int .i64 s)).run Try.prog w = .ok true w := by rw [run_equalIn_int w (d + 1) 3 .i64 .i64 s s Try.underlying3]; simp
    simp at q2
    simp [Op.eqFields, a0, a1, a2, b0, b1, b2, c0, c1, c2, Sem.run_bind, pt40, pt41, pt45, Result.andThen_ok, q1, q2, q3, Sem.run_pure]
end Go.Proofs.Ythfemlhmnjfjiaa

