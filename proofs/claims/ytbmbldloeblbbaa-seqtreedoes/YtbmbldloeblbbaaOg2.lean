/-
  A region that draws its order: a first part in any order, the last part a chain; appends onto a slice of ids of one's own.
-/
import Derived.Test.YtbmbldloeblbbaaRf
import Derived.Maps.AppendAt
import Derived.Deep.AppendLies
namespace Go.Proofs.Ytbmbldloeblbbaa
open Go.RowKit
def spQ (sp : List (Value → World → Prop)) (j : Nat) : Value → World → Prop := (sp[j]?).getD (fun _ _ => True)
/-- What is said holds of each greater world. -/
def Smo (p : Value → World → Prop) : Prop := ∀ u w w', p u w → Mo w w' → p u w'
def Smos (sp : List (Value → World → Prop)) : Prop := ∀ j, Smo (spQ sp j)
theorem smos_nil : Smos [] := fun _ _ _ _ _ _ => trivial
theorem smos_cons {p : Value → World → Prop} {sp : List (Value → World → Prop)} (h : Smo p) (hs : Smos sp) : Smos (p :: sp) := fun j => by
  cases j with
  | zero => exact h
  | succ j => have := hs j; unfold spQ at this ⊢; simpa using this
/-- It is this value. -/
def vq (v : Value) : Value → World → Prop := fun u _ => u = v
theorem smo_vq (v : Value) : Smo (vq v) := fun _ _ _ h _ => h
section
variable {P : Program} {n : Nat} {l : List (Nat × Value)} {w : World} {Q : Exit → Act → World → Prop}
structure OgC (P : Program) (ops : List Oper) (Q : Exit → Act → World → Prop) (n : Nat) (l : List (Nat × Value)) (m : Nat) (G : World → Prop) (sp : List (Value → World → Prop)) (i : Nat) (o : Oper) : Prop where
  out : ∀ f w, G w → (∀ j, depb o j = true → spQ sp j (f j) w) → ∀ K : Act → World → Prop,
    (∀ v w', G w' → spQ sp i v w' → (∀ j u, j ≠ i → spQ sp j u w → spQ sp j u w') → K (fr n (ext (asg f 0 (ops.take m) l) o.dst v)) w') →
    Go1 P ops Q n (asg f 0 (ops.take m) l) w K o
/-- What a late one yields, in whatever world. -/
def LateC (P : Program) (ops : List Oper) (Q : Exit → Act → World → Prop) (n : Nat) (l : List (Nat × Value)) (m : Nat) (sp : List (Value → World → Prop)) (i : Nat) : Prop :=
  ∃ o v, ops[i]? = some o ∧ spQ sp i = vq v ∧ (∀ u c a w, Q (.panic c) (a.put o.dst u) w → Q (.panic c) a w) ∧
    ∀ f, (∀ j, depb o j = true → ∀ u, spQ sp j = vq u → f j = u) → wnt n (asg f 0 (ops.take m) l) ops.toArray o = true ∧ ∀ w, (execOp (evl n (asg f 0 (ops.take m) l)) o).run P w = .ok (.value v) w
theorem a_ogc {ops : List Oper} (m : Nat) (G : World → Prop) (sp : List (Value → World → Prop)) (fs : List Nat) 
    (hb : edgesBack .any ops.toArray = true) (hd : dstsApart (ops.take m) = true) (hc : chainB ops m fs = true) (hl : Nat.ble m ops.length = true) (hf : floatB ops m fs = true) (hns : Region.noSelect ops.toArray = true)
    (hlate : ∀ i, i ∈ fs → LateC P ops Q n l m sp i) (hG : G w.drew) (hs : Each (OgC P ops Q n l m G sp) 0 (ops.take m))
    (hend : ∀ f w', G w' → (∀ i, Nat.blt i m = true → spQ sp i (f i) w') → WL P ops.toArray Q (ops.drop m) n (asg f 0 (ops.take m) l) w') : wpAny P .any ops.toArray Q ops.toArray.size (Array.replicate ops.toArray.size false) (fr n l) w.drew := by
  have hml : m ≤ ops.length := Nat.le_of_ble_eq_true hl
  have hfm : ∀ i, i ∈ fs → i < m := fun i hi => by
    have := List.all_eq_true.1 hf i hi
    simp only [Bool.and_eq_true] at this
    rw [Nat.blt_eq] at this; exact this.1
  have hfs : ∀ j, m ≤ j → fs.contains j = false := fun j hj => by
    cases e : fs.contains j with
    | false => rfl
    | true => have := hfm j (by simpa using e); omega
  -- all that are not late have come up: the late ones first, then the last part
  have second : ∀ (d fuel : Nat) (listed : Array Bool) (f : Nat → Value) (w : World), listed.toList.count false = (ops.length - m) + d → (ops.length - m) + d ≤ fuel → listed.size = ops.length → Shut ops listed → (∀ j, m ≤ j → j < ops.length → listed.getD j true = false) →
      (∀ j, j < m → fs.contains j = false → listed.getD j true = true) → G w → (∀ i, i < m → listed.getD i false = true → spQ sp i (f i) w) → wpAny P .any ops.toArray Q fuel listed (putAll f 0 (ops.take m) (fr n l)) w := by
    intro d
    induction d with
    | zero =>
      intro fuel listed f w hcnt hfu hz hsh hun hall hW hR
      have hall2 : ∀ j, j < m → listed.getD j true = true := fun j hj => by
        cases e : listed.getD j true with
        | true => rfl
        | false =>
          exfalso
          have h1 : (listed.toList.drop m).count false = ops.length - m := by
            have h2 : listed.toList.drop m = List.replicate (ops.length - m) false := by
              apply List.ext_getElem
              · simp [hz]
              · intro j h3 h4
                simp at h3
                have := hun (m + j) (by omega) (by omega)
                have h5 : m + j < listed.size := by omega
                simpa [h5] using this
            rw [h2]; simp
          have h3 := List.take_append_drop m listed.toList
          have h4 : 0 < (listed.toList.take m).count false := by
            apply List.count_pos_iff.2
            have hjs : j < listed.size := by omega
            simp [hjs] at e
            rw [List.mem_iff_getElem]
            exact ⟨j, by simp; omega, by simp [e]⟩
          rw [← h3, List.count_append] at hcnt
          omega
      refine wpAny_chain hfs hc hb (ops.length - m) m _ listed _ w (by omega) (Nat.le_refl _) (by omega) hz hsh (fun j hj => ?_) ?_
      · rcases Nat.lt_or_ge j m with h | h
        · rw [hall2 j h]; simp [h]
        · rw [hun j h hj]; simp [Nat.not_lt.2 h]
      · rw [putAll_fr]
        exact (hend f w hW (fun i hi => by
          have hi' : i < m := by rw [Nat.blt_eq] at hi; exact hi
          refine hR i hi' ?_
          have h1 := hall2 i hi'
          have h2 : i < listed.size := by omega
          simpa [h2] using h1)).out
    | succ d ih =>
      intro fuel listed f w hcnt hfu hz hsh hun hall hW hR
      -- a late one that has not come up: the first
      have hex : ∃ i, i < m ∧ listed.getD i true = false := by
        apply Classical.byContradiction
        intro hno
        have hall2 : ∀ j, j < m → listed.getD j true = true := fun j hj => by
          cases e : listed.getD j true with
          | true => rfl
          | false => exact absurd ⟨j, hj, e⟩ hno
        have h3 := List.take_append_drop m listed.toList
        have h4 : (listed.toList.take m).count false = 0 := by
          rw [List.count_eq_zero]
          intro hmem
          rw [List.mem_iff_getElem] at hmem
          obtain ⟨j, hj, e⟩ := hmem
          simp at hj e
          have hj1 : j < m := by omega
          have hj2 : j < listed.size := by omega
          have := hall2 j hj1
          simp [hj2] at this
          rw [this] at e; cases e
        have h5 : (listed.toList.drop m).count false ≤ ops.length - m := by
          have := List.count_le_length (a := false) (l := listed.toList.drop m)
          simp [hz] at this; exact this
        rw [← h3, List.count_append] at hcnt
        omega
      obtain ⟨i, ⟨him, hiu⟩, hmin⟩ := exists_least0 hex
      have hif : i ∈ fs := by
        cases e : fs.contains i with
        | true => simpa using e
        | false => have := hall i him e; rw [hiu] at this; cases this
      obtain ⟨o, v, ho, hv, hQ, hy⟩ := hlate i hif
      have hdep : ∀ e ∈ o.after, Region.binds .any e = true → listed.getD e.on false = true := fun e he hbd => by
        have hlt := edgesBack_spec hb (i := i) (o := o) (by simpa using ho) e he hbd
        have h1 : listed.getD e.on true = true := by
          cases ee : listed.getD e.on true with
          | true => rfl
          | false => have := hmin e.on ⟨by omega, ee⟩; omega
        have h2 : e.on < listed.size := by omega
        simpa [h2] using h1
      have hval : ∀ j, depb o j = true → ∀ u, spQ sp j = vq u → f j = u := fun j hj u hu => by
        obtain ⟨e, he, hb'⟩ := List.any_eq_true.1 hj
        simp only [Bool.and_eq_true] at hb'
        have heon := Nat.eq_of_beq_eq_true hb'.2
        have hj' := hdep e (by simpa using he) hb'.1
        have hlt := edgesBack_spec hb (i := i) (o := o) (by simpa using ho) e (by simpa using he) hb'.1
        rw [heon] at hj' hlt
        have := hR j (by omega) hj'
        rw [hu] at this
        exact this
      obtain ⟨hw1, hw2⟩ := hy f hval
      cases fuel with
      | zero => omega
      | succ fuel =>
        refine wpAny_first (i := i) (oi := o) (v := v) (by simpa using ho) (Region.noSelect_spec hns) (hQ v) fuel listed _ w ?_ ?_ ?_ ?_
        · intro j oj hoj hji hju hno
          have hjl : j < ops.length := by have := (Array.getElem?_eq_some_iff.1 hoj).1; simpa using this
          have h1 := List.all_eq_true.1 hf i hif
          simp only [Bool.and_eq_true, ho] at h1
          have h2 := List.all_eq_true.1 h1.2 j (List.mem_range.2 hjl)
          have hoj' : ops[j]? = some oj := by simpa using hoj
          simp only [hoj', Bool.or_eq_true, Bool.and_eq_true, Bool.not_eq_true'] at h2
          rcases h2 with (h2 | h2) | h2 | h2
          · exact absurd (Nat.eq_of_beq_eq_true h2) hji
          · have := hall j (by have := h2.1; rw [Nat.blt_eq] at this; exact this) h2.2
            rw [this] at hju; cases hju
          · obtain ⟨e, he, hb'⟩ := List.any_eq_true.1 h2
            simp only [Bool.and_eq_true] at hb'
            exact absurd (Nat.eq_of_beq_eq_true hb'.2) (hno e (by simpa using he) hb'.1)
          · exact h2
        · exact mem_ready.2 ⟨hiu, o, by simpa using ho, hdep⟩
        · rw [putAll_fr]
          exact Or.inl ⟨by rw [fr_wanted]; exact hw1, fun w => by rw [fr_eval]; exact hw2 w⟩
        · have hot : (ops.take m)[i]? = some o := by rw [List.getElem?_take_of_lt him]; exact ho
          have hp := putAll_put v (ops.take m) 0 f (fr n l) hd i o hot
          rw [Nat.zero_add] at hp
          rw [hp]
          have h1 : listed.toList[i]? = some false := by
            have h' : i < listed.size := by omega
            simp [h'] at hiu; simp [h', hiu]
          have hcs := count_set _ _ h1
          refine ih fuel _ (upd f i v) w ?_ (by omega) (by simpa using hz) (hsh.step ho hdep) (fun j h1 h2 => ?_) (fun j h1 h2 => ?_) hW (fun j hj hlj => ?_)
          · simp only [Array.toList_setIfInBounds]; omega
          · rw [getD_set_ne true (by omega)]; exact hun j h1 h2
          · have hij : i ≠ j := by intro e; subst e; have : fs.contains i = true := by simpa using hif
                                   rw [this] at h2; cases h2
            rw [getD_set_ne true hij]; exact hall j h1 h2
          · by_cases e : j = i
            · subst e; rw [hv]; simp [upd, vq]
            · rw [getD_set_ne false (Ne.symm e)] at hlj
              have := hR j hj hlj
              simpa [upd, e] using this
  have main : ∀ (fuel : Nat) (listed : Array Bool) (f : Nat → Value) (w : World), listed.toList.count false ≤ fuel → listed.size = ops.length → Shut ops listed → (∀ j, m ≤ j → j < ops.length → listed.getD j true = false) →
      G w → (∀ i, i < m → listed.getD i false = true → spQ sp i (f i) w) → wpAny P .any ops.toArray Q fuel listed (putAll f 0 (ops.take m) (fr n l)) w := by
    intro fuel
    induction fuel with
    | zero =>
      intro listed f w hcnt hz hsh hun hW hR
      refine wpAny_chain hfs hc hb (ops.length - m) m 0 listed _ w (by omega) (Nat.le_refl _) ?_ hz hsh ?_ ?_
      · rcases Nat.lt_or_ge m ops.length with h | h
        · exfalso
          have h1 := hun m (Nat.le_refl _) h
          have h2 : m < listed.size := by omega
          have : false ∈ listed.toList := by simp [h2] at h1; rw [← h1]; simp
          have := List.count_pos_iff.2 this
          omega
        · omega
      · intro j hj
        have h2 : j < listed.size := by omega
        have h3 : listed.getD j true = true := by
          cases e : listed.getD j true with
          | true => rfl
          | false =>
            have : false ∈ listed.toList := by simp [h2] at e; rw [← e]; simp
            have := List.count_pos_iff.2 this
            omega
        rcases Nat.lt_or_ge j m with h | h
        · rw [h3]; simp [h]
        · rw [hun j h hj] at h3; cases h3
      · rw [putAll_fr]
        refine (hend f w hW (fun i hi => hR i (by rw [Nat.blt_eq] at hi; exact hi) ?_)).out
        have hi' : i < m := by rw [Nat.blt_eq] at hi; exact hi
        have h2 : i < listed.size := by omega
        cases e : listed.getD i false with
        | true => rfl
        | false =>
          have : false ∈ listed.toList := by simp [h2] at e; rw [← e]; simp
          have := List.count_pos_iff.2 this
          omega
    | succ fuel ih =>
      intro listed f w hcnt hz hsh hun hW hR
      by_cases hall : ∀ j, j < m → fs.contains j = false → listed.getD j true = true
      · have hge : ops.length - m ≤ listed.toList.count false := by
          have h1 : (listed.toList.drop m).count false = ops.length - m := by
            have h2 : listed.toList.drop m = List.replicate (ops.length - m) false := by
              apply List.ext_getElem
              · simp [hz]
              · intro j h3 h4
                simp at h3
                have := hun (m + j) (by omega) (by omega)
                have h5 : m + j < listed.size := by omega
                simpa [h5] using this
            rw [h2]; simp
          have h3 := List.take_append_drop m listed.toList
          rw [← h3, List.count_append]
          omega
        exact second (listed.toList.count false - (ops.length - m)) _ listed f w (by omega) (by omega) hz hsh hun hall hW hR
      · obtain ⟨u, hum, huf, hu⟩ : ∃ u, u < m ∧ fs.contains u = false ∧ listed.getD u true = false := by
          rcases Classical.not_forall.1 hall with ⟨u, h⟩
          rcases Classical.not_imp.1 h with ⟨h1, h2⟩
          rcases Classical.not_imp.1 h2 with ⟨h3, h4⟩
          exact ⟨u, h1, h3, by cases e : listed.getD u true with | true => exact absurd e h4 | false => rfl⟩
        have hne : Region.ready .any ops.toArray listed ≠ [] := fun hr => by
          have := all_listed hb hr u (by simp; omega)
          rw [hu] at this; cases this
        refine ⟨fun h0 => absurd h0 hne, fun i hi => ?_⟩
        obtain ⟨h0, o, ho, hdep⟩ := mem_ready.1 hi
        have hoi : ops[i]? = some o := by simpa using ho
        have hilt : i < ops.length := (List.getElem?_eq_some_iff.1 hoi).1
        have him : i < m := by
          rcases Nat.lt_or_ge i m with h | h
          · exact h
          · exfalso
            have h1 := chainB_spec hc hsh hoi h hdep u (by omega) huf
            have h2 : u < listed.size := by omega
            simp [h2] at h1 hu
            rw [h1] at hu; cases hu
        have hot : (ops.take m)[i]? = some o := by rw [List.getElem?_take_of_lt him]; exact hoi
        have hstep := Each.spec (ops.take m) 0 hs i o hot
        rw [Nat.zero_add] at hstep
        have hcount : ((listed.setIfInBounds i true).toList.count false) ≤ fuel := by
          have h1 : listed.toList[i]? = some false := by
            have h' : i < listed.size := by omega
            simp [h'] at h0; simp [h', h0]
          have := count_set _ _ h1
          simp only [Array.toList_setIfInBounds]
          omega
        have hun' : ∀ j, m ≤ j → j < ops.length → (listed.setIfInBounds i true).getD j true = false := fun j h1 h2 => by
          rw [getD_set_ne true (by omega)]; exact hun j h1 h2
        have next : ∀ v w', G w' → spQ sp i v w' → (∀ j u, j ≠ i → spQ sp j u w → spQ sp j u w') → wpAny P .any ops.toArray Q fuel (listed.setIfInBounds i true) (putAll (upd f i v) 0 (ops.take m) (fr n l)) w' := fun v w' hg hden hot' => by
          refine ih _ _ w' hcount (by simpa using hz) (hsh.step hoi hdep) hun' hg (fun j hj hlj => ?_)
          by_cases e : j = i
          · subst e; simpa [upd] using hden
          · rw [getD_set_ne false (Ne.symm e)] at hlj
            have := hot' j (f j) e (hR j hj hlj)
            simpa [upd, e] using this
        have put : ∀ v, fr n (ext (asg f 0 (ops.take m) l) o.dst v) = putAll (upd f i v) 0 (ops.take m) (fr n l) := fun v => by
          have := putAll_put v (ops.take m) 0 f (fr n l) hd i o hot
          rw [Nat.zero_add] at this
          rw [← this, putAll_fr, fr_put]
        refine wpOp_step ho (fun K hK => ?_)
        rw [putAll_fr, fr_wanted]
        have hh := (hstep.out f w hW (fun j hj => by
          obtain ⟨e, he, hb'⟩ := List.any_eq_true.1 hj
          simp only [Bool.and_eq_true] at hb'
          have heon := Nat.eq_of_beq_eq_true hb'.2
          have hj' := hdep e (by simpa using he) hb'.1
          have hlt := edgesBack_spec hb ho e (by simpa using he) hb'.1
          rw [heon] at hj' hlt
          exact hR j (by omega) hj') K (fun v w' h1 h2 h3 => by rw [put]; exact hK _ _ (next v w' h1 h2 h3))).out
        rw [fr_put]
        rcases hh with ⟨h1, h2⟩ | ⟨h1, h2⟩
        · rw [h1]; exact h2.out
        · rw [h1]; exact h2
  have h0 : putAll (slots (fr n l) (ops.take m).toArray) 0 (ops.take m) (fr n l) = fr n l := putAll_self _ _ 0 _ (fun i o ho t ht => by simp only [Nat.zero_add, slots]; rw [show (ops.take m).toArray[i]? = some o by simpa using ho]; simp [ht])
  have := main ops.length (Array.replicate ops.length false) (slots (fr n l) (ops.take m).toArray) w.drew (by simp) (by simp) (Shut.start _ _) (fun j _ hj => by simp [hj]) hG (fun i _ hi => by
    exfalso
    rcases Nat.lt_or_ge i ops.length with h' | h' <;> simp [h'] at hi)
  rw [h0] at this
  simpa using this
theorem w_ogc {id : Nat} {ops : List Oper} (m : Nat) (G : World → Prop) (sp : List (Value → World → Prop)) (fs : List Nat) (hm : P.follows .mixedOrders = true)
    (hb : edgesBack .any ops.toArray = true) (hd : dstsApart (ops.take m) = true) (hc : chainB ops m fs = true) (hl : Nat.ble m ops.length = true) (hf : floatB ops m fs = true) (hns : Region.noSelect ops.toArray = true)
    (hlate : ∀ i, i ∈ fs → LateC P ops Q n l m sp i) (hG : G w.drew) (hs : Each (OgC P ops Q n l m G sp) 0 (ops.take m))
    (hend : ∀ f w', G w' → (∀ i, Nat.blt i m = true → spQ sp i (f i) w') → WL P ops.toArray Q (ops.drop m) n (asg f 0 (ops.take m) l) w') : WC P (Code.region id ops.toArray true) Q n l w :=
  ⟨wp_region_any hm (a_ogc m G sp fs hb hd hc hl hf hns hlate hG hs hend)⟩
theorem R.w_ogc {ro : Option Nat} {m0 : Nat} {ds : List Deferred} {id : Nat} {ops : List Oper} (m : Nat) (G : World → Prop) (sp : List (Value → World → Prop)) (fs : List Nat) (hm : P.follows .mixedOrders = true)
    (hb : edgesBack .any ops.toArray = true) (hd : dstsApart (ops.take m) = true) (hc : chainB ops m fs = true) (hl : Nat.ble m ops.length = true) (hf : floatB ops m fs = true) (hns : Region.noSelect ops.toArray = true) (hnd : ops.toArray.all R.notDefer = true)
    (hlate : ∀ i, i ∈ fs → LateC P ops (R.Wd ds Q) n l m sp i) (hG : G w.drew) (hs : Each (OgC P ops (R.Wd ds Q) n l m G sp) 0 (ops.take m))
    (hend : ∀ f w', G w' → (∀ i, Nat.blt i m = true → spQ sp i (f i) w') → WL P ops.toArray (R.Wd ds Q) (ops.drop m) n (asg f 0 (ops.take m) l) w') : R.RC ro m0 ds P (Code.region id ops.toArray true) Q n l w :=
  ⟨wpIn_region_any hm (R.any_in hnd _ _ _ _ (a_ogc m G sp fs hb hd hc hl hf hns hlate hG hs hend))⟩
theorem latec_nil {ops : List Oper} {m : Nat} {sp : List (Value → World → Prop)} : ∀ i, i ∈ ([] : List Nat) → LateC P ops Q n l m sp i := fun _ h => by cases h
theorem latec_cons {ops : List Oper} {m : Nat} {sp : List (Value → World → Prop)} {x : Nat} {r : List Nat} (h : LateC P ops Q n l m sp x) (hr : ∀ i, i ∈ r → LateC P ops Q n l m sp i) : ∀ i, i ∈ x :: r → LateC P ops Q n l m sp i := fun i hi => by
  rcases List.mem_cons.1 hi with rfl | hi
  · exact h
  · exact hr i hi
variable {o : Oper}
theorem oc_eq {ol : List Oper} {m : Nat} {G : World → Prop} {sp : List (Value → World → Prop)} {i : Nat} (v : Value) (hs : spQ sp i = vq v) (hg : ∀ w w', G w → Mo w w' → G w') (hm : Smos sp)
    (h : ∀ f w, G w → (∀ j, depb o j = true → spQ sp j (f j) w) → ∀ K : Act → World → Prop, (∀ w', Mo w w' → K (fr n (ext (asg f 0 (ol.take m) l) o.dst v)) w') → Go1 P ol Q n (asg f 0 (ol.take m) l) w K o) : OgC P ol Q n l m G sp i o :=
  ⟨fun f w hG hd K hK => h f w hG hd K (fun w' hmo => hK v w' (hg w w' hG hmo) (by rw [hs]; rfl) (fun j u _ hr => hm j u w w' hr hmo))⟩
end
theorem inf2 : ∃ i, Try.prog.info? 2 = some i ∧ i.zero = some (.int .i64 0) ∧ i.size = 1 ∧ i.bytes = 8 := by
  have h : (Try.prog.info? 2).map (fun i => (i.zero, i.size, i.bytes)) = some (some (.int .i64 0), 1, 8) := by kernel_rfl
  cases hi : Try.prog.info? 2 with
  | none => rw [hi] at h; cases h
  | some i =>
    rw [hi] at h
    simp at h
    exact ⟨i, rfl, h.1, h.2.1, h.2.2⟩
/-- What an append leaves as it was. -/
structure AppW (v : Value) (w w' : World) : Prop where
  os : w'.os = w.os
  tape : w'.tape = w.tape
  output : w'.output = w.output
  size : w.heap.size ≤ w'.heap.size
  block : ∀ k, k < w.heap.size → v.ownBlock ≠ some k → w'.heap[k]? = w.heap[k]?
  fz : ∀ a, w'.frozen? a = w.frozen? a
theorem AppW.at {v : Value} {w w' : World} (h : AppW v w w') {j : Nat} {vs : List Value} (hA : At w j vs) (hn : v.ownBlock ≠ some j) : At w' j vs :=
  ⟨fun i u hu => (World.cell?_of_block (a := ⟨j, 0 + i, none⟩) (h.block j hA.2.2 hn)).trans (hA.1 i u hu), fun o => (h.fz _).trans (hA.2.1 o), Nat.lt_of_lt_of_le hA.2.2 h.size⟩
theorem AppW.mo {v : Value} {w w' a : World} (h : AppW v w w') (hM : Mo a w) (hn : ∀ k, v.ownBlock = some k → a.heap.size ≤ k) : Mo a w' :=
  ⟨⟨h.os.trans hM.1.os, h.tape.trans hM.1.tape, h.output.trans hM.1.output, Nat.le_trans hM.1.size h.size, fun k hk => (h.block k (Nat.lt_of_lt_of_le hk hM.1.size) (fun e => by have := hn k e; omega)).trans (hM.1.block k hk)⟩, fun x => (h.fz x).trans (hM.2 x)⟩
theorem own_mo {w w' : World} {N : Nat} {v : Value} {n : Nat} {xs : List Value} (h : w.ownsRow N 2 1 v n xs) (m : Mo w w') : w'.ownsRow N 2 1 v n xs :=
  h.kept (row := none) ⟨m.1.os, m.1.tape, m.1.output, m.1.size, fun k hk _ => m.1.block k hk⟩ (by cases e : v.ownBlock <;> simp)
theorem app26 (w : World) (ty : TypeId) (N : Nat) (v : Value) (n : Nat) (xs : List Value) (hown : w.ownsRow N 2 1 v n xs) (k m c : Nat) (news : List Value) (hl : news.length = m * 1) (hA : At w k news) (h1 : ∀ u ∈ news, u.oneCell' = true) (hm : 0 < m) (hn : n + m ≤ 700000000000) (hN : N ≤ w.heap.size) :
    ∃ v' w', (Builtin.append_ #[26, 26] ty #[v, .slice (some ⟨k, 0, none⟩) m c]).run Try.prog w = .ok v' w' ∧ w'.ownsRow N 2 1 v' (n + m) (xs ++ news) ∧ AppW v w w' ∧ (v'.ownBlock = v.ownBlock ∨ v'.ownBlock = some w.heap.size) := by
  obtain ⟨i, hi, hz, hs, hby⟩ := inf2
  have hnews : ∀ j u, news[j]? = some u → w.cell? ((⟨k, 0, none⟩ : Addr).add j) = some u := fun j u hu => by
    rw [Addr.add_mid]; have := hA.1 j u hu; simpa using this
  obtain ⟨v', w', hr, h2, h3, _, h5⟩ := run_append_own_at (P := Try.prog) w N 26 ty 2 i _ 1 8 Try.underlying26 hi hz hs hby rfl (by decide) v n xs hown ⟨k, 0, none⟩ m c news hl hnews h1 (by unfold maxLen; omega) (by omega) hN
  refine ⟨v', w', hr, h2, ⟨h3.os, h3.tape, h3.output, h3.size, fun j hj hne => h3.block j hj (fun e => hne e.symm), ?_⟩, h5⟩
  rcases hown.2 with ⟨rfl, rfl⟩ | ⟨g, cap, cur, rfl, hbg, hg, hnc, hcm, hcs, htake⟩
  · have hr2 := run_append_nil (P := Try.prog) w 26 ty 2 i _ Try.underlying26 hi hz ⟨k, 0, none⟩ m c news (by rw [hs]; exact hl) hnews hm (by omega) (by first | omega | (rw [hby]; omega) | (rw [hby]; exact growslice_fits (n := 0) (by omega) (by omega)))
    rw [hr2] at hr
    cases hr
    exact ((Mo.refl w).drew.alloc _ _).2
  · by_cases hroom : n + m ≤ cap
    · have hr2 := run_append_room (P := Try.prog) w 26 ty 2 i Try.underlying26 hi g n cap cur hg ⟨k, 0, none⟩ m c news (by rw [hs]; exact hl) hnews h1 hroom (by rw [hs]; first | omega | (rw [hl]; omega) | (simp [hl]; omega))
      rw [hr2] at hr
      cases hr
      intro a
      by_cases e : a.block = g
      · have h9 := setRow_heap w g cur (cur.toList.take (n * i.size) ++ news ++ cur.toList.drop (n * i.size + news.length)).toArray 2 (0, 0) hg
        simp only [World.frozen?, e, h9, hg]
      · exact World.frozen?_of_block (setRow_other w g a.block _ e)
    · have hr2 := run_append_grow (P := Try.prog) w 26 ty 2 i _ Try.underlying26 hi hz ⟨g, 0, none⟩ n cap xs (by rw [hs]; exact hown.1) (hown.cells (g := g) rfl) ⟨k, 0, none⟩ m c news (by rw [hs]; exact hl) hnews (by omega) (by omega) (by rw [hby]; exact growslice_fits (by omega) (by omega))
      rw [hr2] at hr
      cases hr
      exact ((Mo.refl w).drew.alloc _ _).2
theorem own_at {w : World} {N : Nat} {v : Value} {n : Nat} {xs : List Value} (h : w.ownsRow N 2 1 v n xs) (hn : 0 < n) : ∃ g cap, v = .slice (some ⟨g, 0, none⟩) n cap ∧ N ≤ g ∧ At w g xs := by
  have h0 := h
  rcases h.2 with ⟨_, h1⟩ | ⟨g, cap, cur, rfl, hb, hg, hnc, _, hcs, htake⟩
  · omega
  · refine ⟨g, cap, rfl, hb, fun j u hu => ?_, fun o => ?_, (h0.lt g rfl).2⟩
    · have hlt : j < xs.length := (List.getElem?_eq_some_iff.1 hu).1
      rw [Nat.zero_add, h0.cellAt j (by rw [h0.1] at hlt; exact hlt)]; exact hu
    · simp [World.frozen?, hg]
theorem app26k (w : World) (ty : TypeId) (N : Nat) (v : Value) (n : Nat) (xs : List Value) (hown : w.ownsRow N 2 1 v n xs) (k m c : Nat) (news : List Value) (hl : news.length = m * 1) (hA : At w k news) (h1 : ∀ u ∈ news, u.oneCell' = true) (hm : 0 < m) (hn : n + m ≤ 700000000000) (hN : N ≤ w.heap.size) :
    ∃ v' w', (Builtin.append_ #[26, 26] ty #[v, .slice (some ⟨k, 0, none⟩) m c]).run Try.prog w = .ok v' w' ∧ w'.ownsRow N 2 1 v' (n + m) (xs ++ news) ∧ AppW v w w' ∧ (v'.ownBlock = v.ownBlock ∨ v'.ownBlock = some w.heap.size) ∧ w'.ownsRow N 2 1 v n xs := by
  obtain ⟨v', w', hr, h2, h3, h5⟩ := app26 w ty N v n xs hown k m c news hl hA h1 hm hn hN
  refine ⟨v', w', hr, h2, h3, h5, ?_⟩
  obtain ⟨i, hi, hz, hs, hby⟩ := inf2
  have hnews : ∀ j u, news[j]? = some u → w.cell? ((⟨k, 0, none⟩ : Addr).add j) = some u := fun j u hu => by
    rw [Addr.add_mid]; have := hA.1 j u hu; simpa using this
  rcases hown.2 with ⟨rfl, rfl⟩ | ⟨g, cap, cur, rfl, hbg, hg, hnc, hcm, hcs, htake⟩
  · exact ⟨hown.1, .inl ⟨rfl, rfl⟩⟩
  · by_cases hroom : n + m ≤ cap
    · have hr2 := run_append_room (P := Try.prog) w 26 ty 2 i Try.underlying26 hi g n cap cur hg ⟨k, 0, none⟩ m c news (by rw [hs]; exact hl) hnews h1 hroom (by rw [hs]; first | omega | (rw [hl]; omega) | (simp [hl]; omega))
      rw [hr2] at hr
      cases hr
      have h9 := setRow_heap w g cur (cur.toList.take (n * i.size) ++ news ++ cur.toList.drop (n * i.size + news.length)).toArray 2 (0, 0) hg
      rw [hs] at h9 ⊢
      have hsz : n * 1 + m * 1 ≤ cap * 1 := by rw [← Nat.add_mul]; exact Nat.mul_le_mul_right _ hroom
      have hcl : cur.toList.length = cap * 1 := by simpa using hcs
      refine ⟨hown.1, .inr ⟨g, cap, _, rfl, hbg, h9, hnc, hcm, ?_, ?_⟩⟩
      · have : (cur.toList.take (n * 1) ++ news ++ cur.toList.drop (n * 1 + news.length)).length = cap * 1 := by
          rw [List.length_append, List.length_append, List.length_take, List.length_drop, hcl, hl]; omega
        simpa using this
      · show (cur.toList.take (n * 1) ++ news ++ cur.toList.drop (n * 1 + news.length)).take (n * 1) = xs
        rw [List.append_assoc, List.take_append_of_le_length (by rw [List.length_take]; omega), List.take_take, Nat.min_self]; exact htake
    · have hr2 := run_append_grow (P := Try.prog) w 26 ty 2 i _ Try.underlying26 hi hz ⟨g, 0, none⟩ n cap xs (by rw [hs]; exact hown.1) (hown.cells (g := g) rfl) ⟨k, 0, none⟩ m c news (by rw [hs]; exact hl) hnews (by omega) (by omega) (by rw [hby]; exact growslice_fits (by omega) (by omega))
      rw [hr2] at hr
      cases hr
      exact own_mo hown ((Mo.refl w).drew.alloc _ _)
section
variable {o : Oper} {n : Nat} {l : List (Nat × Value)} {w : World} {ops : Array Oper} {rest : List Oper} {Q : Exit → Act → World → Prop} {K : Act → World → Prop}
theorem bs26 (x : Int) (w : World) : (Instr.buildSlice 26 1 #[(0, .int .i64 x)]).run Try.prog w = .ok (.slice (some ⟨w.heap.size, 0, none⟩) 1 1) (w.alloc (.cells #[.int .i64 x] 2)) := by kernel_rfl
theorem wo_bs26 (x : Operand) (i : Int) (ho : o.op = .buildSlice 26 1 #[(0, x)]) (hx : evl n l x = .int .i64 i)
    (hk : ∀ k w', w.heap.size = k → w'.heap.size = k + 1 → Mo w w' → At w' k [.int .i64 i] → K (fr n (ext l o.dst (.slice (some ⟨k, 0, none⟩) 1 1))) w') : WO Try.prog o n l w K Q :=
  ⟨o_val (.slice (some ⟨w.heap.size, 0, none⟩) 1 1) (w' := w.alloc (.cells #[.int .i64 i] 2)) (by
    have h := bs26 i w
    simp [execOp, ho, hx, h]) (hk _ _ rfl (by simp) ((Mo.refl _).alloc _ _) (At.new w #[.int .i64 i] 2))⟩
theorem wo_app26 (s x : Operand) (N : Nat) (v : Value) (q : Nat) (xs : List Value) (k m c : Nat) (news : List Value) (ho : o.op = .call { callee := .builtin .append, args := #[s, x], argTypes := #[26, 26] }) (hs : evl n l s = v) (hx : evl n l x = .slice (some ⟨k, 0, none⟩) m c)
    (hown : w.ownsRow N 2 1 v q xs) (hl : news.length = m * 1) (hA : At w k news) (h1 : ∀ u ∈ news, u.oneCell' = true) (hm : 0 < m) (hn : q + m ≤ 700000000000) (hN : N ≤ w.heap.size)
    (hk : ∀ v' w', w'.ownsRow N 2 1 v' (q + m) (xs ++ news) → AppW v w w' → w'.ownsRow N 2 1 v q xs → (v'.ownBlock = v.ownBlock ∨ v'.ownBlock = some w.heap.size) → K (fr n (ext l o.dst v')) w') : WO Try.prog o n l w K Q := by
  obtain ⟨v', w', hr, h2, h3, h6, h5⟩ := app26k w o.type N v q xs hown k m c news hl hA h1 hm hn hN
  refine ⟨o_val v' (w' := w') ?_ (hk v' w' h2 h3 h5 h6)⟩
  unfold execOp
  simp only [ho, resolve, invoke, builtin, Sem.run_bind, Sem.run_pure, Result.andThen_ok, List.map_toArray, List.map_cons, List.map_nil, hs, hx, hr]
theorem wl_bs26 (x : Operand) (i : Int) (ho : o.op = .buildSlice 26 1 #[(0, x)]) (hx : evl n l x = .int .i64 i) (hg : wnt n l ops o = true)
    (hk : ∀ k w', w.heap.size = k → w'.heap.size = k + 1 → Mo w w' → At w' k [.int .i64 i] → WL Try.prog ops Q rest n (ext l o.dst (.slice (some ⟨k, 0, none⟩) 1 1)) w') : WL Try.prog ops Q (o :: rest) n l w :=
  ⟨l_step hg (wo_bs26 x i ho hx (fun k w' a b c d => (hk k w' a b c d).out)).out⟩
theorem wl_app26 (s x : Operand) (N : Nat) (v : Value) (q : Nat) (xs : List Value) (k m c : Nat) (news : List Value) (ho : o.op = .call { callee := .builtin .append, args := #[s, x], argTypes := #[26, 26] }) (hs : evl n l s = v) (hx : evl n l x = .slice (some ⟨k, 0, none⟩) m c)
    (hown : w.ownsRow N 2 1 v q xs) (hl : news.length = m * 1) (hA : At w k news) (h1 : ∀ u ∈ news, u.oneCell' = true) (hm : 0 < m) (hn : q + m ≤ 700000000000) (hN : N ≤ w.heap.size) (hg : wnt n l ops o = true)
    (hk : ∀ v' w', w'.ownsRow N 2 1 v' (q + m) (xs ++ news) → AppW v w w' → (v'.ownBlock = v.ownBlock ∨ v'.ownBlock = some w.heap.size) → WL Try.prog ops Q rest n (ext l o.dst v') w') : WL Try.prog ops Q (o :: rest) n l w := by
  obtain ⟨v', w', hr, h2, h3, h4⟩ := app26 w o.type N v q xs hown k m c news hl hA h1 hm hn hN
  refine ⟨l_step hg (o_val v' (w' := w') ?_ (hk v' w' h2 h3 h4).out)⟩
  unfold execOp
  simp only [ho, resolve, invoke, builtin, Sem.run_bind, Sem.run_pure, Result.andThen_ok, List.map_toArray, List.map_cons, List.map_nil, hs, hx, hr]
end
theorem AppW.refl (v : Value) (w : World) : AppW v w w.drew := ⟨rfl, rfl, rfl, Nat.le_refl _, fun _ _ _ => rfl, fun _ => rfl⟩
theorem AppW.trans {v : Value} {a b c : World} (h : AppW v a b) (k : AppW v b c) : AppW v a c :=
  ⟨k.os.trans h.os, k.tape.trans h.tape, k.output.trans h.output, Nat.le_trans h.size k.size, fun j hj hn => (k.block j (Nat.lt_of_lt_of_le hj h.size) hn).trans (h.block j hj hn), fun a => (k.fz a).trans (h.fz a)⟩
theorem AppW.grow {v : Value} {a b c : World} (h : AppW v a b) (k : Mo b c) : AppW v a c :=
  ⟨k.1.os.trans h.os, k.1.tape.trans h.tape, k.1.output.trans h.output, Nat.le_trans h.size k.size, fun j hj hn => (k.1.block j (Nat.lt_of_lt_of_le hj h.size)).trans (h.block j hj hn), fun a => (k.2 a).trans (h.fz a)⟩
end Go.Proofs.Ytbmbldloeblbbaa
