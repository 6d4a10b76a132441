/-
  A region that draws, whose operations may tell of what they yield. A region that draws its order, with an invariant that knows what has come up. Slices of slices of whole numbers, of one's own.
-/
import Derived.Test.YthghblgbjgghcaaPa
namespace Go.Proofs.Ythghblgbjgghcaa
open Go.RowKit

def spQ (sp : List (Value → World → Prop)) (j : Nat) : Value → World → Prop := (sp[j]?).getD (fun _ _ => True)
/-- What is said holds of each greater world. -/
def Smo (p : Value → World → Prop) : Prop := ∀ u w w', p u w → Mo w w' → p u w'
def Smos (sp : List (Value → World → Prop)) : Prop := ∀ j, Smo (spQ sp j)
theorem smos_nil : Smos [] := fun _ _ _ _ _ _ => trivial
theorem smos_cons {p : Value → World → Prop} {sp : List (Value → World → Prop)} (h : Smo p) (hs : Smos sp) : Smos (p :: sp) := fun j => by
  cases j with
  | zero => exact h
  | succ j => have := hs j; unfold spQ at this ⊢; simpa using this
/-- It is this value. -/
def vq (v : Value) : Value → World → Prop := fun u _ => u = v
theorem smo_vq (v : Value) : Smo (vq v) := fun _ _ _ h _ => h
section
variable {P : Program} {n : Nat} {l : List (Nat × Value)} {w : World} {Q : Exit → Act → World → Prop}
structure OgC (P : Program) (ops : List Oper) (Q : Exit → Act → World → Prop) (n : Nat) (l : List (Nat × Value)) (m : Nat) (G : World → Prop) (sp : List (Value → World → Prop)) (i : Nat) (o : Oper) : Prop where
  out : ∀ f w, G w → (∀ j, depb o j = true → spQ sp j (f j) w) → ∀ K : Act → World → Prop,
    (∀ v w', G w' → spQ sp i v w' → (∀ j u, j ≠ i → spQ sp j u w → spQ sp j u w') → K (fr n (ext (asg f 0 (ops.take m) l) o.dst v)) w') →
    Go1 P ops Q n (asg f 0 (ops.take m) l) w K o
/-- What a late one yields, in whatever world. -/
def LateC (P : Program) (ops : List Oper) (Q : Exit → Act → World → Prop) (n : Nat) (l : List (Nat × Value)) (m : Nat) (sp : List (Value → World → Prop)) (i : Nat) : Prop :=
  ∃ o v, ops[i]? = some o ∧ spQ sp i = vq v ∧ (∀ u c a w, Q (.panic c) (a.put o.dst u) w → Q (.panic c) a w) ∧
    ∀ f, (∀ j, depb o j = true → ∀ u, spQ sp j = vq u → f j = u) → wnt n (asg f 0 (ops.take m) l) ops.toArray o = true ∧ ∀ w, (execOp (evl n (asg f 0 (ops.take m) l)) o).run P w = .ok (.value v) w
theorem a_ogc {ops : List Oper} (m : Nat) (G : World → Prop) (sp : List (Value → World → Prop)) (fs : List Nat) 
    (hb : edgesBack .any ops.toArray = true) (hd : dstsApart (ops.take m) = true) (hc : chainB ops m fs = true) (hl : Nat.ble m ops.length = true) (hf : floatB ops m fs = true) (hns : Region.noSelect ops.toArray = true)
    (hlate : ∀ i, i ∈ fs → LateC P ops Q n l m sp i) (hG : G w.drew) (hs : Each (OgC P ops Q n l m G sp) 0 (ops.take m))
    (hend : ∀ f w', G w' → (∀ i, Nat.blt i m = true → spQ sp i (f i) w') → WL P ops.toArray Q (ops.drop m) n (asg f 0 (ops.take m) l) w') : wpAny P .any ops.toArray Q ops.toArray.size (Array.replicate ops.toArray.size false) (fr n l) w.drew := by
  have hml : m ≤ ops.length := Nat.le_of_ble_eq_true hl
  have hfm : ∀ i, i ∈ fs → i < m := fun i hi => by
    have := List.all_eq_true.1 hf i hi
    simp only [Bool.and_eq_true] at this
    rw [Nat.blt_eq] at this; exact this.1
  have hfs : ∀ j, m ≤ j → fs.contains j = false := fun j hj => by
    cases e : fs.contains j with
    | false => rfl
    | true => have := hfm j (by simpa using e); omega
  -- all that are not late have come up: the late ones first, then the last part
  have second : ∀ (d fuel : Nat) (listed : Array Bool) (f : Nat → Value) (w : World), listed.toList.count false = (ops.length - m) + d → (ops.length - m) + d ≤ fuel → listed.size = ops.length → Shut ops listed → (∀ j, m ≤ j → j < ops.length → listed.getD j true = false) →
      (∀ j, j < m → fs.contains j = false → listed.getD j true = true) → G w → (∀ i, i < m → listed.getD i false = true → spQ sp i (f i) w) → wpAny P .any ops.toArray Q fuel listed (putAll f 0 (ops.take m) (fr n l)) w := by
    intro d
    induction d with
    | zero =>
      intro fuel listed f w hcnt hfu hz hsh hun hall hW hR
      have hall2 : ∀ j, j < m → listed.getD j true = true := fun j hj => by
        cases e : listed.getD j true with
        | true => rfl
        | false =>
          exfalso
          have h1 : (listed.toList.drop m).count false = ops.length - m := by
            have h2 : listed.toList.drop m = List.replicate (ops.length - m) false := by
              apply List.ext_getElem
              · simp [hz]
              · intro j h3 h4
                simp at h3
                have := hun (m + j) (by omega) (by omega)
                have h5 : m + j < listed.size := by omega
                simpa [h5] using this
            rw [h2]; simp
          have h3 := List.take_append_drop m listed.toList
          have h4 : 0 < (listed.toList.take m).count false := by
            apply List.count_pos_iff.2
            have hjs : j < listed.size := by omega
            simp [hjs] at e
            rw [List.mem_iff_getElem]
            exact ⟨j, by simp; omega, by simp [e]⟩
          rw [← h3, List.count_append] at hcnt
          omega
      refine wpAny_chain hfs hc hb (ops.length - m) m _ listed _ w (by omega) (Nat.le_refl _) (by omega) hz hsh (fun j hj => ?_) ?_
      · rcases Nat.lt_or_ge j m with h | h
        · rw [hall2 j h]; simp [h]
        · rw [hun j h hj]; simp [Nat.not_lt.2 h]
      · rw [putAll_fr]
        exact (hend f w hW (fun i hi => by
          have hi' : i < m := by rw [Nat.blt_eq] at hi; exact hi
          refine hR i hi' ?_
          have h1 := hall2 i hi'
          have h2 : i < listed.size := by omega
          simpa [h2] using h1)).out
    | succ d ih =>
      intro fuel listed f w hcnt hfu hz hsh hun hall hW hR
      -- a late one that has not come up: the first
      have hex : ∃ i, i < m ∧ listed.getD i true = false := by
        apply Classical.byContradiction
        intro hno
        have hall2 : ∀ j, j < m → listed.getD j true = true := fun j hj => by
          cases e : listed.getD j true with
          | true => rfl
          | false => exact absurd ⟨j, hj, e⟩ hno
        have h3 := List.take_append_drop m listed.toList
        have h4 : (listed.toList.take m).count false = 0 := by
          rw [List.count_eq_zero]
          intro hmem
          rw [List.mem_iff_getElem] at hmem
          obtain ⟨j, hj, e⟩ := hmem
          simp at hj e
          have hj1 : j < m := by omega
          have hj2 : j < listed.size := by omega
          have := hall2 j hj1
          simp [hj2] at this
          rw [this] at e; cases e
        have h5 : (listed.toList.drop m).count false ≤ ops.length - m := by
          have := List.count_le_length (a := false) (l := listed.toList.drop m)
          simp [hz] at this; exact this
        rw [← h3, List.count_append] at hcnt
        omega
      obtain ⟨i, ⟨him, hiu⟩, hmin⟩ := exists_least0 hex
      have hif : i ∈ fs := by
        cases e : fs.contains i with
        | true => simpa using e
        | false => have := hall i him e; rw [hiu] at this; cases this
      obtain ⟨o, v, ho, hv, hQ, hy⟩ := hlate i hif
      have hdep : ∀ e ∈ o.after, Region.binds .any e = true → listed.getD e.on false = true := fun e he hbd => by
        have hlt := edgesBack_spec hb (i := i) (o := o) (by simpa using ho) e he hbd
        have h1 : listed.getD e.on true = true := by
          cases ee : listed.getD e.on true with
          | true => rfl
          | false => have := hmin e.on ⟨by omega, ee⟩; omega
        have h2 : e.on < listed.size := by omega
        simpa [h2] using h1
      have hval : ∀ j, depb o j = true → ∀ u, spQ sp j = vq u → f j = u := fun j hj u hu => by
        obtain ⟨e, he, hb'⟩ := List.any_eq_true.1 hj
        simp only [Bool.and_eq_true] at hb'
        have heon := Nat.eq_of_beq_eq_true hb'.2
        have hj' := hdep e (by simpa using he) hb'.1
        have hlt := edgesBack_spec hb (i := i) (o := o) (by simpa using ho) e (by simpa using he) hb'.1
        rw [heon] at hj' hlt
        have := hR j (by omega) hj'
        rw [hu] at this
        exact this
      obtain ⟨hw1, hw2⟩ := hy f hval
      cases fuel with
      | zero => omega
      | succ fuel =>
        refine wpAny_first (i := i) (oi := o) (v := v) (by simpa using ho) (Region.noSelect_spec hns) (hQ v) fuel listed _ w ?_ ?_ ?_ ?_
        · intro j oj hoj hji hju hno
          have hjl : j < ops.length := by have := (Array.getElem?_eq_some_iff.1 hoj).1; simpa using this
          have h1 := List.all_eq_true.1 hf i hif
          simp only [Bool.and_eq_true, ho] at h1
          have h2 := List.all_eq_true.1 h1.2 j (List.mem_range.2 hjl)
          have hoj' : ops[j]? = some oj := by simpa using hoj
          simp only [hoj', Bool.or_eq_true, Bool.and_eq_true, Bool.not_eq_true'] at h2
          rcases h2 with (h2 | h2) | h2 | h2
          · exact absurd (Nat.eq_of_beq_eq_true h2) hji
          · have := hall j (by have := h2.1; rw [Nat.blt_eq] at this; exact this) h2.2
            rw [this] at hju; cases hju
          · obtain ⟨e, he, hb'⟩ := List.any_eq_true.1 h2
            simp only [Bool.and_eq_true] at hb'
            exact absurd (Nat.eq_of_beq_eq_true hb'.2) (hno e (by simpa using he) hb'.1)
          · exact h2
        · exact mem_ready.2 ⟨hiu, o, by simpa using ho, hdep⟩
        · rw [putAll_fr]
          exact Or.inl ⟨by rw [fr_wanted]; exact hw1, fun w => by rw [fr_eval]; exact hw2 w⟩
        · have hot : (ops.take m)[i]? = some o := by rw [List.getElem?_take_of_lt him]; exact ho
          have hp := putAll_put v (ops.take m) 0 f (fr n l) hd i o hot
          rw [Nat.zero_add] at hp
          rw [hp]
          have h1 : listed.toList[i]? = some false := by
            have h' : i < listed.size := by omega
            simp [h'] at hiu; simp [h', hiu]
          have hcs := count_set _ _ h1
          refine ih fuel _ (upd f i v) w ?_ (by omega) (by simpa using hz) (hsh.step ho hdep) (fun j h1 h2 => ?_) (fun j h1 h2 => ?_) hW (fun j hj hlj => ?_)
          · simp only [Array.toList_setIfInBounds]; omega
          · rw [getD_set_ne true (by omega)]; exact hun j h1 h2
          · have hij : i ≠ j := by intro e; subst e; have : fs.contains i = true := by simpa using hif
                                   rw [this] at h2; cases h2
            rw [getD_set_ne true hij]; exact hall j h1 h2
          · by_cases e : j = i
            · subst e; rw [hv]; simp [upd, vq]
            · rw [getD_set_ne false (Ne.symm e)] at hlj
              have := hR j hj hlj
              simpa [upd, e] using this
  have main : ∀ (fuel : Nat) (listed : Array Bool) (f : Nat → Value) (w : World), listed.toList.count false ≤ fuel → listed.size = ops.length → Shut ops listed → (∀ j, m ≤ j → j < ops.length → listed.getD j true = false) →
      G w → (∀ i, i < m → listed.getD i false = true → spQ sp i (f i) w) → wpAny P .any ops.toArray Q fuel listed (putAll f 0 (ops.take m) (fr n l)) w := by
    intro fuel
    induction fuel with
    | zero =>
      intro listed f w hcnt hz hsh hun hW hR
      refine wpAny_chain hfs hc hb (ops.length - m) m 0 listed _ w (by omega) (Nat.le_refl _) ?_ hz hsh ?_ ?_
      · rcases Nat.lt_or_ge m ops.length with h | h
        · exfalso
          have h1 := hun m (Nat.le_refl _) h
          have h2 : m < listed.size := by omega
          have : false ∈ listed.toList := by simp [h2] at h1; rw [← h1]; simp
          have := List.count_pos_iff.2 this
          omega
        · omega
      · intro j hj
        have h2 : j < listed.size := by omega
        have h3 : listed.getD j true = true := by
          cases e : listed.getD j true with
          | true => rfl
          | false =>
            have : false ∈ listed.toList := by simp [h2] at e; rw [← e]; simp
            have := List.count_pos_iff.2 this
            omega
        rcases Nat.lt_or_ge j m with h | h
        · rw [h3]; simp [h]
        · rw [hun j h hj] at h3; cases h3
      · rw [putAll_fr]
        refine (hend f w hW (fun i hi => hR i (by rw [Nat.blt_eq] at hi; exact hi) ?_)).out
        have hi' : i < m := by rw [Nat.blt_eq] at hi; exact hi
        have h2 : i < listed.size := by omega
        cases e : listed.getD i false with
        | true => rfl
        | false =>
          have : false ∈ listed.toList := by simp [h2] at e; rw [← e]; simp
          have := List.count_pos_iff.2 this
          omega
    | succ fuel ih =>
      intro listed f w hcnt hz hsh hun hW hR
      by_cases hall : ∀ j, j < m → fs.contains j = false → listed.getD j true = true
      · have hge : ops.length - m ≤ listed.toList.count false := by
          have h1 : (listed.toList.drop m).count false = ops.length - m := by
            have h2 : listed.toList.drop m = List.replicate (ops.length - m) false := by
              apply List.ext_getElem
              · simp [hz]
              · intro j h3 h4
                simp at h3
                have := hun (m + j) (by omega) (by omega)
                have h5 : m + j < listed.size := by omega
                simpa [h5] using this
            rw [h2]; simp
          have h3 := List.take_append_drop m listed.toList
          rw [← h3, List.count_append]
          omega
        exact second (listed.toList.count false - (ops.length - m)) _ listed f w (by omega) (by omega) hz hsh hun hall hW hR
      · obtain ⟨u, hum, huf, hu⟩ : ∃ u, u < m ∧ fs.contains u = false ∧ listed.getD u true = false := by
          rcases Classical.not_forall.1 hall with ⟨u, h⟩
          rcases Classical.not_imp.1 h with ⟨h1, h2⟩
          rcases Classical.not_imp.1 h2 with ⟨h3, h4⟩
          exact ⟨u, h1, h3, by cases e : listed.getD u true with | true => exact absurd e h4 | false => rfl⟩
        have hne : Region.ready .any ops.toArray listed ≠ [] := fun hr => by
          have := all_listed hb hr u (by simp; omega)
          rw [hu] at this; cases this
        refine ⟨fun h0 => absurd h0 hne, fun i hi => ?_⟩
        obtain ⟨h0, o, ho, hdep⟩ := mem_ready.1 hi
        have hoi : ops[i]? = some o := by simpa using ho
        have hilt : i < ops.length := (List.getElem?_eq_some_iff.1 hoi).1
        have him : i < m := by
          rcases Nat.lt_or_ge i m with h | h
          · exact h
          · exfalso
            have h1 := chainB_spec hc hsh hoi h hdep u (by omega) huf
            have h2 : u < listed.size := by omega
            simp [h2] at h1 hu
            rw [h1] at hu; cases hu
        have hot : (ops.take m)[i]? = some o := by rw [List.getElem?_take_of_lt him]; exact hoi
        have hstep := Each.spec (ops.take m) 0 hs i o hot
        rw [Nat.zero_add] at hstep
        have hcount : ((listed.setIfInBounds i true).toList.count false) ≤ fuel := by
          have h1 : listed.toList[i]? = some false := by
            have h' : i < listed.size := by omega
            simp [h'] at h0; simp [h', h0]
          have := count_set _ _ h1
          simp only [Array.toList_setIfInBounds]
          omega
        have hun' : ∀ j, m ≤ j → j < ops.length → (listed.setIfInBounds i true).getD j true = false := fun j h1 h2 => by
          rw [getD_set_ne true (by omega)]; exact hun j h1 h2
        have next : ∀ v w', G w' → spQ sp i v w' → (∀ j u, j ≠ i → spQ sp j u w → spQ sp j u w') → wpAny P .any ops.toArray Q fuel (listed.setIfInBounds i true) (putAll (upd f i v) 0 (ops.take m) (fr n l)) w' := fun v w' hg hden hot' => by
          refine ih _ _ w' hcount (by simpa using hz) (hsh.step hoi hdep) hun' hg (fun j hj hlj => ?_)
          by_cases e : j = i
          · subst e; simpa [upd] using hden
          · rw [getD_set_ne false (Ne.symm e)] at hlj
            have := hot' j (f j) e (hR j hj hlj)
            simpa [upd, e] using this
        have put : ∀ v, fr n (ext (asg f 0 (ops.take m) l) o.dst v) = putAll (upd f i v) 0 (ops.take m) (fr n l) := fun v => by
          have := putAll_put v (ops.take m) 0 f (fr n l) hd i o hot
          rw [Nat.zero_add] at this
          rw [← this, putAll_fr, fr_put]
        refine wpOp_step ho (fun K hK => ?_)
        rw [putAll_fr, fr_wanted]
        have hh := (hstep.out f w hW (fun j hj => by
          obtain ⟨e, he, hb'⟩ := List.any_eq_true.1 hj
          simp only [Bool.and_eq_true] at hb'
          have heon := Nat.eq_of_beq_eq_true hb'.2
          have hj' := hdep e (by simpa using he) hb'.1
          have hlt := edgesBack_spec hb ho e (by simpa using he) hb'.1
          rw [heon] at hj' hlt
          exact hR j (by omega) hj') K (fun v w' h1 h2 h3 => by rw [put]; exact hK _ _ (next v w' h1 h2 h3))).out
        rw [fr_put]
        rcases hh with ⟨h1, h2⟩ | ⟨h1, h2⟩
        · rw [h1]; exact h2.out
        · rw [h1]; exact h2
  have h0 : putAll (slots (fr n l) (ops.take m).toArray) 0 (ops.take m) (fr n l) = fr n l := putAll_self _ _ 0 _ (fun i o ho t ht => by simp only [Nat.zero_add, slots]; rw [show (ops.take m).toArray[i]? = some o by simpa using ho]; simp [ht])
  have := main ops.length (Array.replicate ops.length false) (slots (fr n l) (ops.take m).toArray) w.drew (by simp) (by simp) (Shut.start _ _) (fun j _ hj => by simp [hj]) hG (fun i _ hi => by
    exfalso
    rcases Nat.lt_or_ge i ops.length with h' | h' <;> simp [h'] at hi)
  rw [h0] at this
  simpa using this
theorem w_ogc {id : Nat} {ops : List Oper} (m : Nat) (G : World → Prop) (sp : List (Value → World → Prop)) (fs : List Nat) (hm : P.follows .mixedOrders = true)
    (hb : edgesBack .any ops.toArray = true) (hd : dstsApart (ops.take m) = true) (hc : chainB ops m fs = true) (hl : Nat.ble m ops.length = true) (hf : floatB ops m fs = true) (hns : Region.noSelect ops.toArray = true)
    (hlate : ∀ i, i ∈ fs → LateC P ops Q n l m sp i) (hG : G w.drew) (hs : Each (OgC P ops Q n l m G sp) 0 (ops.take m))
    (hend : ∀ f w', G w' → (∀ i, Nat.blt i m = true → spQ sp i (f i) w') → WL P ops.toArray Q (ops.drop m) n (asg f 0 (ops.take m) l) w') : WC P (Code.region id ops.toArray true) Q n l w :=
  ⟨wp_region_any hm (a_ogc m G sp fs hb hd hc hl hf hns hlate hG hs hend)⟩
theorem latec_nil {ops : List Oper} {m : Nat} {sp : List (Value → World → Prop)} : ∀ i, i ∈ ([] : List Nat) → LateC P ops Q n l m sp i := fun _ h => by cases h
theorem latec_cons {ops : List Oper} {m : Nat} {sp : List (Value → World → Prop)} {x : Nat} {r : List Nat} (h : LateC P ops Q n l m sp x) (hr : ∀ i, i ∈ r → LateC P ops Q n l m sp i) : ∀ i, i ∈ x :: r → LateC P ops Q n l m sp i := fun i hi => by
  rcases List.mem_cons.1 hi with rfl | hi
  · exact h
  · exact hr i hi
variable {o : Oper}
theorem oc_eq {ol : List Oper} {m : Nat} {G : World → Prop} {sp : List (Value → World → Prop)} {i : Nat} (v : Value) (hs : spQ sp i = vq v) (hg : ∀ w w', G w → Mo w w' → G w') (hm : Smos sp)
    (h : ∀ f w, G w → (∀ j, depb o j = true → spQ sp j (f j) w) → ∀ K : Act → World → Prop, (∀ w', Mo w w' → K (fr n (ext (asg f 0 (ol.take m) l) o.dst v)) w') → Go1 P ol Q n (asg f 0 (ol.take m) l) w K o) : OgC P ol Q n l m G sp i o :=
  ⟨fun f w hG hd K hK => h f w hG hd K (fun w' hmo => hK v w' (hg w w' hG hmo) (by rw [hs]; rfl) (fun j u _ hr => hm j u w w' hr hmo))⟩
end
end Go.Proofs.Ythghblgbjgghcaa
namespace Go.Proofs.Ythghblgbjgghcaa
open Go.RowKit
/-- Number i has come up, too. -/
def updB (L : Nat → Bool) (i : Nat) : Nat → Bool := fun j => if j = i then true else L j
section
variable {P : Program} {n : Nat} {l : List (Nat × Value)} {w : World} {Q : Exit → Act → World → Prop}
structure OgL (P : Program) (ops : List Oper) (Q : Exit → Act → World → Prop) (n : Nat) (l : List (Nat × Value)) (m : Nat) (G : (Nat → Bool) → (Nat → Value) → World → Prop) (sp : List (Value → World → Prop)) (i : Nat) (o : Oper) : Prop where
  out : ∀ L f w, G L f w → L i = false → (∀ j, depb o j = true → L j = true ∧ spQ sp j (f j) w) → ∀ K : Act → World → Prop,
    (∀ v w', G (updB L i) (upd f i v) w' → spQ sp i v w' → (∀ j u, j ≠ i → spQ sp j u w → spQ sp j u w') → K (fr n (ext (asg f 0 (ops.take m) l) o.dst v)) w') →
    Go1 P ops Q n (asg f 0 (ops.take m) l) w K o
theorem a_ogl {ops : List Oper} (m : Nat) (G : (Nat → Bool) → (Nat → Value) → World → Prop) (sp : List (Value → World → Prop))
    (hb : edgesBack .any ops.toArray = true) (hd : dstsApart (ops.take m) = true) (hc : chainB ops m [] = true) (hl : Nat.ble m ops.length = true)
    (hG : ∀ f, G (fun _ => false) f w.drew) (hs : Each (OgL P ops Q n l m G sp) 0 (ops.take m))
    (hend : ∀ L f w', (∀ i, Nat.blt i m = true → L i = true) → G L f w' → (∀ i, Nat.blt i m = true → spQ sp i (f i) w') → WL P ops.toArray Q (ops.drop m) n (asg f 0 (ops.take m) l) w') : wpAny P .any ops.toArray Q ops.toArray.size (Array.replicate ops.toArray.size false) (fr n l) w.drew := by
  have hml : m ≤ ops.length := Nat.le_of_ble_eq_true hl
  have hfs : ∀ j, m ≤ j → ([] : List Nat).contains j = false := fun _ _ => rfl
  have main : ∀ (fuel : Nat) (listed : Array Bool) (f : Nat → Value) (w : World), listed.toList.count false ≤ fuel → listed.size = ops.length → Shut ops listed → (∀ j, m ≤ j → j < ops.length → listed.getD j true = false) →
      G (fun j => listed.getD j false) f w → (∀ i, i < m → listed.getD i false = true → spQ sp i (f i) w) → wpAny P .any ops.toArray Q fuel listed (putAll f 0 (ops.take m) (fr n l)) w := by
    intro fuel
    induction fuel with
    | zero =>
      intro listed f w hcnt hz hsh hun hW hR
      have hall : ∀ j, j < m → listed.getD j false = true := fun i hi' => by
        have h2 : i < listed.size := by omega
        cases e : listed.getD i false with
        | true => rfl
        | false =>
          have : false ∈ listed.toList := by simp [h2] at e; rw [← e]; simp
          have := List.count_pos_iff.2 this
          omega
      refine wpAny_chain hfs hc hb (ops.length - m) m 0 listed _ w (by omega) (Nat.le_refl _) ?_ hz hsh ?_ ?_
      · rcases Nat.lt_or_ge m ops.length with h | h
        · exfalso
          have h1 := hun m (Nat.le_refl _) h
          have h2 : m < listed.size := by omega
          have : false ∈ listed.toList := by simp [h2] at h1; rw [← h1]; simp
          have := List.count_pos_iff.2 this
          omega
        · omega
      · intro j hj
        have h2 : j < listed.size := by omega
        rcases Nat.lt_or_ge j m with h | h
        · have := hall j h; simp [h2] at this ⊢; rw [this]; simp [h]
        · rw [hun j h hj]; simp [Nat.not_lt.2 h]
      · rw [putAll_fr]
        exact (hend _ f w (fun i hi => hall i (by rw [Nat.blt_eq] at hi; exact hi)) hW (fun i hi => hR i (by rw [Nat.blt_eq] at hi; exact hi) (hall i (by rw [Nat.blt_eq] at hi; exact hi)))).out
    | succ fuel ih =>
      intro listed f w hcnt hz hsh hun hW hR
      by_cases hall : ∀ j, j < m → listed.getD j true = true
      · have hge : ops.length - m ≤ listed.toList.count false := by
          have h1 : (listed.toList.drop m).count false = ops.length - m := by
            have h2 : listed.toList.drop m = List.replicate (ops.length - m) false := by
              apply List.ext_getElem
              · simp [hz]
              · intro j h3 h4
                simp at h3
                have := hun (m + j) (by omega) (by omega)
                have h5 : m + j < listed.size := by omega
                simpa [h5] using this
            rw [h2]; simp
          have h3 := List.take_append_drop m listed.toList
          rw [← h3, List.count_append]
          omega
        refine wpAny_chain hfs hc hb (ops.length - m) m _ listed _ w (by omega) (Nat.le_refl _) (by omega) hz hsh (fun j hj => ?_) ?_
        · rcases Nat.lt_or_ge j m with h | h
          · rw [hall j h]; simp [h]
          · rw [hun j h hj]; simp [Nat.not_lt.2 h]
        · rw [putAll_fr]
          have hall2 : ∀ i, Nat.blt i m = true → listed.getD i false = true := fun i hi => by
            have hi' : i < m := by rw [Nat.blt_eq] at hi; exact hi
            have h1 := hall i hi'
            have h2 : i < listed.size := by omega
            simpa [h2] using h1
          exact (hend _ f w hall2 hW (fun i hi => hR i (by rw [Nat.blt_eq] at hi; exact hi) (hall2 i hi))).out
      · obtain ⟨u, hum, hu⟩ : ∃ u, u < m ∧ listed.getD u true = false := by
          rcases Classical.not_forall.1 hall with ⟨u, h⟩
          rcases Classical.not_imp.1 h with ⟨h1, h4⟩
          exact ⟨u, h1, by cases e : listed.getD u true with | true => exact absurd e h4 | false => rfl⟩
        have hne : Region.ready .any ops.toArray listed ≠ [] := fun hr => by
          have := all_listed hb hr u (by simp; omega)
          rw [hu] at this; cases this
        refine ⟨fun h0 => absurd h0 hne, fun i hi => ?_⟩
        obtain ⟨h0, o, ho, hdep⟩ := mem_ready.1 hi
        have hoi : ops[i]? = some o := by simpa using ho
        have hilt : i < ops.length := (List.getElem?_eq_some_iff.1 hoi).1
        have him : i < m := by
          rcases Nat.lt_or_ge i m with h | h
          · exact h
          · exfalso
            have h1 := chainB_spec hc hsh hoi h hdep u (by omega) rfl
            have h2 : u < listed.size := by omega
            simp [h2] at h1 hu
            rw [h1] at hu; cases hu
        have hot : (ops.take m)[i]? = some o := by rw [List.getElem?_take_of_lt him]; exact hoi
        have hstep := Each.spec (ops.take m) 0 hs i o hot
        rw [Nat.zero_add] at hstep
        have hcount : ((listed.setIfInBounds i true).toList.count false) ≤ fuel := by
          have h1 : listed.toList[i]? = some false := by
            have h' : i < listed.size := by omega
            simp [h'] at h0; simp [h', h0]
          have := count_set _ _ h1
          simp only [Array.toList_setIfInBounds]
          omega
        have hun' : ∀ j, m ≤ j → j < ops.length → (listed.setIfInBounds i true).getD j true = false := fun j h1 h2 => by
          rw [getD_set_ne true (by omega)]; exact hun j h1 h2
        have hL : (fun j => (listed.setIfInBounds i true).getD j false) = updB (fun j => listed.getD j false) i := by
          funext j
          unfold updB
          by_cases e : j = i
          · subst e
            have h' : j < listed.size := by omega
            simp [h']
          · rw [if_neg e, getD_set_ne false (Ne.symm e)]
        have hi0 : listed.getD i false = false := by
          have h' : i < listed.size := by omega
          simp [h'] at h0 ⊢; exact h0
        have next : ∀ v w', G (updB (fun j => listed.getD j false) i) (upd f i v) w' → spQ sp i v w' → (∀ j u, j ≠ i → spQ sp j u w → spQ sp j u w') → wpAny P .any ops.toArray Q fuel (listed.setIfInBounds i true) (putAll (upd f i v) 0 (ops.take m) (fr n l)) w' := fun v w' hg hden hot' => by
          refine ih _ _ w' hcount (by simpa using hz) (hsh.step hoi hdep) hun' (by rw [hL]; exact hg) (fun j hj hlj => ?_)
          by_cases e : j = i
          · subst e; simpa [upd] using hden
          · rw [getD_set_ne false (Ne.symm e)] at hlj
            have := hot' j (f j) e (hR j hj hlj)
            simpa [upd, e] using this
        have put : ∀ v, fr n (ext (asg f 0 (ops.take m) l) o.dst v) = putAll (upd f i v) 0 (ops.take m) (fr n l) := fun v => by
          have := putAll_put v (ops.take m) 0 f (fr n l) hd i o hot
          rw [Nat.zero_add] at this
          rw [← this, putAll_fr, fr_put]
        refine wpOp_step ho (fun K hK => ?_)
        rw [putAll_fr, fr_wanted]
        have hh := (hstep.out _ f w hW hi0 (fun j hj => by
          obtain ⟨e, he, hb'⟩ := List.any_eq_true.1 hj
          simp only [Bool.and_eq_true] at hb'
          have heon := Nat.eq_of_beq_eq_true hb'.2
          have hj' := hdep e (by simpa using he) hb'.1
          have hlt := edgesBack_spec hb ho e (by simpa using he) hb'.1
          rw [heon] at hj' hlt
          exact ⟨hj', hR j (by omega) hj'⟩) K (fun v w' h1 h2 h3 => by rw [put]; exact hK _ _ (next v w' h1 h2 h3))).out
        rw [fr_put]
        rcases hh with ⟨h1, h2⟩ | ⟨h1, h2⟩
        · rw [h1]; exact h2.out
        · rw [h1]; exact h2
  have h0 : putAll (slots (fr n l) (ops.take m).toArray) 0 (ops.take m) (fr n l) = fr n l := putAll_self _ _ 0 _ (fun i o ho t ht => by simp only [Nat.zero_add, slots]; rw [show (ops.take m).toArray[i]? = some o by simpa using ho]; simp [ht])
  have hemp : (fun j => (Array.replicate ops.length false).getD j false) = (fun _ => false) := by
    funext j
    rcases Nat.lt_or_ge j ops.length with h' | h' <;> simp [h']
  have := main ops.length (Array.replicate ops.length false) (slots (fr n l) (ops.take m).toArray) w.drew (by simp) (by simp) (Shut.start _ _) (fun j _ hj => by simp [hj]) (by rw [hemp]; exact hG _) (fun i _ hi => by
    exfalso
    rcases Nat.lt_or_ge i ops.length with h' | h' <;> simp [h'] at hi)
  rw [h0] at this
  simpa using this
theorem w_ogl {id : Nat} {ops : List Oper} (m : Nat) (G : (Nat → Bool) → (Nat → Value) → World → Prop) (sp : List (Value → World → Prop)) (hm : P.follows .mixedOrders = true)
    (hb : edgesBack .any ops.toArray = true) (hd : dstsApart (ops.take m) = true) (hc : chainB ops m [] = true) (hl : Nat.ble m ops.length = true)
    (hG : ∀ f, G (fun _ => false) f w.drew) (hs : Each (OgL P ops Q n l m G sp) 0 (ops.take m))
    (hend : ∀ L f w', (∀ i, Nat.blt i m = true → L i = true) → G L f w' → (∀ i, Nat.blt i m = true → spQ sp i (f i) w') → WL P ops.toArray Q (ops.drop m) n (asg f 0 (ops.take m) l) w') : WC P (Code.region id ops.toArray true) Q n l w :=
  ⟨wp_region_any hm (a_ogl m G sp hb hd hc hl hG hs hend)⟩
variable {o : Oper}
/-- One that yields a value and only makes new blocks. -/
theorem ol_eq {ol : List Oper} {m : Nat} {G : (Nat → Bool) → (Nat → Value) → World → Prop} {sp : List (Value → World → Prop)} {i : Nat} (v : Value) (hs : spQ sp i = vq v) (hg : ∀ L f w w', G L f w → L i = false → Mo w w' → G (updB L i) (upd f i v) w') (hm : Smos sp)
    (h : ∀ L f w, G L f w → (∀ j, depb o j = true → spQ sp j (f j) w) → ∀ K : Act → World → Prop, (∀ w', Mo w w' → K (fr n (ext (asg f 0 (ol.take m) l) o.dst v)) w') → Go1 P ol Q n (asg f 0 (ol.take m) l) w K o) : OgL P ol Q n l m G sp i o :=
  ⟨fun L f w hG hi hd K hK => h L f w hG (fun j hj => (hd j hj).2) K (fun w' hmo => hK v w' (hg L f w w' hG hi hmo) (by rw [hs]; rfl) (fun j u _ hr => hm j u w w' hr hmo))⟩
end
theorem updB_ne {L : Nat → Bool} {i j : Nat} (h : j ≠ i) : updB L i j = L j := by unfold updB; rw [if_neg h]
theorem updB_eq {L : Nat → Bool} {i : Nat} : updB L i i = true := by unfold updB; rw [if_pos rfl]
theorem upd_ne {f : Nat → Value} {i j : Nat} {v : Value} (h : j ≠ i) : upd f i v j = f j := by unfold upd; rw [if_neg h]
theorem upd_eq {f : Nat → Value} {i : Nat} {v : Value} : upd f i v i = v := by unfold upd; rw [if_pos rfl]
section
variable {o : Oper} {n : Nat} {l : List (Nat × Value)} {w : World} {Q : Exit → Act → World → Prop} {K : Act → World → Prop}
theorem wo_apG {st et sz bys : Nat} {zv : Value} {α : Type} {cells : α → List Value} (hst : Try.prog.underlying st = some (.slice et)) (hin : ∃ i, Try.prog.info? et = some i ∧ i.zero = some zv ∧ i.size = sz ∧ i.bytes = bys) (hzs : zv.cells.size = sz) (hsz : 0 < sz) (hby : bys ≤ 24)
    (s x : Operand) {N : Nat} {pv : Option Addr} {cv : Nat} {L : List α} {y : α} (kb : Nat) (ho : o.op = .call { callee := .builtin .append, args := #[s, x], argTypes := #[st, st] }) (hs : evl n l s = .slice pv L.length cv) (hx : evl n l x = .slice (some ⟨kb, 0, none⟩) 1 1)
    (h : Ow N et sz cells w pv cv L) (hl : (cells y).length = sz) (h1 : ∀ u ∈ cells y, u.oneCell' = true) (hA : At w kb (cells y)) (hz : L.length < 4000000) (hN : N ≤ w.heap.size)
    (hk : ∀ pv2 cv2 w', Ow N et sz cells w' pv2 cv2 (L ++ [y]) → Mk (fun j => obk pv L.length cv = some j) w w' → (obk pv2 (L ++ [y]).length cv2 = obk pv L.length cv ∨ obk pv2 (L ++ [y]).length cv2 = some w.heap.size) → K (fr n (ext l o.dst (.slice pv2 (L ++ [y]).length cv2))) w') : WO Try.prog o n l w K Q := by
  obtain ⟨v', w', hr, h2, h3, h4⟩ := appG hst hin hzs hsz w o.type N (.slice pv L.length cv) L.length (L.flatMap cells) h kb 1 1 (cells y) (by rw [hl]; omega) hA h1 (by decide) (by unfold maxLen; omega) (by have h9 : (L.length + 1) * bys ≤ 4000000 * 24 := Nat.mul_le_mul (by omega) hby; omega) hN
  have e : (L ++ [y]).length = L.length + 1 := by simp
  have e2 : (L ++ [y]).flatMap cells = L.flatMap cells ++ cells y := by simp
  obtain ⟨pv2, cv2, rfl, _⟩ := own_form h2
  rw [← e] at h2 h4
  rw [← e2] at h2
  refine ⟨o_val (.slice pv2 (L.length + 1) cv2) (w' := w') ?_ (by have := hk pv2 cv2 w' h2 h3 h4; rw [e] at this; exact this)⟩
  unfold execOp
  simp only [ho, resolve, invoke, builtin, Sem.run_bind, Sem.run_pure, Result.andThen_ok, List.map_toArray, List.map_cons, List.map_nil, hs, hx, hr]
theorem wo_bs (ty : TypeId) (m : Nat) (xs : List (Nat × Operand)) (ps : List (Nat × Value)) (cs : Array Value) (e : TypeId) (ho : o.op = .buildSlice ty m xs.toArray) (hx : xs.map (fun p => (p.1, evl n l p.2)) = ps)
    (h : ∀ w, (Instr.buildSlice ty m ps.toArray).run Try.prog w = .ok (.slice (some ⟨w.heap.size, 0, none⟩) m m) (w.alloc (.cells cs e)))
    (hk : ∀ k w', w.heap.size = k → w'.heap.size = k + 1 → Mo w w' → At w' k cs.toList → K (fr n (ext l o.dst (.slice (some ⟨k, 0, none⟩) m m))) w') : WO Try.prog o n l w K Q := by
  subst hx
  refine ⟨o_val (.slice (some ⟨w.heap.size, 0, none⟩) m m) (w' := w.alloc (.cells cs e)) ?_ (hk _ _ rfl (by simp) ((Mo.refl _).alloc _ _) (At.new w cs e))⟩
  simp [execOp, ho, h]
end
/-- A slice built in the region, of one element. -/
def bsq (W : World) (cs : List Value) : Value → World → Prop := fun v w => ∃ k, v = .slice (some ⟨k, 0, none⟩) 1 1 ∧ W.heap.size ≤ k ∧ At w k cs
theorem smo_bsq (W : World) (cs : List Value) : Smo (bsq W cs) := fun _ _ _ ⟨k, h1, h2, h3⟩ m => ⟨k, h1, h2, h3.mo m⟩
/-- What an append has made of a slice of one's own. -/
def apq (W : World) (N et sz : Nat) {α : Type} (cells : α → List Value) (pv : Option Addr) (cv : Nat) (L : List α) (y : α) : Value → World → Prop := fun v w => ∃ pv2 cv2, v = .slice pv2 (L ++ [y]).length cv2 ∧ Ow N et sz cells w pv2 cv2 (L ++ [y]) ∧ ∀ k, obk pv2 (L ++ [y]).length cv2 = some k → obk pv L.length cv = some k ∨ W.heap.size ≤ k
theorem smo_apq (W : World) (N et sz : Nat) {α : Type} (cells : α → List Value) (pv : Option Addr) (cv : Nat) (L : List α) (y : α) : Smo (apq W N et sz cells pv cv L y) := fun _ _ _ ⟨p, c, h1, h2, h3⟩ m => ⟨p, c, h1, own_mo h2 m, h3⟩
/-- The world while one appends: till then only new blocks; and always only the slice's own block is written. -/
def apG (W : World) (a : Nat) (pv : Option Addr) (n cv : Nat) : (Nat → Bool) → (Nat → Value) → World → Prop := fun L _ w => (L a = false → Mo W w) ∧ Mk (fun j => obk pv n cv = some j) W w
theorem apG_mo {W : World} {a : Nat} {pv : Option Addr} {n cv : Nat} {i : Nat} {v : Value} (hi : i ≠ a) : ∀ L f w w', apG W a pv n cv L f w → L i = false → Mo w w' → apG W a pv n cv (updB L i) (upd f i v) w' := fun L _ w w' h _ m => ⟨fun e => (h.1 (by rw [updB_ne (Ne.symm hi)] at e; exact e)).trans m, h.2.trans m⟩
section
variable {n : Nat} {l : List (Nat × Value)} {Q : Exit → Act → World → Prop} {o : Oper}
theorem ol_bs {ol : List Oper} {m a i : Nat} {W : World} {pv : Option Addr} {q cv : Nat} {sp : List (Value → World → Prop)} (cs : List Value) (hs : spQ sp i = bsq W cs) (hi : i ≠ a) (hm : Smos sp)
    (h : ∀ L f w, apG W a pv q cv L f w → (∀ j, depb o j = true → spQ sp j (f j) w) → ∀ K : Act → World → Prop, (∀ k w', w.heap.size = k → Mo w w' → At w' k cs → K (fr n (ext (asg f 0 (ol.take m) l) o.dst (.slice (some ⟨k, 0, none⟩) 1 1))) w') → Go1 Try.prog ol Q n (asg f 0 (ol.take m) l) w K o) : OgL Try.prog ol Q n l m (apG W a pv q cv) sp i o :=
  ⟨fun L f w hG hi' hd K hK => h L f w hG (fun j hj => (hd j hj).2) K (fun k w' hk hmo hA => hK _ w' (apG_mo hi L f w w' hG hi' hmo) (by rw [hs]; exact ⟨k, rfl, by have := hG.2.size; omega, hA⟩) (fun j u _ hr => hm j u w w' hr hmo))⟩
/-- The append itself. -/
theorem ol_ap {ol : List Oper} {m a : Nat} {W : World} {N et sz : Nat} {α : Type} {cells : α → List Value} {pv : Option Addr} {cv : Nat} {L : List α} {y : α} {sp : List (Value → World → Prop)} (hs : spQ sp a = apq W N et sz cells pv cv L y) (hW : Ow N et sz cells W pv cv L)
    (hoth : ∀ j, j ≠ a → (∃ v, spQ sp j = vq v) ∨ (∃ cs, spQ sp j = bsq W cs) ∨ spQ sp j = fun _ _ => True)
    (h : ∀ f w, Mo W w → (∀ j, depb o j = true → spQ sp j (f j) w) → ∀ K : Act → World → Prop, (∀ pv2 cv2 w', Ow N et sz cells w' pv2 cv2 (L ++ [y]) → Mk (fun j => obk pv L.length cv = some j) w w' → (obk pv2 (L ++ [y]).length cv2 = obk pv L.length cv ∨ obk pv2 (L ++ [y]).length cv2 = some w.heap.size) → K (fr n (ext (asg f 0 (ol.take m) l) o.dst (.slice pv2 (L ++ [y]).length cv2))) w') → Go1 Try.prog ol Q n (asg f 0 (ol.take m) l) w K o) : OgL Try.prog ol Q n l m (apG W a pv L.length cv) sp a o :=
  ⟨fun B f w hG hi hd K hK => h f w (hG.1 hi) (fun j hj => (hd j hj).2) K (fun pv2 cv2 w' h1 h2 h3 => by
    have hmo := hG.1 hi
    refine hK _ w' ⟨fun e => (by rw [updB_eq] at e; cases e), hG.2.same h2⟩ (by rw [hs]; refine ⟨pv2, cv2, rfl, h1, fun k e => ?_⟩; rcases h3 with q | q; exact Or.inl (q ▸ e); rw [q] at e; cases e; exact Or.inr hmo.size) (fun j u hj hr => ?_)
    rcases hoth j hj with ⟨v, e⟩ | ⟨cs, e⟩ | e
    · rw [e] at hr ⊢; exact hr
    · rw [e] at hr ⊢
      obtain ⟨k, q1, q2, q3⟩ := hr
      exact ⟨k, q1, q2, h2.at q3 (fun e2 => by have := (own_lt hW e2).1; omega)⟩
    · rw [e]; trivial)⟩
end
end Go.Proofs.Ythghblgbjgghcaa
namespace Go.Proofs.Ythghblgbjgghcaa
open Go.RowKit D
abbrev Iz.b (x : Iz) : Option Nat := obk x.pa x.L.length x.cap
/-- Slices of one's own, none of which shares its block with another one. -/
structure Vs (N : Nat) (w : World) (kb : Nat) (V : List Iz) : Prop where
  ob : Ob w kb 32 (V.map Iz.v)
  ow : ∀ x ∈ V, Ow N 3 1 ic w x.pa x.cap x.L
  ap : ∀ (i j : Nat) (x y : Iz), i ≠ j → V[i]? = some x → V[j]? = some y → ∀ k, x.b = some k → y.b ≠ some k
variable {N : Nat} {w w' : World} {kb : Nat} {V : List Iz}
theorem Vs.kk {D : Nat → Prop} (h : Vs N w kb V) (m : Mk D w w') (h1 : ¬ D kb) (h2 : ∀ x ∈ V, ∀ k, x.b = some k → ¬ D k) : Vs N w' kb V :=
  ⟨h.ob.mk m h1, fun x hx => own_mk (h.ow x hx) m (fun k e => h2 x hx k e), h.ap⟩
theorem Vs.mo (h : Vs N w kb V) (m : Mo w w') : Vs N w' kb V := h.kk (Mk.of (fun _ => False) m) (fun e => e) (fun _ _ _ _ e => e)
theorem Vs.b3 (h : Vs N w kb V) {x : Iz} (hx : x ∈ V) {k : Nat} (e : x.b = some k) : Ty w k 3 := own_ty (h.ow x hx) e
theorem Vs.sl (h : Vs N w kb V) (hz : V.length ≤ maxLen) : SL w 1 zc (some ⟨kb, 0, none⟩) V := SL.of_at (cells := zc) (fun _ => rfl) hz (by
  have := h.ob.at
  rw [show V.flatMap zc = V.map Iz.v by clear h hz this; induction V <;> simp_all]
  exact this)
theorem Vs.nil (hO : Ob w kb 32 (List.replicate (List.length V) (.slice none 0 0))) (hV : V = List.replicate V.length ⟨none, 0, []⟩) : Vs N w kb V := by
  have hm : ∀ x ∈ V, x = ⟨none, 0, []⟩ := fun x hx => by rw [hV] at hx; exact (List.mem_replicate.1 hx).2
  refine ⟨?_, fun x hx => ?_, fun i j x y _ hi _ k e => ?_⟩
  · have e : V.map Iz.v = List.replicate V.length (.slice none 0 0) := by
      rw [List.eq_replicate_iff]
      refine ⟨by simp, fun b hb => ?_⟩
      obtain ⟨x, hx, rfl⟩ := List.mem_map.1 hb
      rw [hm x hx]; rfl
    rw [e]; exact hO
  · rw [hm x hx]; exact Ow.nil _ _ _ _ _
  · rw [hm x (List.mem_of_getElem? hi)] at e; cases e
/-- One more behind one of them: the append, then the store. -/
theorem Vs.app (h : Vs N w kb V) {u u' : World} {j : Nat} {x : Iz} {y : Nat} (hx : V[j]? = some x) {pv : Option Addr} {cv : Nat} (m1 : Mk (fun k => x.b = some k) w u) (h1 : Ow N 3 1 ic u pv cv (x.L ++ [y])) (h2 : ∀ k, obk pv (x.L ++ [y]).length cv = some k → x.b = some k ∨ w.heap.size ≤ k)
    (m2 : Mk (fun k => k = kb) u u') (h3 : Ob u' kb 32 ((V.map Iz.v).set j (.slice pv (x.L ++ [y]).length cv))) : Vs N u' kb (V.set j ⟨pv, cv, x.L ++ [y]⟩) := by
  have hxm := List.mem_of_getElem? hx
  have hkb3 : ∀ k, Ty u k 3 → k ≠ kb := fun k hk e => by
    subst e
    have h9 : ¬ x.b = some k := fun e => by have := (h.b3 hxm e).two h.ob.ty; cases this
    have := hk.two ((h.ob.mk m1 h9).ty); cases this
  have old : ∀ (i : Nat) (z : Iz), i ≠ j → V[i]? = some z → Ow N 3 1 ic u' z.pa z.cap z.L := fun i z hi hz => by
    have a1 := own_mk (h.ow z (List.mem_of_getElem? hz)) m1 (fun k e e2 => h.ap i j z x hi hz hx k e e2)
    exact own_mk a1 m2 (fun k e => hkb3 k (own_ty a1 e))
  have new := own_mk h1 m2 (fun k e => hkb3 k (own_ty h1 e))
  have apn : ∀ (i : Nat) (z : Iz), i ≠ j → V[i]? = some z → ∀ k, z.b = some k → obk pv (x.L ++ [y]).length cv ≠ some k := fun i z hi hz k e e2 => by
    rcases h2 k e2 with q | q
    · exact h.ap i j z x hi hz hx k e q
    · have := (own_lt (h.ow z (List.mem_of_getElem? hz)) e).1; omega
  have hj := lt_of_get hx
  refine ⟨by rw [List.map_set]; exact h3, fun z hz => ?_, fun i i' z z' hii hz hz' k e => ?_⟩
  · obtain ⟨i, hi, e⟩ := List.mem_iff_getElem.1 hz
    by_cases q : i = j
    · subst q; rw [List.getElem_set_self] at e; subst e; exact new
    · rw [List.getElem_set_ne (Ne.symm q)] at e
      exact old i z q (by rw [List.getElem?_eq_getElem (by simpa using hi), e])
  · by_cases q : i = j
    · have q' : i' ≠ j := fun e => hii (q.trans e.symm)
      subst q
      rw [List.getElem?_set_self hj] at hz; cases hz
      rw [List.getElem?_set_ne (Ne.symm q')] at hz'
      exact fun e2 => apn i' z' q' hz' k e2 e
    · rw [List.getElem?_set_ne (Ne.symm q)] at hz
      by_cases q' : i' = j
      · subst q'; rw [List.getElem?_set_self hj] at hz'; cases hz'; exact apn i z q hz k e
      · rw [List.getElem?_set_ne (Ne.symm q')] at hz'; exact h.ap i i' z z' hii hz hz' k e
section
variable {P : Program} {o : Oper} {n : Nat} {l : List (Nat × Value)} {ops : Array Oper} {rest : List Oper} {Q : Exit → Act → World → Prop}
theorem wl_boxO (ty : TypeId) (x : Operand) (v : Value) (cs : List Value) (ho : o.op = .box ty x) (hx : evl n l x = v) (h : ∀ w, (Instr.box ty v).run P w = .ok (pt w.heap.size 0) (w.alloc (.cells cs.toArray ty))) (hg : wnt n l ops o = true) (hk : ∀ k w', w.heap.size = k → w'.heap.size = k + 1 → Mo w w' → Ob w' k ty cs → WL P ops Q rest n (ext l o.dst (pt k 0)) w') : WL P ops Q (o :: rest) n l w := by
  subst hx
  refine ⟨l_step hg (o_val (pt w.heap.size 0) (w' := w.alloc (.cells cs.toArray ty)) ?_ (hk _ _ rfl (by simp) ((Mo.refl _).alloc _ _) (Ob.new w cs ty)).out)⟩
  simp [execOp, ho, h]
theorem wl_stO (ty : TypeId) (x y : Operand) (k off : Nat) (v : Value) (t : TypeId) (vs us : List Value) (hA : Ob w k t vs) (ho : o.op = .store ty x y) (hd : o.dst = none) (hx : evl n l x = pt k off) (hy : evl n l y = v)
    (hl : Nat.blt off vs.length = true) (hi : (P.info? ty).map (·.size) = some 1) (hv : v.cells = #[v]) (h1 : v.oneCell' = true) (hu : us = vs.set off v) (hg : wnt n l ops o = true)
    (hk : ∀ w', Mk (fun j => j = k) w w' → Ob w' k t us → WL P ops Q rest n l w') : WL P ops Q (o :: rest) n l w :=
  wl_sti ty x y k off v t vs hA ho hd hx hy (by rw [Nat.blt_eq] at hl; exact hl) hi hv h1 hg (fun w' a b => hk w' a (hu ▸ b))
end
end Go.Proofs.Ythghblgbjgghcaa
