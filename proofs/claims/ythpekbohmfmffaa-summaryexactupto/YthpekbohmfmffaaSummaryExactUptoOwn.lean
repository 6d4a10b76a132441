/-
  For every slice of decimals and every decimal, where what is read is of bulk at most 1048576, exciselaw05.SummaryExact returns true, and its arguments read behind the call as they read before.
-/
import Derived.Test.YthpekbohmfmffaaOgs
import Derived.Deep.Slices
import Derived.JoinedCond
import Derived.Carry
import Derived.ChangeMaps5
import Derived.Test.YthpekbohmfmffaaU6
/-
  A region that draws its order: a first part in any order, the last part a chain; what is appended to a slice of one's own.
-/
namespace Go.Proofs.Ythpekbohmfmffaa
open Go.RowKit
section
variable {P : Program} {n : Nat} {l : List (Nat × Value)} {w : World} {Q : Exit → Act → World → Prop}
structure OgC (P : Program) (ops : List Oper) (Q : Exit → Act → World → Prop) (n : Nat) (l : List (Nat × Value)) (m : Nat) (G : World → Prop) (sp : List (Value → World → Prop)) (i : Nat) (o : Oper) : Prop where
  out : ∀ f w, G w → (∀ j, depb o j = true → spQ sp j (f j) w) → ∀ K : Act → World → Prop,
    (∀ v w', G w' → spQ sp i v w' → (∀ j u, j ≠ i → spQ sp j u w → spQ sp j u w') → K (fr n (ext (asg f 0 (ops.take m) l) o.dst v)) w') →
    Go1 P ops Q n (asg f 0 (ops.take m) l) w K o
/-- What a late one yields, in whatever world. -/
def LateC (P : Program) (ops : List Oper) (Q : Exit → Act → World → Prop) (n : Nat) (l : List (Nat × Value)) (m : Nat) (sp : List (Value → World → Prop)) (i : Nat) : Prop :=
  ∃ o v, ops[i]? = some o ∧ spQ sp i = vq v ∧ (∀ u c a w, Q (.panic c) (a.put o.dst u) w → Q (.panic c) a w) ∧
    ∀ f, (∀ j, depb o j = true → ∀ u, spQ sp j = vq u → f j = u) → wnt n (asg f 0 (ops.take m) l) ops.toArray o = true ∧ ∀ w, (execOp (evl n (asg f 0 (ops.take m) l)) o).run P w = .ok (.value v) w
theorem w_ogc {id : Nat} {ops : List Oper} (m : Nat) (G : World → Prop) (sp : List (Value → World → Prop)) (fs : List Nat) (hm : P.follows .mixedOrders = true)
    (hb : edgesBack .any ops.toArray = true) (hd : dstsApart (ops.take m) = true) (hc : chainB ops m fs = true) (hl : Nat.ble m ops.length = true) (hf : floatB ops m fs = true) (hns : Region.noSelect ops.toArray = true)
    (hlate : ∀ i, i ∈ fs → LateC P ops Q n l m sp i) (hG : G w.drew) (hs : Each (OgC P ops Q n l m G sp) 0 (ops.take m))
    (hend : ∀ f w', G w' → (∀ i, Nat.blt i m = true → spQ sp i (f i) w') → WL P ops.toArray Q (ops.drop m) n (asg f 0 (ops.take m) l) w') : WC P (Code.region id ops.toArray true) Q n l w := by
  refine ⟨?_⟩
  have hml : m ≤ ops.length := Nat.le_of_ble_eq_true hl
  have hfm : ∀ i, i ∈ fs → i < m := fun i hi => by
    have := List.all_eq_true.1 hf i hi
    simp only [Bool.and_eq_true] at this
    rw [Nat.blt_eq] at this; exact this.1
  have hfs : ∀ j, m ≤ j → fs.contains j = false := fun j hj => by
    cases e : fs.contains j with
    | false => rfl
    | true => have := hfm j (by simpa using e); omega
  refine wp_region_any hm ?_
  -- all that are not late have come up: the late ones first, then the last part
  have second : ∀ (d fuel : Nat) (listed : Array Bool) (f : Nat → Value) (w : World), listed.toList.count false = (ops.length - m) + d → (ops.length - m) + d ≤ fuel → listed.size = ops.length → Shut ops listed → (∀ j, m ≤ j → j < ops.length → listed.getD j true = false) →
      (∀ j, j < m → fs.contains j = false → listed.getD j true = true) → G w → (∀ i, i < m → listed.getD i false = true → spQ sp i (f i) w) → wpAny P .any ops.toArray Q fuel listed (putAll f 0 (ops.take m) (fr n l)) w := by
    intro d
    induction d with
    | zero =>
      intro fuel listed f w hcnt hfu hz hsh hun hall hW hR
      have hall2 : ∀ j, j < m → listed.getD j true = true := fun j hj => by
        cases e : listed.getD j true with
        | true => rfl
        | false =>
          exfalso
          have h1 : (listed.toList.drop m).count false = ops.length - m := by
            have h2 : listed.toList.drop m = List.replicate (ops.length - m) false := by
              apply List.ext_getElem
              · simp [hz]
              · intro j h3 h4
                simp at h3
                have := hun (m + j) (by omega) (by omega)
                have h5 : m + j < listed.size := by omega
                simpa [h5] using this
            rw [h2]; simp
          have h3 := List.take_append_drop m listed.toList
          have h4 : 0 < (listed.toList.take m).count false := by
            apply List.count_pos_iff.2
            have hjs : j < listed.size := by omega
            simp [hjs] at e
            rw [List.mem_iff_getElem]
            exact ⟨j, by simp; omega, by simp [e]⟩
          rw [← h3, List.count_append] at hcnt
          omega
      refine wpAny_chain hfs hc hb (ops.length - m) m _ listed _ w (by omega) (Nat.le_refl _) (by omega) hz hsh (fun j hj => ?_) ?_
      · rcases Nat.lt_or_ge j m with h | h
        · rw [hall2 j h]; simp [h]
        · rw [hun j h hj]; simp [Nat.not_lt.2 h]
      · rw [putAll_fr]
        exact (hend f w hW (fun i hi => by
          have hi' : i < m := by rw [Nat.blt_eq] at hi; exact hi
          refine hR i hi' ?_
          have h1 := hall2 i hi'
          have h2 : i < listed.size := by omega
          simpa [h2] using h1)).out
    | succ d ih =>
      intro fuel listed f w hcnt hfu hz hsh hun hall hW hR
      -- a late one that has not come up: the first
      have hex : ∃ i, i < m ∧ listed.getD i true = false := by
        apply Classical.byContradiction
        intro hno
        have hall2 : ∀ j, j < m → listed.getD j true = true := fun j hj => by
          cases e : listed.getD j true with
          | true => rfl
          | false => exact absurd ⟨j, hj, e⟩ hno
        have h3 := List.take_append_drop m listed.toList
        have h4 : (listed.toList.take m).count false = 0 := by
          rw [List.count_eq_zero]
          intro hmem
          rw [List.mem_iff_getElem] at hmem
          obtain ⟨j, hj, e⟩ := hmem
          simp at hj e
          have hj1 : j < m := by omega
          have hj2 : j < listed.size := by omega
          have := hall2 j hj1
          simp [hj2] at this
          rw [this] at e; cases e
        have h5 : (listed.toList.drop m).count false ≤ ops.length - m := by
          have := List.count_le_length (a := false) (l := listed.toList.drop m)
          simp [hz] at this; exact this
        rw [← h3, List.count_append] at hcnt
        omega
      obtain ⟨i, ⟨him, hiu⟩, hmin⟩ := exists_least0 hex
      have hif : i ∈ fs := by
        cases e : fs.contains i with
        | true => simpa using e
        | false => have := hall i him e; rw [hiu] at this; cases this
      obtain ⟨o, v, ho, hv, hQ, hy⟩ := hlate i hif
      have hdep : ∀ e ∈ o.after, Region.binds .any e = true → listed.getD e.on false = true := fun e he hbd => by
        have hlt := edgesBack_spec hb (i := i) (o := o) (by simpa using ho) e he hbd
        have h1 : listed.getD e.on true = true := by
          cases ee : listed.getD e.on true with
          | true => rfl
          | false => have := hmin e.on ⟨by omega, ee⟩; omega
        have h2 : e.on < listed.size := by omega
        simpa [h2] using h1
      have hval : ∀ j, depb o j = true → ∀ u, spQ sp j = vq u → f j = u := fun j hj u hu => by
        obtain ⟨e, he, hb'⟩ := List.any_eq_true.1 hj
        simp only [Bool.and_eq_true] at hb'
        have heon := Nat.eq_of_beq_eq_true hb'.2
        have hj' := hdep e (by simpa using he) hb'.1
        have hlt := edgesBack_spec hb (i := i) (o := o) (by simpa using ho) e (by simpa using he) hb'.1
        rw [heon] at hj' hlt
        have := hR j (by omega) hj'
        rw [hu] at this
        exact this
      obtain ⟨hw1, hw2⟩ := hy f hval
      cases fuel with
      | zero => omega
      | succ fuel =>
        refine wpAny_first (i := i) (oi := o) (v := v) (by simpa using ho) (Region.noSelect_spec hns) (hQ v) fuel listed _ w ?_ ?_ ?_ ?_
        · intro j oj hoj hji hju hno
          have hjl : j < ops.length := by have := (Array.getElem?_eq_some_iff.1 hoj).1; simpa using this
          have h1 := List.all_eq_true.1 hf i hif
          simp only [Bool.and_eq_true, ho] at h1
          have h2 := List.all_eq_true.1 h1.2 j (List.mem_range.2 hjl)
          have hoj' : ops[j]? = some oj := by simpa using hoj
          simp only [hoj', Bool.or_eq_true, Bool.and_eq_true, Bool.not_eq_true'] at h2
          rcases h2 with (h2 | h2) | h2 | h2
          · exact absurd (Nat.eq_of_beq_eq_true h2) hji
          · have := hall j (by have := h2.1; rw [Nat.blt_eq] at this; exact this) h2.2
            rw [this] at hju; cases hju
          · obtain ⟨e, he, hb'⟩ := List.any_eq_true.1 h2
            simp only [Bool.and_eq_true] at hb'
            exact absurd (Nat.eq_of_beq_eq_true hb'.2) (hno e (by simpa using he) hb'.1)
          · exact h2
        · exact mem_ready.2 ⟨hiu, o, by simpa using ho, hdep⟩
        · rw [putAll_fr]
          exact Or.inl ⟨by rw [fr_wanted]; exact hw1, fun w => by rw [fr_eval]; exact hw2 w⟩
        · have hot : (ops.take m)[i]? = some o := by rw [List.getElem?_take_of_lt him]; exact ho
          have hp := putAll_put v (ops.take m) 0 f (fr n l) hd i o hot
          rw [Nat.zero_add] at hp
          rw [hp]
          have h1 : listed.toList[i]? = some false := by
            have h' : i < listed.size := by omega
            simp [h'] at hiu; simp [h', hiu]
          have hcs := count_set _ _ h1
          refine ih fuel _ (upd f i v) w ?_ (by omega) (by simpa using hz) (hsh.step ho hdep) (fun j h1 h2 => ?_) (fun j h1 h2 => ?_) hW (fun j hj hlj => ?_)
          · simp only [Array.toList_setIfInBounds]; omega
          · rw [getD_set_ne true (by omega)]; exact hun j h1 h2
          · have hij : i ≠ j := by intro e; subst e; have : fs.contains i = true := by simpa using hif
                                   rw [this] at h2; cases h2
            rw [getD_set_ne true hij]; exact hall j h1 h2
          · by_cases e : j = i
            · subst e; rw [hv]; simp [upd, vq]
            · rw [getD_set_ne false (Ne.symm e)] at hlj
              have := hR j hj hlj
              simpa [upd, e] using this
  have main : ∀ (fuel : Nat) (listed : Array Bool) (f : Nat → Value) (w : World), listed.toList.count false ≤ fuel → listed.size = ops.length → Shut ops listed → (∀ j, m ≤ j → j < ops.length → listed.getD j true = false) →
      G w → (∀ i, i < m → listed.getD i false = true → spQ sp i (f i) w) → wpAny P .any ops.toArray Q fuel listed (putAll f 0 (ops.take m) (fr n l)) w := by
    intro fuel
    induction fuel with
    | zero =>
      intro listed f w hcnt hz hsh hun hW hR
      refine wpAny_chain hfs hc hb (ops.length - m) m 0 listed _ w (by omega) (Nat.le_refl _) ?_ hz hsh ?_ ?_
      · rcases Nat.lt_or_ge m ops.length with h | h
        · exfalso
          have h1 := hun m (Nat.le_refl _) h
          have h2 : m < listed.size := by omega
          have : false ∈ listed.toList := by simp [h2] at h1; rw [← h1]; simp
          have := List.count_pos_iff.2 this
          omega
        · omega
      · intro j hj
        have h2 : j < listed.size := by omega
        have h3 : listed.getD j true = true := by
          cases e : listed.getD j true with
          | true => rfl
          | false =>
            have : false ∈ listed.toList := by simp [h2] at e; rw [← e]; simp
            have := List.count_pos_iff.2 this
            omega
        rcases Nat.lt_or_ge j m with h | h
        · rw [h3]; simp [h]
        · rw [hun j h hj] at h3; cases h3
      · rw [putAll_fr]
        refine (hend f w hW (fun i hi => hR i (by rw [Nat.blt_eq] at hi; exact hi) ?_)).out
        have hi' : i < m := by rw [Nat.blt_eq] at hi; exact hi
        have h2 : i < listed.size := by omega
        cases e : listed.getD i false with
        | true => rfl
        | false =>
          have : false ∈ listed.toList := by simp [h2] at e; rw [← e]; simp
          have := List.count_pos_iff.2 this
          omega
    | succ fuel ih =>
      intro listed f w hcnt hz hsh hun hW hR
      by_cases hall : ∀ j, j < m → fs.contains j = false → listed.getD j true = true
      · have hge : ops.length - m ≤ listed.toList.count false := by
          have h1 : (listed.toList.drop m).count false = ops.length - m := by
            have h2 : listed.toList.drop m = List.replicate (ops.length - m) false := by
              apply List.ext_getElem
              · simp [hz]
              · intro j h3 h4
                simp at h3
                have := hun (m + j) (by omega) (by omega)
                have h5 : m + j < listed.size := by omega
                simpa [h5] using this
            rw [h2]; simp
          have h3 := List.take_append_drop m listed.toList
          rw [← h3, List.count_append]
          omega
        exact second (listed.toList.count false - (ops.length - m)) _ listed f w (by omega) (by omega) hz hsh hun hall hW hR
      · obtain ⟨u, hum, huf, hu⟩ : ∃ u, u < m ∧ fs.contains u = false ∧ listed.getD u true = false := by
          rcases Classical.not_forall.1 hall with ⟨u, h⟩
          rcases Classical.not_imp.1 h with ⟨h1, h2⟩
          rcases Classical.not_imp.1 h2 with ⟨h3, h4⟩
          exact ⟨u, h1, h3, by cases e : listed.getD u true with | true => exact absurd e h4 | false => rfl⟩
        have hne : Region.ready .any ops.toArray listed ≠ [] := fun hr => by
          have := all_listed hb hr u (by simp; omega)
          rw [hu] at this; cases this
        refine ⟨fun h0 => absurd h0 hne, fun i hi => ?_⟩
        obtain ⟨h0, o, ho, hdep⟩ := mem_ready.1 hi
        have hoi : ops[i]? = some o := by simpa using ho
        have hilt : i < ops.length := (List.getElem?_eq_some_iff.1 hoi).1
        have him : i < m := by
          rcases Nat.lt_or_ge i m with h | h
          · exact h
          · exfalso
            have h1 := chainB_spec hc hsh hoi h hdep u (by omega) huf
            have h2 : u < listed.size := by omega
            simp [h2] at h1 hu
            rw [h1] at hu; cases hu
        have hot : (ops.take m)[i]? = some o := by rw [List.getElem?_take_of_lt him]; exact hoi
        have hstep := Each.spec (ops.take m) 0 hs i o hot
        rw [Nat.zero_add] at hstep
        have hcount : ((listed.setIfInBounds i true).toList.count false) ≤ fuel := by
          have h1 : listed.toList[i]? = some false := by
            have h' : i < listed.size := by omega
            simp [h'] at h0; simp [h', h0]
          have := count_set _ _ h1
          simp only [Array.toList_setIfInBounds]
          omega
        have hun' : ∀ j, m ≤ j → j < ops.length → (listed.setIfInBounds i true).getD j true = false := fun j h1 h2 => by
          rw [getD_set_ne true (by omega)]; exact hun j h1 h2
        have next : ∀ v w', G w' → spQ sp i v w' → (∀ j u, j ≠ i → spQ sp j u w → spQ sp j u w') → wpAny P .any ops.toArray Q fuel (listed.setIfInBounds i true) (putAll (upd f i v) 0 (ops.take m) (fr n l)) w' := fun v w' hg hden hot' => by
          refine ih _ _ w' hcount (by simpa using hz) (hsh.step hoi hdep) hun' hg (fun j hj hlj => ?_)
          by_cases e : j = i
          · subst e; simpa [upd] using hden
          · rw [getD_set_ne false (Ne.symm e)] at hlj
            have := hot' j (f j) e (hR j hj hlj)
            simpa [upd, e] using this
        have put : ∀ v, fr n (ext (asg f 0 (ops.take m) l) o.dst v) = putAll (upd f i v) 0 (ops.take m) (fr n l) := fun v => by
          have := putAll_put v (ops.take m) 0 f (fr n l) hd i o hot
          rw [Nat.zero_add] at this
          rw [← this, putAll_fr, fr_put]
        refine wpOp_step ho (fun K hK => ?_)
        rw [putAll_fr, fr_wanted]
        have hh := (hstep.out f w hW (fun j hj => by
          obtain ⟨e, he, hb'⟩ := List.any_eq_true.1 hj
          simp only [Bool.and_eq_true] at hb'
          have heon := Nat.eq_of_beq_eq_true hb'.2
          have hj' := hdep e (by simpa using he) hb'.1
          have hlt := edgesBack_spec hb ho e (by simpa using he) hb'.1
          rw [heon] at hj' hlt
          exact hR j (by omega) hj') K (fun v w' h1 h2 h3 => by rw [put]; exact hK _ _ (next v w' h1 h2 h3))).out
        rw [fr_put]
        rcases hh with ⟨h1, h2⟩ | ⟨h1, h2⟩
        · rw [h1]; exact h2.out
        · rw [h1]; exact h2
  have h0 : putAll (slots (fr n l) (ops.take m).toArray) 0 (ops.take m) (fr n l) = fr n l := putAll_self _ _ 0 _ (fun i o ho t ht => by simp only [Nat.zero_add, slots]; rw [show (ops.take m).toArray[i]? = some o by simpa using ho]; simp [ht])
  have := main ops.length (Array.replicate ops.length false) (slots (fr n l) (ops.take m).toArray) w.drew (by simp) (by simp) (Shut.start _ _) (fun j _ hj => by simp [hj]) hG (fun i _ hi => by
    exfalso
    rcases Nat.lt_or_ge i ops.length with h' | h' <;> simp [h'] at hi)
  rw [h0] at this
  simpa using this
theorem latec_nil {ops : List Oper} {m : Nat} {sp : List (Value → World → Prop)} : ∀ i, i ∈ ([] : List Nat) → LateC P ops Q n l m sp i := fun _ h => by cases h
theorem latec_cons {ops : List Oper} {m : Nat} {sp : List (Value → World → Prop)} {x : Nat} {r : List Nat} (h : LateC P ops Q n l m sp x) (hr : ∀ i, i ∈ r → LateC P ops Q n l m sp i) : ∀ i, i ∈ x :: r → LateC P ops Q n l m sp i := fun i hi => by
  rcases List.mem_cons.1 hi with rfl | hi
  · exact h
  · exact hr i hi
variable {o : Oper}
theorem oc_eq {ol : List Oper} {m : Nat} {G : World → Prop} {sp : List (Value → World → Prop)} {i : Nat} (v : Value) (hs : spQ sp i = vq v) (hg : ∀ w w', G w → Mo w w' → G w') (hm : Smos sp)
    (h : ∀ f w, G w → (∀ j, depb o j = true → spQ sp j (f j) w) → ∀ K : Act → World → Prop, (∀ w', Mo w w' → K (fr n (ext (asg f 0 (ol.take m) l) o.dst v)) w') → Go1 P ol Q n (asg f 0 (ol.take m) l) w K o) : OgC P ol Q n l m G sp i o :=
  ⟨fun f w hG hd K hK => h f w hG hd K (fun w' hmo => hK v w' (hg w w' hG hmo) (by rw [hs]; rfl) (fun j u _ hr => hm j u w w' hr hmo))⟩
end
theorem own_at {w : World} {N : Nat} {v : Value} {n : Nat} {xs : List Value} (h : w.ownsRow N 33 23 v n xs) (hn : 0 < n) : ∃ g cap, v = .slice (some ⟨g, 0, none⟩) n cap ∧ N ≤ g ∧ At w g xs := by
  have h0 := h
  rcases h.2 with ⟨_, h1⟩ | ⟨g, cap, cur, rfl, hb, hg, hnc, _, hcs, htake⟩
  · omega
  · refine ⟨g, cap, rfl, hb, fun j u hu => ?_, fun o => ?_, (h0.lt g rfl).2⟩
    · have hlt : j < xs.length := (List.getElem?_eq_some_iff.1 hu).1
      rw [Nat.zero_add, h0.cellAt j (by rw [h0.1] at hlt; exact hlt)]; exact hu
    · simp [World.frozen?, hg]
theorem own_new {w : World} {N : Nat} (S : Sm) (hN : N ≤ w.heap.size) : (w.alloc (.cells (sml S).toArray 33)).ownsRow N 33 23 (.slice (some ⟨w.heap.size, 0, none⟩) 1 1) 1 (sml S) :=
  ⟨rfl, .inr ⟨w.heap.size, 1, (sml S).toArray, rfl, hN, heap_alloc_new w _, Nat.le_refl _, by unfold maxLen; decide, rfl, rfl⟩⟩
theorem app36k (w : World) (ty : TypeId) (N : Nat) (v : Value) (n : Nat) (xs : List Value) (hown : w.ownsRow N 33 23 v n xs) (k m c : Nat) (news : List Value) (hl : news.length = m * 23) (hA : At w k news) (h1 : ∀ u ∈ news, u.oneCell' = true) (hm : 0 < m) (hn : n + m ≤ 700000000000) (hN : N ≤ w.heap.size) :
    ∃ v' w', (Builtin.append_ #[36, 36] ty #[v, .slice (some ⟨k, 0, none⟩) m c]).run Try.prog w = .ok v' w' ∧ w'.ownsRow N 33 23 v' (n + m) (xs ++ news) ∧ AppW v w w' ∧ (v'.ownBlock = v.ownBlock ∨ v'.ownBlock = some w.heap.size) ∧ w'.ownsRow N 33 23 v n xs := by
  obtain ⟨v', w', hr, h2, h3, h5⟩ := app36 w ty N v n xs hown k m c news hl hA h1 hm hn hN
  refine ⟨v', w', hr, h2, h3, h5, ?_⟩
  obtain ⟨i, hi, hz, hs, hby⟩ := inf33
  have hnews : ∀ j u, news[j]? = some u → w.cell? ((⟨k, 0, none⟩ : Addr).add j) = some u := fun j u hu => by
    rw [Addr.add_mid]; have := hA.1 j u hu; simpa using this
  rcases hown.2 with ⟨rfl, rfl⟩ | ⟨g, cap, cur, rfl, hbg, hg, hnc, hcm, hcs, htake⟩
  · exact ⟨hown.1, .inl ⟨rfl, rfl⟩⟩
  · by_cases hroom : n + m ≤ cap
    · have hr2 := run_append_room (P := Try.prog) w 36 ty 33 i Try.underlying36 hi g n cap cur hg ⟨k, 0, none⟩ m c news (by rw [hs]; exact hl) hnews h1 hroom (by rw [hs]; first | omega | (rw [hl]; omega) | (simp [hl]; omega))
      rw [hr2] at hr
      cases hr
      have h9 := setRow_heap w g cur (cur.toList.take (n * i.size) ++ news ++ cur.toList.drop (n * i.size + news.length)).toArray 33 (0, 0) hg
      rw [hs] at h9 ⊢
      have hsz : n * 23 + m * 23 ≤ cap * 23 := by rw [← Nat.add_mul]; exact Nat.mul_le_mul_right _ hroom
      have hcl : cur.toList.length = cap * 23 := by simpa using hcs
      refine ⟨hown.1, .inr ⟨g, cap, _, rfl, hbg, h9, hnc, hcm, ?_, ?_⟩⟩
      · have : (cur.toList.take (n * 23) ++ news ++ cur.toList.drop (n * 23 + news.length)).length = cap * 23 := by
          rw [List.length_append, List.length_append, List.length_take, List.length_drop, hcl, hl]; omega
        simpa using this
      · show (cur.toList.take (n * 23) ++ news ++ cur.toList.drop (n * 23 + news.length)).take (n * 23) = xs
        rw [List.append_assoc, List.take_append_of_le_length (by rw [List.length_take]; omega), List.take_take, Nat.min_self]; exact htake
    · have hr2 := run_append_grow (P := Try.prog) w 36 ty 33 i _ Try.underlying36 hi hz ⟨g, 0, none⟩ n cap xs (by rw [hs]; exact hown.1) (hown.cells (g := g) rfl) ⟨k, 0, none⟩ m c news (by rw [hs]; exact hl) hnews (by omega) (by omega) (by rw [hby]; exact growslice_fits (by omega) (by omega))
      rw [hr2] at hr
      cases hr
      exact own_mo hown ((Mo.refl w).drew.alloc _ _)
section
variable {o : Oper} {n : Nat} {l : List (Nat × Value)} {w : World} {ops : Array Oper} {rest : List Oper} {Q : Exit → Act → World → Prop} {K : Act → World → Prop}
theorem wl_bs1o (x : Operand) (S : Sm) (N : Nat) (hN : N ≤ w.heap.size) (ho : o.op = .buildSlice 36 1 #[(0, x)]) (hx : evl n l x = smv S) (hg : wnt n l ops o = true)
    (hk : ∀ k w', w.heap.size = k → w'.heap.size = k + 1 → Mo w w' → w'.ownsRow N 33 23 (.slice (some ⟨k, 0, none⟩) 1 1) 1 (sml S) → WL Try.prog ops Q rest n (ext l o.dst (.slice (some ⟨k, 0, none⟩) 1 1)) w') : WL Try.prog ops Q (o :: rest) n l w :=
  ⟨l_step hg (o_val (.slice (some ⟨w.heap.size, 0, none⟩) 1 1) (w' := w.alloc (.cells (sml S).toArray 33)) (by
    have h := bs1 S w
    simp [execOp, ho, hx, h]) (hk _ _ rfl (by simp) ((Mo.refl _).alloc _ _) (own_new S hN)).out)⟩
theorem wl_stx1 (ty : TypeId) (x y : Operand) (k off : Nat) (v : Value) (vs vs' : List Value) (hA : At w k vs) (ho : o.op = .store ty x y) (hd : o.dst = none) (hx : evl n l x = pt k off) (hy : evl n l y = v)
    (hl : Nat.blt off vs.length = true) (hi : (Try.prog.info? ty).map (·.size) = some 1) (hv : v.cells = #[v]) (h1 : v.oneCell' = true) (hvs : vs' = vs.take off ++ [v] ++ vs.drop (off + 1)) (hg : wnt n l ops o = true)
    (hk : ∀ w', St2 k w w' → At w' k vs' → WL Try.prog ops Q rest n l w') : WL Try.prog ops Q (o :: rest) n l w :=
  have hl' : off < vs.length := by rw [Nat.blt_eq] at hl; exact hl
  ⟨l_step hg (o_store ty x y _ _ ho hd hx hy (run_put1 hA ty off v hl' hi hv h1) (hk _ (St2.mk2 w k off [v]) (hA.set off [v] (by simp; omega) vs' hvs)).out)⟩
theorem wo_bs1 (x : Operand) (S : Sm) (ho : o.op = .buildSlice 36 1 #[(0, x)]) (hx : evl n l x = smv S)
    (hk : ∀ k w', w.heap.size = k → w'.heap.size = k + 1 → Mo w w' → At w' k (sml S) → K (fr n (ext l o.dst (.slice (some ⟨k, 0, none⟩) 1 1))) w') : WO Try.prog o n l w K Q :=
  ⟨o_val (.slice (some ⟨w.heap.size, 0, none⟩) 1 1) (w' := w.alloc (.cells (sml S).toArray 33)) (by
    have h := bs1 S w
    simp [execOp, ho, hx, h]) (hk _ _ rfl (by simp) ((Mo.refl _).alloc _ _) (At.new w (sml S).toArray 33))⟩
theorem wo_app36 (s x : Operand) (N : Nat) (v : Value) (q : Nat) (xs : List Value) (k m c : Nat) (news : List Value) (ho : o.op = .call { callee := .builtin .append, args := #[s, x], argTypes := #[36, 36] }) (hs : evl n l s = v) (hx : evl n l x = .slice (some ⟨k, 0, none⟩) m c)
    (hown : w.ownsRow N 33 23 v q xs) (hl : news.length = m * 23) (hA : At w k news) (h1 : ∀ u ∈ news, u.oneCell' = true) (hm : 0 < m) (hn : q + m ≤ 700000000000) (hN : N ≤ w.heap.size)
    (hk : ∀ v' w', w'.ownsRow N 33 23 v' (q + m) (xs ++ news) → AppW v w w' → w'.ownsRow N 33 23 v q xs → K (fr n (ext l o.dst v')) w') : WO Try.prog o n l w K Q := by
  obtain ⟨v', w', hr, h2, h3, _, h5⟩ := app36k w o.type N v q xs hown k m c news hl hA h1 hm hn hN
  refine ⟨o_val v' (w' := w') ?_ (hk v' w' h2 h3 h5)⟩
  unfold execOp
  simp only [ho, resolve, invoke, builtin, Sem.run_bind, Sem.run_pure, Result.andThen_ok, List.map_toArray, List.map_cons, List.map_nil, hs, hx, hr]
end
end Go.Proofs.Ythpekbohmfmffaa
/-
  SummaryExact: the law's walk.
-/
namespace Go.Proofs.Ythpekbohmfmffaa
open Go.RowKit
/-- The summary of a number. -/
def nsm (b : Bool) (n s : Int) : Sm := ⟨1, 1, 0, 0, 0, sv b n, true, ⟨b, n, s⟩, ⟨b, n, s⟩⟩
theorem nsm_ok {b : Bool} {n s : Int} (h0 : 0 ≤ n) (h1 : n < MM) : (nsm b n s).ok := ⟨⟨h0, h1⟩, ⟨h0, h1⟩⟩
theorem jn_tt (S T : Sm) : (jn S T).tt = S.tt + T.tt := by
  unfold jn str
  split
  · split <;> rfl
  · rfl
def tts : List Sm → Int
  | [] => 0
  | S :: L => S.tt + tts L
theorem tts_app : ∀ (L M : List Sm), tts (L ++ M) = tts L + tts M
  | [], M => by simp [tts]
  | S :: L, M => by simp only [List.cons_append, tts, tts_app L M]; omega
theorem turn_tt {L : List Sm} {b : Bool} {n s : Int} (h : tts L = 0) : tts (nsm (!b) n s :: (L ++ [nsm b n s])) = 0 := by
  show sv (!b) n + tts (L ++ [nsm b n s]) = 0
  rw [tts_app, h]
  show sv (!b) n + (0 + (sv b n + 0)) = 0
  unfold sv
  cases b
  · show -n + (0 + (n + 0)) = 0; omega
  · show n + (0 + (-n + 0)) = 0; omega
theorem fold_tt : ∀ (L : List Sm) (S : Sm), (L.foldl jn S).tt = S.tt + tts L
  | [], S => by simp [tts]
  | T :: L, S => by rw [List.foldl_cons, fold_tt L, jn_tt]; simp only [tts]; omega
theorem nrw_back {b : Bool} {n s : Int} (h0 : 0 ≤ n) (h1 : n < MM) (hc : ck b n s = 0) : nrw (sv b n) s = .tuple #[dc b n s, .int .i64 0] := by
  have hs : sc s = true ∧ (b && decide (n = 0)) = false := by
    unfold ck at hc
    split at hc
    · rename_i h; cases h1 : (b && decide (n = 0)) with | true => (simp [h1] at h) | false => (simp [h1] at h; exact ⟨h, rfl⟩)
    · omega
  obtain ⟨ha, hb⟩ := hs
  unfold sc at ha
  simp only [Bool.and_eq_true, decide_eq_true_eq] at ha
  unfold nrw
  rw [if_neg (by omega)]
  have hl := l4_small h0 h1
  cases b with
  | false =>
    rw [show sv false n = n from rfl, if_neg (by rw [hl]; decide), if_pos hl]
  | true =>
    simp at hb
    have e : sv true n = -n := rfl
    rw [e, Int.neg_neg, if_pos (by unfold l4; unfold MM at h1; omega), if_pos hl]
/-- Decimals lie there, one behind the other. -/
def dcx (d : D3) : List Value := [.bool d.b, .int .u64 (l0 d.n), .int .u64 (l1 d.n), .int .u64 (l2 d.n), .int .u64 (l3 d.n), .int .i64 d.s]
def SDc (w : World) (p : Option Addr) (L : List D3) : Prop := ∀ i x, L[i]? = some x → ∃ b off, p = some ⟨b, off, none⟩ ∧ b < w.heap.size ∧ w.rangeAt b (off + i * 6) (dcx x)
theorem SDc.mo {w w' : World} {p : Option Addr} {L : List D3} (h : SDc w p L) (m : Mo w w') : SDc w' p L := fun i o e => by
  obtain ⟨b, off, h1, h2, h3⟩ := h i o e
  exact ⟨b, off, h1, Nat.lt_of_lt_of_le h2 m.size, fun j v hv => (m.cell b _ h2).trans (h3 j v hv)⟩
theorem SDc.load {w : World} {b off i : Nat} {x : D3} (h : w.rangeAt b (off + i * 6) (dcx x)) : (Instr.loadAt 26 (pt b (off + i * 6))).run Try.prog w = .ok (dc x.b x.n x.s) w :=
  run_loadAt_mid w b (off + i * 6) 26 (dcx x) _ h Try.underlying26 rfl sz26
theorem ix54 (b off i n c : Nat) (h : i < n) (w : World) : (Instr.indexAt 54 (.slice (some ⟨b, off, none⟩) n c) (.int .i64 (i : Int))).run Try.prog w = .ok (pt b (off + i * 6)) w := by
  have e : (Instr.indexAt 54 (.slice (some ⟨b, off, none⟩) n c) (.int .i64 (i : Int))).run Try.prog w = .ok (.pointer (some ((⟨b, off, none⟩ : Addr).add (i * 6)))) w := by simp [go_sem, h]
  rw [e, Addr.add_mid]
theorem len54 (ρ : Operand → Value) (x : Operand) (p : Option Addr) (m c : Nat) (hx : ρ x = .slice p m c) (dst : Option Tmp) (type : TypeId) (pos : String) (after : Array Edge) (guard : Option (Nat × Bool)) (w : World) : (execOp ρ { dst, op := .call { callee := .builtin .len, args := #[x], argTypes := #[54] }, type, pos, after, guard }).run Try.prog w = .ok (.value (.int .i64 (m : Int))) w := by
  simp [go_sem, hx]
theorem AppW.refl (v : Value) (w : World) : AppW v w w.drew := ⟨rfl, rfl, rfl, Nat.le_refl _, fun _ _ _ => rfl, fun _ => rfl⟩
theorem AppW.trans {v : Value} {a b c : World} (h : AppW v a b) (k : AppW v b c) : AppW v a c :=
  ⟨k.os.trans h.os, k.tape.trans h.tape, k.output.trans h.output, Nat.le_trans h.size k.size, fun j hj hn => (k.block j (Nat.lt_of_lt_of_le hj h.size) hn).trans (h.block j hj hn), fun a => (k.fz a).trans (h.fz a)⟩
theorem AppW.grow {v : Value} {a b c : World} (h : AppW v a b) (k : Mo b c) : AppW v a c :=
  ⟨k.1.os.trans h.os, k.1.tape.trans h.tape, k.1.output.trans h.output, Nat.le_trans h.size k.size, fun j hj hn => (k.1.block j (Nat.lt_of_lt_of_le hj h.size)).trans (h.block j hj hn), fun a => (k.2 a).trans (h.fz a)⟩
theorem smls_one : ∀ (L : List Sm), ∀ u ∈ smls L, u.oneCell' = true := fun L u hu => by
  obtain ⟨S, _, hu⟩ := List.mem_flatMap.1 hu
  exact sml_one S u hu
theorem smls_app (L M : List Sm) : smls (L ++ M) = smls L ++ smls M := by simp [smls]
theorem smls_1 (T : Sm) : smls [T] = sml T := by simp [smls]
section
variable {w : World}
theorem exact_n (Xs : List D3) (p : Option Addr) (cap : Nat) (db : Bool) (dn ds : Int) (hX : ∀ x ∈ Xs, x.ok) (hd0 : 0 ≤ dn) (hd1 : dn < MM) (hSD : SDc w p Xs) (hn : Xs.length ≤ 1048576) : Calls Try.prog 8 #[.slice p Xs.length cap, dc db dn ds] w fun e w' => e = .returned (.bool true) ∧ Mo w w' := by
  refine w_enter 81 Try.func8 Try.ntmps8 rfl rfl ?_
  have M : Mo w w := Mo.refl _
  refine w_seq ?_
  refine w_reg ?_
  refine wl_box 26 (.tmp 1) (.agg #[.bool db, .int .u64 (l0 (dn)), .int .u64 (l1 (dn)), .int .u64 (l2 (dn)), .int .u64 (l3 (dn)), .int .i64 (ds)]) (#[.bool db, .int .u64 (l0 (dn)), .int .u64 (l1 (dn)), .int .u64 (l2 (dn)), .int .u64 (l3 (dn)), .int .i64 (ds)]) rfl rfl (fun _ => by kernel_rfl) rfl ?_
  intro k1 w1 hk hz hq Q1
  have N_k1 : w.heap.size ≤ k1 := by have := M.size; omega
  replace M := M.trans hq
  clear hk hz hq
  refine wl_mv (.const (.bool false)) (.bool false) (fun _ => rfl) rfl rfl ?_
  refine w_nil ?_
  refine xn_then ?_
  refine w_seq ?_
  refine w_reg ?_
  refine wl_mv (.const (.slice none 0 0)) (.slice none 0 0) (fun _ => rfl) rfl rfl ?_
  refine w_nil ?_
  refine xn_then ?_
  refine w_seq ?_
  refine w_seq ?_
  refine w_reg ?_
  refine wl_mv (.tmp 0) (.slice p Xs.length cap) (fun _ => rfl) rfl rfl ?_
  refine wl_val (.int .i64 ((Xs.length : Int))) (len54 _ _ _ _ _ (by exact rfl) _ _ _ _ _ _) rfl ?_
  refine wl_mv (.const (.int .i64 (0))) (.int .i64 (0)) (fun _ => rfl) rfl rfl ?_
  refine w_nil ?_
  refine xn_then ?_
  refine w_block ?_
  refine w_loop (fun m l wc => ∃ (i : Nat) (v : Value) (L : List Sm), m + i = Xs.length ∧ L.length ≤ 2 * i ∧ look l 3 = pt k1 0 ∧ look l 4 = .bool false ∧ look l 5 = v ∧ look l 13 = .slice p Xs.length cap ∧ look l 14 = .int .i64 (Xs.length : Int) ∧ look l 15 = .int .i64 (i : Int) ∧ (∀ T ∈ L, T.ok) ∧ tts L = 0 ∧ wc.ownsRow w.heap.size 33 23 v L.length (smls L) ∧ v.ownBlock ≠ some k1 ∧ At wc k1 [.bool db, .int .u64 (l0 (dn)), .int .u64 (l1 (dn)), .int .u64 (l2 (dn)), .int .u64 (l3 (dn)), .int .i64 (ds)] ∧ Mo w wc) Xs.length ⟨0, .slice none 0 0, [], by omega, by simp, rfl, rfl, rfl, rfl, rfl, rfl, fun _ e => (by cases e), rfl, World.ownsRow_nil _ _ _ _, (fun e => by cases e), Q1, M⟩ ?_
  clear M Q1
  rintro m l wc ⟨i, v, L, hm, hLn, g3, g4, g5, g13, g14, g15, hLo, hLs, hown, on_k1, Q1, M⟩
  refine w_seq ?_
  cases hf0 : decide (i < Xs.length) with
  | true =>
    have hf0p := of_decide_eq_true hf0
    refine w_reg ?_
    refine wl_bin (fun x y => do eqGuard .lss 3 (.tmp 15) (.tmp 14) x y; binOp .lss 3 x y) (.tmp 15) (.tmp 14) (.int .i64 ((i : Nat) : Int)) (.int .i64 ((Xs.length : Int))) (.bool true) (fun _ => rfl) g15 g14 (ltN hf0 _ _ _) rfl ?_
    refine w_nil ?_
    refine xn_then ?_
    refine w_seq ?_
    refine w_condT rfl ?_
    refine w_skip ?_
    refine xn_then ?_
    refine w_seq ?_
    refine w_block ?_
    refine w_seq ?_
    refine w_reg ?_
    obtain ⟨⟨xb, xn, xs⟩, hxi⟩ : ∃ x, Xs[i]? = some x := ⟨Xs[i]'(by omega), List.getElem?_eq_getElem _⟩
    obtain ⟨hn0, hn1⟩ := hX _ (List.mem_of_getElem? hxi)
    simp only at hn0 hn1
    obtain ⟨b, off, hpb, hbl, hrg⟩ := (hSD.mo M) _ _ hxi
    refine wl_bin (fun x y => Instr.indexAt 54 x y) (.tmp 13) (.tmp 15) (.slice p Xs.length cap) (.int .i64 ((i : Nat) : Int)) (pt b (off + i * 6)) (fun _ => rfl) g13 g15 (by rw [hpb]; exact ix54 b off i _ _ (by omega) _) rfl ?_
    refine wl_load 26 (.tmp 17) (pt b (off + i * 6)) (.agg #[.bool xb, .int .u64 (l0 (xn)), .int .u64 (l1 (xn)), .int .u64 (l2 (xn)), .int .u64 (l3 (xn)), .int .i64 (xs)]) rfl rfl (SDc.load (x := ⟨xb, xn, xs⟩) hrg) rfl ?_
    refine wl_alloc 26 #[.bool false, .int .u64 0, .int .u64 0, .int .u64 0, .int .u64 0, .int .i64 0] rfl (fun _ => by kernel_rfl) rfl ?_
    intro k6 w11 hk hz hq Q6
    have ne_k1_k6 : k1 ≠ k6 := by have := Q1.lt; omega
    have on_k6 : v.ownBlock ≠ some k6 := fun e => by have := (hown.lt _ e).2; omega
    have N_k6 : w.heap.size ≤ k6 := by have := M.size; omega
    replace hown := own_mo hown hq
    replace Q1 := Q1.mo hq
    replace M := M.trans hq
    clear hk hz hq
    refine wl_stx 26 (.tmp 7) (.tmp 18) k6 0 #[.bool xb, .int .u64 (l0 (xn)), .int .u64 (l1 (xn)), .int .u64 (l2 (xn)), .int .u64 (l3 (xn)), .int .i64 (xs)] [.bool false, .int .u64 0, .int .u64 0, .int .u64 0, .int .u64 0, .int .i64 0] [.bool xb, .int .u64 (l0 (xn)), .int .u64 (l1 (xn)), .int .u64 (l2 (xn)), .int .u64 (l3 (xn)), .int .i64 (xs)] Q6 rfl rfl rfl rfl rfl sz26 rfl rfl rfl ?_
    intro w12 hS Qn
    replace Q6 := Qn
    clear Qn
    replace Q1 := hS.other _ _ ne_k1_k6 Q1
    replace hown := own_st hS hown on_k6
    replace M := hS.mo _ N_k6 M
    clear hS
    refine w_nil ?_
    refine xn_then ?_
    refine w_seq ?_
    cases hf1 : decide (ck xb xn xs = 0) with
    | true =>
      have hf1p := of_decide_eq_true hf1
      refine w_reg ?_
      refine wl_load 26 (.tmp 7) (pt k6 0) (.agg #[.bool xb, .int .u64 (l0 (xn)), .int .u64 (l1 (xn)), .int .u64 (l2 (xn)), .int .u64 (l3 (xn)), .int .i64 (xs)]) rfl rfl (run_row Q6 26 0 6 [.bool xb, .int .u64 (l0 (xn)), .int .u64 (l1 (xn)), .int .u64 (l2 (xn)), .int .u64 (l3 (xn)), .int .i64 (xs)] rfl Try.underlying26 rfl sz26) rfl ?_
      refine wl_build 28 [(0, (.const (.int .i64 (1)))), (1, (.tmp 19))] [(0, .int .i64 (1)), (1, .agg #[.bool xb, .int .u64 (l0 (xn)), .int .u64 (l1 (xn)), .int .u64 (l2 (xn)), .int .u64 (l3 (xn)), .int .i64 (xs)])] (.agg #[.int .i64 (1), .bool xb, .int .u64 (l0 (xn)), .int .u64 (l1 (xn)), .int .u64 (l2 (xn)), .int .u64 (l3 (xn)), .int .i64 (xs), .bool false, .string ⟨#[]⟩, .int .i64 0]) rfl rfl (by kernel_rfl) rfl ?_
      refine wl_un (fun v => Instr.fieldAt 26 v 2) (.tmp 7) (pt k6 0) (pt k6 5) (fun _ => rfl) rfl (by kernel_rfl) rfl ?_
      refine wl_load 3 (.tmp 21) (pt k6 5) (.int .i64 (xs)) rfl rfl (run_one Q6 3 5 rfl Try.underlying3 rfl) rfl ?_
      refine wl_call 10 [(.tmp 20), (.tmp 22)] _ [.agg #[.int .i64 (1), .bool xb, .int .u64 (l0 (xn)), .int .u64 (l1 (xn)), .int .u64 (l2 (xn)), .int .u64 (l3 (xn)), .int .i64 (xs), .bool false, .string ⟨#[]⟩, .int .i64 0], .int .i64 (xs)] (.agg #[.int .i64 (1), .int .i64 (1), .int .i64 (0), .int .i64 (0), .int .i64 (0), .int .u64 (l0 (sv xb xn)), .int .u64 (l1 (sv xb xn)), .int .u64 (l2 (sv xb xn)), .int .u64 (l3 (sv xb xn)), .int .u64 (l4 (sv xb xn)), .bool true, .bool xb, .int .u64 (l0 (xn)), .int .u64 (l1 (xn)), .int .u64 (l2 (xn)), .int .u64 (l3 (xn)), .int .i64 (xs), .bool xb, .int .u64 (l0 (xn)), .int .u64 (l1 (xn)), .int .u64 (l2 (xn)), .int .u64 (l3 (xn)), .int .i64 (xs)]) rfl rfl (fun _ _ => by kernel_rfl) (of_d 1 xb xn xs false ⟨#[]⟩ 0 xs hn0 hn1 rfl rfl rfl (decide_eq_true rfl) hf1) rfl ?_
      intro w13 hq
      replace hown := own_mo hown hq
      replace Q1 := Q1.mo hq
      replace Q6 := Q6.mo hq
      replace M := M.trans hq
      clear hq
      refine wl_alloc 33 #[.int .i64 0, .int .i64 0, .int .i64 0, .int .i64 0, .int .i64 0, .int .u64 0, .int .u64 0, .int .u64 0, .int .u64 0, .int .u64 0, .bool false, .bool false, .int .u64 0, .int .u64 0, .int .u64 0, .int .u64 0, .int .i64 0, .bool false, .int .u64 0, .int .u64 0, .int .u64 0, .int .u64 0, .int .i64 0] rfl (fun _ => by kernel_rfl) rfl ?_
      intro k7 w14 hk hz hq Q7
      have ne_k1_k7 : k1 ≠ k7 := by have := Q1.lt; omega
      have ne_k6_k7 : k6 ≠ k7 := by have := Q6.lt; omega
      have on_k7 : v.ownBlock ≠ some k7 := fun e => by have := (hown.lt _ e).2; omega
      have N_k7 : w.heap.size ≤ k7 := by have := M.size; omega
      replace hown := own_mo hown hq
      replace Q1 := Q1.mo hq
      replace Q6 := Q6.mo hq
      replace M := M.trans hq
      clear hk hz hq
      refine wl_stx 33 (.tmp 8) (.tmp 23) k7 0 #[.int .i64 (1), .int .i64 (1), .int .i64 (0), .int .i64 (0), .int .i64 (0), .int .u64 (l0 (sv xb xn)), .int .u64 (l1 (sv xb xn)), .int .u64 (l2 (sv xb xn)), .int .u64 (l3 (sv xb xn)), .int .u64 (l4 (sv xb xn)), .bool true, .bool xb, .int .u64 (l0 (xn)), .int .u64 (l1 (xn)), .int .u64 (l2 (xn)), .int .u64 (l3 (xn)), .int .i64 (xs), .bool xb, .int .u64 (l0 (xn)), .int .u64 (l1 (xn)), .int .u64 (l2 (xn)), .int .u64 (l3 (xn)), .int .i64 (xs)] [.int .i64 0, .int .i64 0, .int .i64 0, .int .i64 0, .int .i64 0, .int .u64 0, .int .u64 0, .int .u64 0, .int .u64 0, .int .u64 0, .bool false, .bool false, .int .u64 0, .int .u64 0, .int .u64 0, .int .u64 0, .int .i64 0, .bool false, .int .u64 0, .int .u64 0, .int .u64 0, .int .u64 0, .int .i64 0] [.int .i64 (1), .int .i64 (1), .int .i64 (0), .int .i64 (0), .int .i64 (0), .int .u64 (l0 (sv xb xn)), .int .u64 (l1 (sv xb xn)), .int .u64 (l2 (sv xb xn)), .int .u64 (l3 (sv xb xn)), .int .u64 (l4 (sv xb xn)), .bool true, .bool xb, .int .u64 (l0 (xn)), .int .u64 (l1 (xn)), .int .u64 (l2 (xn)), .int .u64 (l3 (xn)), .int .i64 (xs), .bool xb, .int .u64 (l0 (xn)), .int .u64 (l1 (xn)), .int .u64 (l2 (xn)), .int .u64 (l3 (xn)), .int .i64 (xs)] Q7 rfl rfl rfl rfl rfl sz33 rfl rfl rfl ?_
      intro w15 hS Qn
      replace Q7 := Qn
      clear Qn
      replace Q1 := hS.other _ _ ne_k1_k7 Q1
      replace Q6 := hS.other _ _ ne_k6_k7 Q6
      replace hown := own_st hS hown on_k7
      replace M := hS.mo _ N_k7 M
      clear hS
      refine w_nil ?_
      refine xn_then ?_
      refine w_seq ?_
      refine w_reg ?_
      refine wl_un (fun v => Instr.fieldAt 26 v 0) (.tmp 7) (pt k6 0) (pt k6 0) (fun _ => rfl) rfl (by kernel_rfl) rfl ?_
      refine wl_load 4 (.tmp 24) (pt k6 0) (.bool xb) rfl rfl (run_one Q6 4 0 rfl Try.underlying4 rfl) rfl ?_
      refine wl_un (fun v => Op.unary .not v) (.tmp 25) (.bool xb) (.bool ((!xb))) (fun _ => rfl) rfl (by kernel_rfl) rfl ?_
      refine wl_un (fun v => Instr.fieldAt 26 v 0) (.tmp 7) (pt k6 0) (pt k6 0) (fun _ => rfl) rfl (by kernel_rfl) rfl ?_
      refine wl_stx1 4 (.tmp 27) (.tmp 26) k6 0 (.bool ((!xb))) [.bool xb, .int .u64 (l0 (xn)), .int .u64 (l1 (xn)), .int .u64 (l2 (xn)), .int .u64 (l3 (xn)), .int .i64 (xs)] [.bool ((!xb)), .int .u64 (l0 (xn)), .int .u64 (l1 (xn)), .int .u64 (l2 (xn)), .int .u64 (l3 (xn)), .int .i64 (xs)] Q6 rfl rfl rfl rfl rfl sz4 rfl rfl rfl rfl ?_
      intro w16 hS Qn
      replace Q6 := Qn
      clear Qn
      replace Q1 := hS.other _ _ ne_k1_k6 Q1
      replace Q7 := hS.other _ _ ne_k6_k7.symm Q7
      replace hown := own_st hS hown on_k6
      replace M := hS.mo _ N_k6 M
      clear hS
      refine w_nil ?_
      refine xn_then ?_
      refine w_seq ?_
      cases hf2 : decide (ck (!xb) xn xs = 0) with
      | true =>
        have hf2p := of_decide_eq_true hf2
        refine w_reg ?_
        refine wl_load 26 (.tmp 7) (pt k6 0) (.agg #[.bool ((!xb)), .int .u64 (l0 (xn)), .int .u64 (l1 (xn)), .int .u64 (l2 (xn)), .int .u64 (l3 (xn)), .int .i64 (xs)]) rfl rfl (run_row Q6 26 0 6 [.bool ((!xb)), .int .u64 (l0 (xn)), .int .u64 (l1 (xn)), .int .u64 (l2 (xn)), .int .u64 (l3 (xn)), .int .i64 (xs)] rfl Try.underlying26 rfl sz26) rfl ?_
        refine wl_build 28 [(0, (.const (.int .i64 (1)))), (1, (.tmp 28))] [(0, .int .i64 (1)), (1, .agg #[.bool ((!xb)), .int .u64 (l0 (xn)), .int .u64 (l1 (xn)), .int .u64 (l2 (xn)), .int .u64 (l3 (xn)), .int .i64 (xs)])] (.agg #[.int .i64 (1), .bool ((!xb)), .int .u64 (l0 (xn)), .int .u64 (l1 (xn)), .int .u64 (l2 (xn)), .int .u64 (l3 (xn)), .int .i64 (xs), .bool false, .string ⟨#[]⟩, .int .i64 0]) rfl rfl (by kernel_rfl) rfl ?_
        refine wl_un (fun v => Instr.fieldAt 26 v 2) (.tmp 7) (pt k6 0) (pt k6 5) (fun _ => rfl) rfl (by kernel_rfl) rfl ?_
        refine wl_load 3 (.tmp 30) (pt k6 5) (.int .i64 (xs)) rfl rfl (run_one Q6 3 5 rfl Try.underlying3 rfl) rfl ?_
        refine wl_call 10 [(.tmp 29), (.tmp 31)] _ [.agg #[.int .i64 (1), .bool ((!xb)), .int .u64 (l0 (xn)), .int .u64 (l1 (xn)), .int .u64 (l2 (xn)), .int .u64 (l3 (xn)), .int .i64 (xs), .bool false, .string ⟨#[]⟩, .int .i64 0], .int .i64 (xs)] (.agg #[.int .i64 (1), .int .i64 (1), .int .i64 (0), .int .i64 (0), .int .i64 (0), .int .u64 (l0 (sv (!xb) xn)), .int .u64 (l1 (sv (!xb) xn)), .int .u64 (l2 (sv (!xb) xn)), .int .u64 (l3 (sv (!xb) xn)), .int .u64 (l4 (sv (!xb) xn)), .bool true, .bool (!xb), .int .u64 (l0 (xn)), .int .u64 (l1 (xn)), .int .u64 (l2 (xn)), .int .u64 (l3 (xn)), .int .i64 (xs), .bool (!xb), .int .u64 (l0 (xn)), .int .u64 (l1 (xn)), .int .u64 (l2 (xn)), .int .u64 (l3 (xn)), .int .i64 (xs)]) rfl rfl (fun _ _ => by kernel_rfl) (of_d 1 (!xb) xn xs false ⟨#[]⟩ 0 xs hn0 hn1 rfl rfl rfl (decide_eq_true rfl) hf2) rfl ?_
        intro w17 hq
        replace hown := own_mo hown hq
        replace Q1 := Q1.mo hq
        replace Q6 := Q6.mo hq
        replace Q7 := Q7.mo hq
        replace M := M.trans hq
        clear hq
        refine wl_alloc 33 #[.int .i64 0, .int .i64 0, .int .i64 0, .int .i64 0, .int .i64 0, .int .u64 0, .int .u64 0, .int .u64 0, .int .u64 0, .int .u64 0, .bool false, .bool false, .int .u64 0, .int .u64 0, .int .u64 0, .int .u64 0, .int .i64 0, .bool false, .int .u64 0, .int .u64 0, .int .u64 0, .int .u64 0, .int .i64 0] rfl (fun _ => by kernel_rfl) rfl ?_
        intro k8 w18 hk hz hq Q8
        have ne_k1_k8 : k1 ≠ k8 := by have := Q1.lt; omega
        have ne_k6_k8 : k6 ≠ k8 := by have := Q6.lt; omega
        have ne_k7_k8 : k7 ≠ k8 := by have := Q7.lt; omega
        have on_k8 : v.ownBlock ≠ some k8 := fun e => by have := (hown.lt _ e).2; omega
        have N_k8 : w.heap.size ≤ k8 := by have := M.size; omega
        replace hown := own_mo hown hq
        replace Q1 := Q1.mo hq
        replace Q6 := Q6.mo hq
        replace Q7 := Q7.mo hq
        replace M := M.trans hq
        clear hk hz hq
        refine wl_stx 33 (.tmp 9) (.tmp 32) k8 0 #[.int .i64 (1), .int .i64 (1), .int .i64 (0), .int .i64 (0), .int .i64 (0), .int .u64 (l0 (sv (!xb) xn)), .int .u64 (l1 (sv (!xb) xn)), .int .u64 (l2 (sv (!xb) xn)), .int .u64 (l3 (sv (!xb) xn)), .int .u64 (l4 (sv (!xb) xn)), .bool true, .bool (!xb), .int .u64 (l0 (xn)), .int .u64 (l1 (xn)), .int .u64 (l2 (xn)), .int .u64 (l3 (xn)), .int .i64 (xs), .bool (!xb), .int .u64 (l0 (xn)), .int .u64 (l1 (xn)), .int .u64 (l2 (xn)), .int .u64 (l3 (xn)), .int .i64 (xs)] [.int .i64 0, .int .i64 0, .int .i64 0, .int .i64 0, .int .i64 0, .int .u64 0, .int .u64 0, .int .u64 0, .int .u64 0, .int .u64 0, .bool false, .bool false, .int .u64 0, .int .u64 0, .int .u64 0, .int .u64 0, .int .i64 0, .bool false, .int .u64 0, .int .u64 0, .int .u64 0, .int .u64 0, .int .i64 0] [.int .i64 (1), .int .i64 (1), .int .i64 (0), .int .i64 (0), .int .i64 (0), .int .u64 (l0 (sv (!xb) xn)), .int .u64 (l1 (sv (!xb) xn)), .int .u64 (l2 (sv (!xb) xn)), .int .u64 (l3 (sv (!xb) xn)), .int .u64 (l4 (sv (!xb) xn)), .bool true, .bool (!xb), .int .u64 (l0 (xn)), .int .u64 (l1 (xn)), .int .u64 (l2 (xn)), .int .u64 (l3 (xn)), .int .i64 (xs), .bool (!xb), .int .u64 (l0 (xn)), .int .u64 (l1 (xn)), .int .u64 (l2 (xn)), .int .u64 (l3 (xn)), .int .i64 (xs)] Q8 rfl rfl rfl rfl rfl sz33 rfl rfl rfl ?_
        intro w19 hS Qn
        replace Q8 := Qn
        clear Qn
        replace Q1 := hS.other _ _ ne_k1_k8 Q1
        replace Q6 := hS.other _ _ ne_k6_k8 Q6
        replace Q7 := hS.other _ _ ne_k7_k8 Q7
        replace hown := own_st hS hown on_k8
        replace M := hS.mo _ N_k8 M
        clear hS
        refine w_nil ?_
        refine xn_then ?_
        refine w_seq ?_
        refine w_reg ?_
        refine wl_un (fun v => Instr.fieldAt 33 v 1) (.tmp 8) (pt k7 0) (pt k7 1) (fun _ => rfl) rfl (by kernel_rfl) rfl ?_
        refine wl_load 3 (.tmp 33) (pt k7 1) (.int .i64 (1)) rfl rfl (run_one Q7 3 1 rfl Try.underlying3 rfl) rfl ?_
        refine wl_bin (fun x y => do eqGuard .eql 3 (.tmp 34) (.const (.int .i64 (1))) x y; binOp .eql 3 x y) (.tmp 34) (.const (.int .i64 (1))) (.int .i64 (1)) (.int .i64 (1)) (.bool true) (fun _ => rfl) rfl rfl (by kernel_rfl) rfl ?_
        refine wl_mv (.tmp 35) (.bool true) (fun _ => rfl) rfl rfl ?_
        refine wl_un (fun v => Instr.fieldAt 33 v 1) (.tmp 9) (pt k8 0) (pt k8 1) (fun _ => rfl) rfl (by kernel_rfl) rfl ?_
        refine wl_load 3 (.tmp 37) (pt k8 1) (.int .i64 (1)) rfl rfl (run_one Q8 3 1 rfl Try.underlying3 rfl) rfl ?_
        refine wl_bin (fun x y => do eqGuard .eql 3 (.tmp 38) (.const (.int .i64 (1))) x y; binOp .eql 3 x y) (.tmp 38) (.const (.int .i64 (1))) (.int .i64 (1)) (.int .i64 (1)) (.bool true) (fun _ => rfl) rfl rfl (by kernel_rfl) rfl ?_
        refine wl_pick (.tmp 36) (.tmp 39) (.const (.bool false)) true (.bool true) (fun _ => rfl) rfl rfl rfl ?_
        refine w_nil ?_
        refine xn_then ?_
        refine w_condT rfl ?_
        refine w_seq ?_
        refine w_reg ?_
        refine wl_mv (.tmp 5) (v) (fun _ => rfl) g5 rfl ?_
        refine wl_load 33 (.tmp 8) (pt k7 0) (.agg #[.int .i64 (1), .int .i64 (1), .int .i64 (0), .int .i64 (0), .int .i64 (0), .int .u64 (l0 (sv xb xn)), .int .u64 (l1 (sv xb xn)), .int .u64 (l2 (sv xb xn)), .int .u64 (l3 (sv xb xn)), .int .u64 (l4 (sv xb xn)), .bool true, .bool xb, .int .u64 (l0 (xn)), .int .u64 (l1 (xn)), .int .u64 (l2 (xn)), .int .u64 (l3 (xn)), .int .i64 (xs), .bool xb, .int .u64 (l0 (xn)), .int .u64 (l1 (xn)), .int .u64 (l2 (xn)), .int .u64 (l3 (xn)), .int .i64 (xs)]) rfl rfl (run_row Q7 33 0 23 [.int .i64 (1), .int .i64 (1), .int .i64 (0), .int .i64 (0), .int .i64 (0), .int .u64 (l0 (sv xb xn)), .int .u64 (l1 (sv xb xn)), .int .u64 (l2 (sv xb xn)), .int .u64 (l3 (sv xb xn)), .int .u64 (l4 (sv xb xn)), .bool true, .bool xb, .int .u64 (l0 (xn)), .int .u64 (l1 (xn)), .int .u64 (l2 (xn)), .int .u64 (l3 (xn)), .int .i64 (xs), .bool xb, .int .u64 (l0 (xn)), .int .u64 (l1 (xn)), .int .u64 (l2 (xn)), .int .u64 (l3 (xn)), .int .i64 (xs)] rfl Try.underlying33 rfl sz33) rfl ?_
        refine wl_bs1 (.tmp 42) (nsm xb xn xs) rfl rfl rfl ?_
        intro kn w20 hk hz hq QN
        have on_kn : v.ownBlock ≠ some kn := fun e => by have := (hown.lt _ e).2; omega
        replace hown := own_mo hown hq
        replace Q1 := Q1.mo hq
        replace Q6 := Q6.mo hq
        replace Q7 := Q7.mo hq
        replace Q8 := Q8.mo hq
        replace M := M.trans hq
        clear hk hz hq
        refine wl_app36 (.tmp 41) (.tmp 43) w.heap.size v L.length (smls L) kn 1 1 (sml (nsm xb xn xs)) rfl rfl rfl hown rfl QN (sml_one _) (by decide) (by omega) M.size rfl ?_
        intro v2 w21 hown2 hAp hob
        replace Q1 := hAp.at Q1 on_k1
        replace Q6 := hAp.at Q6 on_k6
        replace Q7 := hAp.at Q7 on_k7
        replace Q8 := hAp.at Q8 on_k8
        replace M := hAp.mo M (fun k e => (hown.lt k e).1)
        refine wl_mv (.tmp 44) (v2) (fun _ => rfl) rfl rfl ?_
        refine w_nil ?_
        refine xn_then ?_
        refine w_reg ?_
        refine wl_load 33 (.tmp 9) (pt k8 0) (.agg #[.int .i64 (1), .int .i64 (1), .int .i64 (0), .int .i64 (0), .int .i64 (0), .int .u64 (l0 (sv (!xb) xn)), .int .u64 (l1 (sv (!xb) xn)), .int .u64 (l2 (sv (!xb) xn)), .int .u64 (l3 (sv (!xb) xn)), .int .u64 (l4 (sv (!xb) xn)), .bool true, .bool (!xb), .int .u64 (l0 (xn)), .int .u64 (l1 (xn)), .int .u64 (l2 (xn)), .int .u64 (l3 (xn)), .int .i64 (xs), .bool (!xb), .int .u64 (l0 (xn)), .int .u64 (l1 (xn)), .int .u64 (l2 (xn)), .int .u64 (l3 (xn)), .int .i64 (xs)]) rfl rfl (run_row Q8 33 0 23 [.int .i64 (1), .int .i64 (1), .int .i64 (0), .int .i64 (0), .int .i64 (0), .int .u64 (l0 (sv (!xb) xn)), .int .u64 (l1 (sv (!xb) xn)), .int .u64 (l2 (sv (!xb) xn)), .int .u64 (l3 (sv (!xb) xn)), .int .u64 (l4 (sv (!xb) xn)), .bool true, .bool (!xb), .int .u64 (l0 (xn)), .int .u64 (l1 (xn)), .int .u64 (l2 (xn)), .int .u64 (l3 (xn)), .int .i64 (xs), .bool (!xb), .int .u64 (l0 (xn)), .int .u64 (l1 (xn)), .int .u64 (l2 (xn)), .int .u64 (l3 (xn)), .int .i64 (xs)] rfl Try.underlying33 rfl sz33) rfl ?_
        refine wl_bs1o (.tmp 45) (nsm (!xb) xn xs) w.heap.size M.size rfl rfl rfl ?_
        intro kb w22 hk hz hq hownB
        have on2 : v2.ownBlock ≠ some kb := fun e => by have := (hown2.lt _ e).2; omega
        have hk1b : k1 ≠ kb := by have := Q1.lt; omega
        replace Q1 := Q1.mo hq
        replace Q6 := Q6.mo hq
        replace Q7 := Q7.mo hq
        replace Q8 := Q8.mo hq
        replace hown2 := own_mo hown2 hq
        replace M := M.trans hq
        clear hk hz hq
        refine wl_mv (.tmp 5) (v2) (fun _ => rfl) rfl rfl ?_
        obtain ⟨g9, c9, hv9, hg9, QA⟩ := own_at hown2 (by omega)
        have hlA : (smls L ++ sml (nsm xb xn xs)).length = (L.length + 1) * 23 := by rw [List.length_append, smls_len]; show L.length * 23 + 23 = _; omega
        refine wl_app36 (.tmp 46) (.tmp 47) w.heap.size (.slice (some ⟨kb, 0, none⟩) 1 1) 1 (sml (nsm (!xb) xn xs)) g9 (L.length + 1) c9 (smls L ++ sml (nsm xb xn xs)) rfl rfl hv9 hownB hlA QA (fun u hu => by rcases List.mem_append.1 hu with h | h; exact smls_one L u h; exact sml_one _ u h) (by omega) (by omega) M.size rfl ?_
        intro v3 w23 hown3 hAp3 hob3
        have on3 : v3.ownBlock ≠ some k1 := fun e => by rcases hob3 with h | h; rw [h] at e; cases e; exact hk1b rfl; rw [h] at e; cases e; have := Q1.lt; omega
        replace Q1 := hAp3.at Q1 (fun e => by cases e; exact hk1b rfl)
        replace M := hAp3.mo M (fun k e => (hownB.lt k e).1)
        refine wl_mv (.tmp 48) (v3) (fun _ => rfl) rfl rfl ?_
        refine w_nil ?_
        refine xn_blk ?_
        refine xn_then ?_
        refine w_reg ?_
        refine wl_bin (fun x y => do eqGuard .add 3 (.tmp 15) (.const (.int .i64 (1))) x y; binOp .add 3 x y) (.tmp 15) (.const (.int .i64 (1))) (.int .i64 ((i : Nat) : Int)) (.int .i64 (1)) (.int .i64 ((i + 1 : Nat) : Int)) (fun _ => rfl) g15 rfl (add1N (by omega) _ _ _) rfl ?_
        refine wl_mv (.tmp 49) (.int .i64 ((i + 1 : Nat) : Int)) (fun _ => rfl) rfl rfl ?_
        refine w_nil ?_
        exact xn_loop (m - 1) (by omega) ⟨i + 1, v3, nsm (!xb) xn xs :: (L ++ [nsm xb xn xs]), by omega, by simp; omega, g3, g4, rfl, g13, g14, rfl, fun U hU => (by rcases List.mem_cons.1 hU with rfl | h; exact nsm_ok hn0 hn1; rcases List.mem_append.1 h with h | h; exact hLo U h; rw [List.mem_singleton.1 h]; exact nsm_ok hn0 hn1), turn_tt hLs, by rw [show smls (nsm (!xb) xn xs :: (L ++ [nsm xb xn xs])) = sml (nsm (!xb) xn xs) ++ (smls L ++ sml (nsm xb xn xs)) by simp [smls], show (nsm (!xb) xn xs :: (L ++ [nsm xb xn xs])).length = 1 + (L.length + 1) by simp; omega]; exact hown3, on3, Q1, M⟩
      | false =>
        have hf2p := of_decide_eq_false hf2
        refine w_reg ?_
        refine wl_load 26 (.tmp 7) (pt k6 0) (.agg #[.bool ((!xb)), .int .u64 (l0 (xn)), .int .u64 (l1 (xn)), .int .u64 (l2 (xn)), .int .u64 (l3 (xn)), .int .i64 (xs)]) rfl rfl (run_row Q6 26 0 6 [.bool ((!xb)), .int .u64 (l0 (xn)), .int .u64 (l1 (xn)), .int .u64 (l2 (xn)), .int .u64 (l3 (xn)), .int .i64 (xs)] rfl Try.underlying26 rfl sz26) rfl ?_
        refine wl_build 28 [(0, (.const (.int .i64 (1)))), (1, (.tmp 28))] [(0, .int .i64 (1)), (1, .agg #[.bool ((!xb)), .int .u64 (l0 (xn)), .int .u64 (l1 (xn)), .int .u64 (l2 (xn)), .int .u64 (l3 (xn)), .int .i64 (xs)])] (.agg #[.int .i64 (1), .bool ((!xb)), .int .u64 (l0 (xn)), .int .u64 (l1 (xn)), .int .u64 (l2 (xn)), .int .u64 (l3 (xn)), .int .i64 (xs), .bool false, .string ⟨#[]⟩, .int .i64 0]) rfl rfl (by kernel_rfl) rfl ?_
        refine wl_un (fun v => Instr.fieldAt 26 v 2) (.tmp 7) (pt k6 0) (pt k6 5) (fun _ => rfl) rfl (by kernel_rfl) rfl ?_
        refine wl_load 3 (.tmp 30) (pt k6 5) (.int .i64 (xs)) rfl rfl (run_one Q6 3 5 rfl Try.underlying3 rfl) rfl ?_
        refine wl_call 10 [(.tmp 29), (.tmp 31)] _ [.agg #[.int .i64 (1), .bool ((!xb)), .int .u64 (l0 (xn)), .int .u64 (l1 (xn)), .int .u64 (l2 (xn)), .int .u64 (l3 (xn)), .int .i64 (xs), .bool false, .string ⟨#[]⟩, .int .i64 0], .int .i64 (xs)] (.agg #[.int .i64 (1), .int .i64 (0), .int .i64 (0), .int .i64 (1), .int .i64 (2), .int .u64 (l0 (0)), .int .u64 (l1 (0)), .int .u64 (l2 (0)), .int .u64 (l3 (0)), .int .u64 (l4 (0)), .bool false, .bool false, .int .u64 (l0 (0)), .int .u64 (l1 (0)), .int .u64 (l2 (0)), .int .u64 (l3 (0)), .int .i64 (0), .bool false, .int .u64 (l0 (0)), .int .u64 (l1 (0)), .int .u64 (l2 (0)), .int .u64 (l3 (0)), .int .i64 (0)]) rfl rfl (fun _ _ => by kernel_rfl) (of_f 1 (!xb) xn xs false ⟨#[]⟩ 0 xs hn0 hn1 rfl rfl rfl (decide_eq_true rfl) hf2 rfl rfl) rfl ?_
        intro w17 hq
        replace hown := own_mo hown hq
        replace Q1 := Q1.mo hq
        replace Q6 := Q6.mo hq
        replace Q7 := Q7.mo hq
        replace M := M.trans hq
        clear hq
        refine wl_alloc 33 #[.int .i64 0, .int .i64 0, .int .i64 0, .int .i64 0, .int .i64 0, .int .u64 0, .int .u64 0, .int .u64 0, .int .u64 0, .int .u64 0, .bool false, .bool false, .int .u64 0, .int .u64 0, .int .u64 0, .int .u64 0, .int .i64 0, .bool false, .int .u64 0, .int .u64 0, .int .u64 0, .int .u64 0, .int .i64 0] rfl (fun _ => by kernel_rfl) rfl ?_
        intro k8 w18 hk hz hq Q8
        have ne_k1_k8 : k1 ≠ k8 := by have := Q1.lt; omega
        have ne_k6_k8 : k6 ≠ k8 := by have := Q6.lt; omega
        have ne_k7_k8 : k7 ≠ k8 := by have := Q7.lt; omega
        have on_k8 : v.ownBlock ≠ some k8 := fun e => by have := (hown.lt _ e).2; omega
        have N_k8 : w.heap.size ≤ k8 := by have := M.size; omega
        replace hown := own_mo hown hq
        replace Q1 := Q1.mo hq
        replace Q6 := Q6.mo hq
        replace Q7 := Q7.mo hq
        replace M := M.trans hq
        clear hk hz hq
        refine wl_stx 33 (.tmp 9) (.tmp 32) k8 0 #[.int .i64 (1), .int .i64 (0), .int .i64 (0), .int .i64 (1), .int .i64 (2), .int .u64 (l0 (0)), .int .u64 (l1 (0)), .int .u64 (l2 (0)), .int .u64 (l3 (0)), .int .u64 (l4 (0)), .bool false, .bool false, .int .u64 (l0 (0)), .int .u64 (l1 (0)), .int .u64 (l2 (0)), .int .u64 (l3 (0)), .int .i64 (0), .bool false, .int .u64 (l0 (0)), .int .u64 (l1 (0)), .int .u64 (l2 (0)), .int .u64 (l3 (0)), .int .i64 (0)] [.int .i64 0, .int .i64 0, .int .i64 0, .int .i64 0, .int .i64 0, .int .u64 0, .int .u64 0, .int .u64 0, .int .u64 0, .int .u64 0, .bool false, .bool false, .int .u64 0, .int .u64 0, .int .u64 0, .int .u64 0, .int .i64 0, .bool false, .int .u64 0, .int .u64 0, .int .u64 0, .int .u64 0, .int .i64 0] [.int .i64 (1), .int .i64 (0), .int .i64 (0), .int .i64 (1), .int .i64 (2), .int .u64 (l0 (0)), .int .u64 (l1 (0)), .int .u64 (l2 (0)), .int .u64 (l3 (0)), .int .u64 (l4 (0)), .bool false, .bool false, .int .u64 (l0 (0)), .int .u64 (l1 (0)), .int .u64 (l2 (0)), .int .u64 (l3 (0)), .int .i64 (0), .bool false, .int .u64 (l0 (0)), .int .u64 (l1 (0)), .int .u64 (l2 (0)), .int .u64 (l3 (0)), .int .i64 (0)] Q8 rfl rfl rfl rfl rfl sz33 rfl rfl rfl ?_
        intro w19 hS Qn
        replace Q8 := Qn
        clear Qn
        replace Q1 := hS.other _ _ ne_k1_k8 Q1
        replace Q6 := hS.other _ _ ne_k6_k8 Q6
        replace Q7 := hS.other _ _ ne_k7_k8 Q7
        replace hown := own_st hS hown on_k8
        replace M := hS.mo _ N_k8 M
        clear hS
        refine w_nil ?_
        refine xn_then ?_
        refine w_seq ?_
        refine w_reg ?_
        refine wl_un (fun v => Instr.fieldAt 33 v 1) (.tmp 8) (pt k7 0) (pt k7 1) (fun _ => rfl) rfl (by kernel_rfl) rfl ?_
        refine wl_load 3 (.tmp 33) (pt k7 1) (.int .i64 (1)) rfl rfl (run_one Q7 3 1 rfl Try.underlying3 rfl) rfl ?_
        refine wl_bin (fun x y => do eqGuard .eql 3 (.tmp 34) (.const (.int .i64 (1))) x y; binOp .eql 3 x y) (.tmp 34) (.const (.int .i64 (1))) (.int .i64 (1)) (.int .i64 (1)) (.bool true) (fun _ => rfl) rfl rfl (by kernel_rfl) rfl ?_
        refine wl_mv (.tmp 35) (.bool true) (fun _ => rfl) rfl rfl ?_
        refine wl_un (fun v => Instr.fieldAt 33 v 1) (.tmp 9) (pt k8 0) (pt k8 1) (fun _ => rfl) rfl (by kernel_rfl) rfl ?_
        refine wl_load 3 (.tmp 37) (pt k8 1) (.int .i64 (0)) rfl rfl (run_one Q8 3 1 rfl Try.underlying3 rfl) rfl ?_
        refine wl_bin (fun x y => do eqGuard .eql 3 (.tmp 38) (.const (.int .i64 (1))) x y; binOp .eql 3 x y) (.tmp 38) (.const (.int .i64 (1))) (.int .i64 (0)) (.int .i64 (1)) (.bool false) (fun _ => rfl) rfl rfl (by kernel_rfl) rfl ?_
        refine wl_pick (.tmp 36) (.tmp 39) (.const (.bool false)) true (.bool false) (fun _ => rfl) rfl rfl rfl ?_
        refine w_nil ?_
        refine xn_then ?_
        refine w_condF rfl ?_
        refine w_skip ?_
        refine xn_blk ?_
        refine xn_then ?_
        refine w_reg ?_
        refine wl_bin (fun x y => do eqGuard .add 3 (.tmp 15) (.const (.int .i64 (1))) x y; binOp .add 3 x y) (.tmp 15) (.const (.int .i64 (1))) (.int .i64 ((i : Nat) : Int)) (.int .i64 (1)) (.int .i64 ((i + 1 : Nat) : Int)) (fun _ => rfl) g15 rfl (add1N (by omega) _ _ _) rfl ?_
        refine wl_mv (.tmp 49) (.int .i64 ((i + 1 : Nat) : Int)) (fun _ => rfl) rfl rfl ?_
        refine w_nil ?_
        exact xn_loop (m - 1) (by omega) ⟨i + 1, v, L, by omega, by omega, g3, g4, g5, g13, g14, rfl, hLo, hLs, hown, on_k1, Q1, M⟩
    | false =>
      have hf1p := of_decide_eq_false hf1
      refine w_reg ?_
      refine wl_load 26 (.tmp 7) (pt k6 0) (.agg #[.bool xb, .int .u64 (l0 (xn)), .int .u64 (l1 (xn)), .int .u64 (l2 (xn)), .int .u64 (l3 (xn)), .int .i64 (xs)]) rfl rfl (run_row Q6 26 0 6 [.bool xb, .int .u64 (l0 (xn)), .int .u64 (l1 (xn)), .int .u64 (l2 (xn)), .int .u64 (l3 (xn)), .int .i64 (xs)] rfl Try.underlying26 rfl sz26) rfl ?_
      refine wl_build 28 [(0, (.const (.int .i64 (1)))), (1, (.tmp 19))] [(0, .int .i64 (1)), (1, .agg #[.bool xb, .int .u64 (l0 (xn)), .int .u64 (l1 (xn)), .int .u64 (l2 (xn)), .int .u64 (l3 (xn)), .int .i64 (xs)])] (.agg #[.int .i64 (1), .bool xb, .int .u64 (l0 (xn)), .int .u64 (l1 (xn)), .int .u64 (l2 (xn)), .int .u64 (l3 (xn)), .int .i64 (xs), .bool false, .string ⟨#[]⟩, .int .i64 0]) rfl rfl (by kernel_rfl) rfl ?_
      refine wl_un (fun v => Instr.fieldAt 26 v 2) (.tmp 7) (pt k6 0) (pt k6 5) (fun _ => rfl) rfl (by kernel_rfl) rfl ?_
      refine wl_load 3 (.tmp 21) (pt k6 5) (.int .i64 (xs)) rfl rfl (run_one Q6 3 5 rfl Try.underlying3 rfl) rfl ?_
      refine wl_call 10 [(.tmp 20), (.tmp 22)] _ [.agg #[.int .i64 (1), .bool xb, .int .u64 (l0 (xn)), .int .u64 (l1 (xn)), .int .u64 (l2 (xn)), .int .u64 (l3 (xn)), .int .i64 (xs), .bool false, .string ⟨#[]⟩, .int .i64 0], .int .i64 (xs)] (.agg #[.int .i64 (1), .int .i64 (0), .int .i64 (0), .int .i64 (1), .int .i64 (2), .int .u64 (l0 (0)), .int .u64 (l1 (0)), .int .u64 (l2 (0)), .int .u64 (l3 (0)), .int .u64 (l4 (0)), .bool false, .bool false, .int .u64 (l0 (0)), .int .u64 (l1 (0)), .int .u64 (l2 (0)), .int .u64 (l3 (0)), .int .i64 (0), .bool false, .int .u64 (l0 (0)), .int .u64 (l1 (0)), .int .u64 (l2 (0)), .int .u64 (l3 (0)), .int .i64 (0)]) rfl rfl (fun _ _ => by kernel_rfl) (of_f 1 xb xn xs false ⟨#[]⟩ 0 xs hn0 hn1 rfl rfl rfl (decide_eq_true rfl) hf1 rfl rfl) rfl ?_
      intro w13 hq
      replace hown := own_mo hown hq
      replace Q1 := Q1.mo hq
      replace Q6 := Q6.mo hq
      replace M := M.trans hq
      clear hq
      refine wl_alloc 33 #[.int .i64 0, .int .i64 0, .int .i64 0, .int .i64 0, .int .i64 0, .int .u64 0, .int .u64 0, .int .u64 0, .int .u64 0, .int .u64 0, .bool false, .bool false, .int .u64 0, .int .u64 0, .int .u64 0, .int .u64 0, .int .i64 0, .bool false, .int .u64 0, .int .u64 0, .int .u64 0, .int .u64 0, .int .i64 0] rfl (fun _ => by kernel_rfl) rfl ?_
      intro k7 w14 hk hz hq Q7
      have ne_k1_k7 : k1 ≠ k7 := by have := Q1.lt; omega
      have ne_k6_k7 : k6 ≠ k7 := by have := Q6.lt; omega
      have on_k7 : v.ownBlock ≠ some k7 := fun e => by have := (hown.lt _ e).2; omega
      have N_k7 : w.heap.size ≤ k7 := by have := M.size; omega
      replace hown := own_mo hown hq
      replace Q1 := Q1.mo hq
      replace Q6 := Q6.mo hq
      replace M := M.trans hq
      clear hk hz hq
      refine wl_stx 33 (.tmp 8) (.tmp 23) k7 0 #[.int .i64 (1), .int .i64 (0), .int .i64 (0), .int .i64 (1), .int .i64 (2), .int .u64 (l0 (0)), .int .u64 (l1 (0)), .int .u64 (l2 (0)), .int .u64 (l3 (0)), .int .u64 (l4 (0)), .bool false, .bool false, .int .u64 (l0 (0)), .int .u64 (l1 (0)), .int .u64 (l2 (0)), .int .u64 (l3 (0)), .int .i64 (0), .bool false, .int .u64 (l0 (0)), .int .u64 (l1 (0)), .int .u64 (l2 (0)), .int .u64 (l3 (0)), .int .i64 (0)] [.int .i64 0, .int .i64 0, .int .i64 0, .int .i64 0, .int .i64 0, .int .u64 0, .int .u64 0, .int .u64 0, .int .u64 0, .int .u64 0, .bool false, .bool false, .int .u64 0, .int .u64 0, .int .u64 0, .int .u64 0, .int .i64 0, .bool false, .int .u64 0, .int .u64 0, .int .u64 0, .int .u64 0, .int .i64 0] [.int .i64 (1), .int .i64 (0), .int .i64 (0), .int .i64 (1), .int .i64 (2), .int .u64 (l0 (0)), .int .u64 (l1 (0)), .int .u64 (l2 (0)), .int .u64 (l3 (0)), .int .u64 (l4 (0)), .bool false, .bool false, .int .u64 (l0 (0)), .int .u64 (l1 (0)), .int .u64 (l2 (0)), .int .u64 (l3 (0)), .int .i64 (0), .bool false, .int .u64 (l0 (0)), .int .u64 (l1 (0)), .int .u64 (l2 (0)), .int .u64 (l3 (0)), .int .i64 (0)] Q7 rfl rfl rfl rfl rfl sz33 rfl rfl rfl ?_
      intro w15 hS Qn
      replace Q7 := Qn
      clear Qn
      replace Q1 := hS.other _ _ ne_k1_k7 Q1
      replace Q6 := hS.other _ _ ne_k6_k7 Q6
      replace hown := own_st hS hown on_k7
      replace M := hS.mo _ N_k7 M
      clear hS
      refine w_nil ?_
      refine xn_then ?_
      refine w_seq ?_
      refine w_reg ?_
      refine wl_un (fun v => Instr.fieldAt 26 v 0) (.tmp 7) (pt k6 0) (pt k6 0) (fun _ => rfl) rfl (by kernel_rfl) rfl ?_
      refine wl_load 4 (.tmp 24) (pt k6 0) (.bool xb) rfl rfl (run_one Q6 4 0 rfl Try.underlying4 rfl) rfl ?_
      refine wl_un (fun v => Op.unary .not v) (.tmp 25) (.bool xb) (.bool ((!xb))) (fun _ => rfl) rfl (by kernel_rfl) rfl ?_
      refine wl_un (fun v => Instr.fieldAt 26 v 0) (.tmp 7) (pt k6 0) (pt k6 0) (fun _ => rfl) rfl (by kernel_rfl) rfl ?_
      refine wl_stx1 4 (.tmp 27) (.tmp 26) k6 0 (.bool ((!xb))) [.bool xb, .int .u64 (l0 (xn)), .int .u64 (l1 (xn)), .int .u64 (l2 (xn)), .int .u64 (l3 (xn)), .int .i64 (xs)] [.bool ((!xb)), .int .u64 (l0 (xn)), .int .u64 (l1 (xn)), .int .u64 (l2 (xn)), .int .u64 (l3 (xn)), .int .i64 (xs)] Q6 rfl rfl rfl rfl rfl sz4 rfl rfl rfl rfl ?_
      intro w16 hS Qn
      replace Q6 := Qn
      clear Qn
      replace Q1 := hS.other _ _ ne_k1_k6 Q1
      replace Q7 := hS.other _ _ ne_k6_k7.symm Q7
      replace hown := own_st hS hown on_k6
      replace M := hS.mo _ N_k6 M
      clear hS
      refine w_nil ?_
      refine xn_then ?_
      refine w_seq ?_
      cases hf2 : decide (ck (!xb) xn xs = 0) with
      | true =>
        have hf2p := of_decide_eq_true hf2
        refine w_reg ?_
        refine wl_load 26 (.tmp 7) (pt k6 0) (.agg #[.bool ((!xb)), .int .u64 (l0 (xn)), .int .u64 (l1 (xn)), .int .u64 (l2 (xn)), .int .u64 (l3 (xn)), .int .i64 (xs)]) rfl rfl (run_row Q6 26 0 6 [.bool ((!xb)), .int .u64 (l0 (xn)), .int .u64 (l1 (xn)), .int .u64 (l2 (xn)), .int .u64 (l3 (xn)), .int .i64 (xs)] rfl Try.underlying26 rfl sz26) rfl ?_
        refine wl_build 28 [(0, (.const (.int .i64 (1)))), (1, (.tmp 28))] [(0, .int .i64 (1)), (1, .agg #[.bool ((!xb)), .int .u64 (l0 (xn)), .int .u64 (l1 (xn)), .int .u64 (l2 (xn)), .int .u64 (l3 (xn)), .int .i64 (xs)])] (.agg #[.int .i64 (1), .bool ((!xb)), .int .u64 (l0 (xn)), .int .u64 (l1 (xn)), .int .u64 (l2 (xn)), .int .u64 (l3 (xn)), .int .i64 (xs), .bool false, .string ⟨#[]⟩, .int .i64 0]) rfl rfl (by kernel_rfl) rfl ?_
        refine wl_un (fun v => Instr.fieldAt 26 v 2) (.tmp 7) (pt k6 0) (pt k6 5) (fun _ => rfl) rfl (by kernel_rfl) rfl ?_
        refine wl_load 3 (.tmp 30) (pt k6 5) (.int .i64 (xs)) rfl rfl (run_one Q6 3 5 rfl Try.underlying3 rfl) rfl ?_
        refine wl_call 10 [(.tmp 29), (.tmp 31)] _ [.agg #[.int .i64 (1), .bool ((!xb)), .int .u64 (l0 (xn)), .int .u64 (l1 (xn)), .int .u64 (l2 (xn)), .int .u64 (l3 (xn)), .int .i64 (xs), .bool false, .string ⟨#[]⟩, .int .i64 0], .int .i64 (xs)] (.agg #[.int .i64 (1), .int .i64 (1), .int .i64 (0), .int .i64 (0), .int .i64 (0), .int .u64 (l0 (sv (!xb) xn)), .int .u64 (l1 (sv (!xb) xn)), .int .u64 (l2 (sv (!xb) xn)), .int .u64 (l3 (sv (!xb) xn)), .int .u64 (l4 (sv (!xb) xn)), .bool true, .bool (!xb), .int .u64 (l0 (xn)), .int .u64 (l1 (xn)), .int .u64 (l2 (xn)), .int .u64 (l3 (xn)), .int .i64 (xs), .bool (!xb), .int .u64 (l0 (xn)), .int .u64 (l1 (xn)), .int .u64 (l2 (xn)), .int .u64 (l3 (xn)), .int .i64 (xs)]) rfl rfl (fun _ _ => by kernel_rfl) (of_d 1 (!xb) xn xs false ⟨#[]⟩ 0 xs hn0 hn1 rfl rfl rfl (decide_eq_true rfl) hf2) rfl ?_
        intro w17 hq
        replace hown := own_mo hown hq
        replace Q1 := Q1.mo hq
        replace Q6 := Q6.mo hq
        replace Q7 := Q7.mo hq
        replace M := M.trans hq
        clear hq
        refine wl_alloc 33 #[.int .i64 0, .int .i64 0, .int .i64 0, .int .i64 0, .int .i64 0, .int .u64 0, .int .u64 0, .int .u64 0, .int .u64 0, .int .u64 0, .bool false, .bool false, .int .u64 0, .int .u64 0, .int .u64 0, .int .u64 0, .int .i64 0, .bool false, .int .u64 0, .int .u64 0, .int .u64 0, .int .u64 0, .int .i64 0] rfl (fun _ => by kernel_rfl) rfl ?_
        intro k8 w18 hk hz hq Q8
        have ne_k1_k8 : k1 ≠ k8 := by have := Q1.lt; omega
        have ne_k6_k8 : k6 ≠ k8 := by have := Q6.lt; omega
        have ne_k7_k8 : k7 ≠ k8 := by have := Q7.lt; omega
        have on_k8 : v.ownBlock ≠ some k8 := fun e => by have := (hown.lt _ e).2; omega
        have N_k8 : w.heap.size ≤ k8 := by have := M.size; omega
        replace hown := own_mo hown hq
        replace Q1 := Q1.mo hq
        replace Q6 := Q6.mo hq
        replace Q7 := Q7.mo hq
        replace M := M.trans hq
        clear hk hz hq
        refine wl_stx 33 (.tmp 9) (.tmp 32) k8 0 #[.int .i64 (1), .int .i64 (1), .int .i64 (0), .int .i64 (0), .int .i64 (0), .int .u64 (l0 (sv (!xb) xn)), .int .u64 (l1 (sv (!xb) xn)), .int .u64 (l2 (sv (!xb) xn)), .int .u64 (l3 (sv (!xb) xn)), .int .u64 (l4 (sv (!xb) xn)), .bool true, .bool (!xb), .int .u64 (l0 (xn)), .int .u64 (l1 (xn)), .int .u64 (l2 (xn)), .int .u64 (l3 (xn)), .int .i64 (xs), .bool (!xb), .int .u64 (l0 (xn)), .int .u64 (l1 (xn)), .int .u64 (l2 (xn)), .int .u64 (l3 (xn)), .int .i64 (xs)] [.int .i64 0, .int .i64 0, .int .i64 0, .int .i64 0, .int .i64 0, .int .u64 0, .int .u64 0, .int .u64 0, .int .u64 0, .int .u64 0, .bool false, .bool false, .int .u64 0, .int .u64 0, .int .u64 0, .int .u64 0, .int .i64 0, .bool false, .int .u64 0, .int .u64 0, .int .u64 0, .int .u64 0, .int .i64 0] [.int .i64 (1), .int .i64 (1), .int .i64 (0), .int .i64 (0), .int .i64 (0), .int .u64 (l0 (sv (!xb) xn)), .int .u64 (l1 (sv (!xb) xn)), .int .u64 (l2 (sv (!xb) xn)), .int .u64 (l3 (sv (!xb) xn)), .int .u64 (l4 (sv (!xb) xn)), .bool true, .bool (!xb), .int .u64 (l0 (xn)), .int .u64 (l1 (xn)), .int .u64 (l2 (xn)), .int .u64 (l3 (xn)), .int .i64 (xs), .bool (!xb), .int .u64 (l0 (xn)), .int .u64 (l1 (xn)), .int .u64 (l2 (xn)), .int .u64 (l3 (xn)), .int .i64 (xs)] Q8 rfl rfl rfl rfl rfl sz33 rfl rfl rfl ?_
        intro w19 hS Qn
        replace Q8 := Qn
        clear Qn
        replace Q1 := hS.other _ _ ne_k1_k8 Q1
        replace Q6 := hS.other _ _ ne_k6_k8 Q6
        replace Q7 := hS.other _ _ ne_k7_k8 Q7
        replace hown := own_st hS hown on_k8
        replace M := hS.mo _ N_k8 M
        clear hS
        refine w_nil ?_
        refine xn_then ?_
        refine w_seq ?_
        refine w_reg ?_
        refine wl_un (fun v => Instr.fieldAt 33 v 1) (.tmp 8) (pt k7 0) (pt k7 1) (fun _ => rfl) rfl (by kernel_rfl) rfl ?_
        refine wl_load 3 (.tmp 33) (pt k7 1) (.int .i64 (0)) rfl rfl (run_one Q7 3 1 rfl Try.underlying3 rfl) rfl ?_
        refine wl_bin (fun x y => do eqGuard .eql 3 (.tmp 34) (.const (.int .i64 (1))) x y; binOp .eql 3 x y) (.tmp 34) (.const (.int .i64 (1))) (.int .i64 (0)) (.int .i64 (1)) (.bool false) (fun _ => rfl) rfl rfl (by kernel_rfl) rfl ?_
        refine wl_mv (.tmp 35) (.bool false) (fun _ => rfl) rfl rfl ?_
        refine wl_skip rfl ?_
        refine wl_skip rfl ?_
        refine wl_skip rfl ?_
        refine wl_pick (.tmp 36) (.tmp 39) (.const (.bool false)) false (.bool false) (fun _ => rfl) rfl rfl rfl ?_
        refine w_nil ?_
        refine xn_then ?_
        refine w_condF rfl ?_
        refine w_skip ?_
        refine xn_blk ?_
        refine xn_then ?_
        refine w_reg ?_
        refine wl_bin (fun x y => do eqGuard .add 3 (.tmp 15) (.const (.int .i64 (1))) x y; binOp .add 3 x y) (.tmp 15) (.const (.int .i64 (1))) (.int .i64 ((i : Nat) : Int)) (.int .i64 (1)) (.int .i64 ((i + 1 : Nat) : Int)) (fun _ => rfl) g15 rfl (add1N (by omega) _ _ _) rfl ?_
        refine wl_mv (.tmp 49) (.int .i64 ((i + 1 : Nat) : Int)) (fun _ => rfl) rfl rfl ?_
        refine w_nil ?_
        exact xn_loop (m - 1) (by omega) ⟨i + 1, v, L, by omega, by omega, g3, g4, g5, g13, g14, rfl, hLo, hLs, hown, on_k1, Q1, M⟩
      | false =>
        have hf2p := of_decide_eq_false hf2
        refine w_reg ?_
        refine wl_load 26 (.tmp 7) (pt k6 0) (.agg #[.bool ((!xb)), .int .u64 (l0 (xn)), .int .u64 (l1 (xn)), .int .u64 (l2 (xn)), .int .u64 (l3 (xn)), .int .i64 (xs)]) rfl rfl (run_row Q6 26 0 6 [.bool ((!xb)), .int .u64 (l0 (xn)), .int .u64 (l1 (xn)), .int .u64 (l2 (xn)), .int .u64 (l3 (xn)), .int .i64 (xs)] rfl Try.underlying26 rfl sz26) rfl ?_
        refine wl_build 28 [(0, (.const (.int .i64 (1)))), (1, (.tmp 28))] [(0, .int .i64 (1)), (1, .agg #[.bool ((!xb)), .int .u64 (l0 (xn)), .int .u64 (l1 (xn)), .int .u64 (l2 (xn)), .int .u64 (l3 (xn)), .int .i64 (xs)])] (.agg #[.int .i64 (1), .bool ((!xb)), .int .u64 (l0 (xn)), .int .u64 (l1 (xn)), .int .u64 (l2 (xn)), .int .u64 (l3 (xn)), .int .i64 (xs), .bool false, .string ⟨#[]⟩, .int .i64 0]) rfl rfl (by kernel_rfl) rfl ?_
        refine wl_un (fun v => Instr.fieldAt 26 v 2) (.tmp 7) (pt k6 0) (pt k6 5) (fun _ => rfl) rfl (by kernel_rfl) rfl ?_
        refine wl_load 3 (.tmp 30) (pt k6 5) (.int .i64 (xs)) rfl rfl (run_one Q6 3 5 rfl Try.underlying3 rfl) rfl ?_
        refine wl_call 10 [(.tmp 29), (.tmp 31)] _ [.agg #[.int .i64 (1), .bool ((!xb)), .int .u64 (l0 (xn)), .int .u64 (l1 (xn)), .int .u64 (l2 (xn)), .int .u64 (l3 (xn)), .int .i64 (xs), .bool false, .string ⟨#[]⟩, .int .i64 0], .int .i64 (xs)] (.agg #[.int .i64 (1), .int .i64 (0), .int .i64 (0), .int .i64 (1), .int .i64 (2), .int .u64 (l0 (0)), .int .u64 (l1 (0)), .int .u64 (l2 (0)), .int .u64 (l3 (0)), .int .u64 (l4 (0)), .bool false, .bool false, .int .u64 (l0 (0)), .int .u64 (l1 (0)), .int .u64 (l2 (0)), .int .u64 (l3 (0)), .int .i64 (0), .bool false, .int .u64 (l0 (0)), .int .u64 (l1 (0)), .int .u64 (l2 (0)), .int .u64 (l3 (0)), .int .i64 (0)]) rfl rfl (fun _ _ => by kernel_rfl) (of_f 1 (!xb) xn xs false ⟨#[]⟩ 0 xs hn0 hn1 rfl rfl rfl (decide_eq_true rfl) hf2 rfl rfl) rfl ?_
        intro w17 hq
        replace hown := own_mo hown hq
        replace Q1 := Q1.mo hq
        replace Q6 := Q6.mo hq
        replace Q7 := Q7.mo hq
        replace M := M.trans hq
        clear hq
        refine wl_alloc 33 #[.int .i64 0, .int .i64 0, .int .i64 0, .int .i64 0, .int .i64 0, .int .u64 0, .int .u64 0, .int .u64 0, .int .u64 0, .int .u64 0, .bool false, .bool false, .int .u64 0, .int .u64 0, .int .u64 0, .int .u64 0, .int .i64 0, .bool false, .int .u64 0, .int .u64 0, .int .u64 0, .int .u64 0, .int .i64 0] rfl (fun _ => by kernel_rfl) rfl ?_
        intro k8 w18 hk hz hq Q8
        have ne_k1_k8 : k1 ≠ k8 := by have := Q1.lt; omega
        have ne_k6_k8 : k6 ≠ k8 := by have := Q6.lt; omega
        have ne_k7_k8 : k7 ≠ k8 := by have := Q7.lt; omega
        have on_k8 : v.ownBlock ≠ some k8 := fun e => by have := (hown.lt _ e).2; omega
        have N_k8 : w.heap.size ≤ k8 := by have := M.size; omega
        replace hown := own_mo hown hq
        replace Q1 := Q1.mo hq
        replace Q6 := Q6.mo hq
        replace Q7 := Q7.mo hq
        replace M := M.trans hq
        clear hk hz hq
        refine wl_stx 33 (.tmp 9) (.tmp 32) k8 0 #[.int .i64 (1), .int .i64 (0), .int .i64 (0), .int .i64 (1), .int .i64 (2), .int .u64 (l0 (0)), .int .u64 (l1 (0)), .int .u64 (l2 (0)), .int .u64 (l3 (0)), .int .u64 (l4 (0)), .bool false, .bool false, .int .u64 (l0 (0)), .int .u64 (l1 (0)), .int .u64 (l2 (0)), .int .u64 (l3 (0)), .int .i64 (0), .bool false, .int .u64 (l0 (0)), .int .u64 (l1 (0)), .int .u64 (l2 (0)), .int .u64 (l3 (0)), .int .i64 (0)] [.int .i64 0, .int .i64 0, .int .i64 0, .int .i64 0, .int .i64 0, .int .u64 0, .int .u64 0, .int .u64 0, .int .u64 0, .int .u64 0, .bool false, .bool false, .int .u64 0, .int .u64 0, .int .u64 0, .int .u64 0, .int .i64 0, .bool false, .int .u64 0, .int .u64 0, .int .u64 0, .int .u64 0, .int .i64 0] [.int .i64 (1), .int .i64 (0), .int .i64 (0), .int .i64 (1), .int .i64 (2), .int .u64 (l0 (0)), .int .u64 (l1 (0)), .int .u64 (l2 (0)), .int .u64 (l3 (0)), .int .u64 (l4 (0)), .bool false, .bool false, .int .u64 (l0 (0)), .int .u64 (l1 (0)), .int .u64 (l2 (0)), .int .u64 (l3 (0)), .int .i64 (0), .bool false, .int .u64 (l0 (0)), .int .u64 (l1 (0)), .int .u64 (l2 (0)), .int .u64 (l3 (0)), .int .i64 (0)] Q8 rfl rfl rfl rfl rfl sz33 rfl rfl rfl ?_
        intro w19 hS Qn
        replace Q8 := Qn
        clear Qn
        replace Q1 := hS.other _ _ ne_k1_k8 Q1
        replace Q6 := hS.other _ _ ne_k6_k8 Q6
        replace Q7 := hS.other _ _ ne_k7_k8 Q7
        replace hown := own_st hS hown on_k8
        replace M := hS.mo _ N_k8 M
        clear hS
        refine w_nil ?_
        refine xn_then ?_
        refine w_seq ?_
        refine w_reg ?_
        refine wl_un (fun v => Instr.fieldAt 33 v 1) (.tmp 8) (pt k7 0) (pt k7 1) (fun _ => rfl) rfl (by kernel_rfl) rfl ?_
        refine wl_load 3 (.tmp 33) (pt k7 1) (.int .i64 (0)) rfl rfl (run_one Q7 3 1 rfl Try.underlying3 rfl) rfl ?_
        refine wl_bin (fun x y => do eqGuard .eql 3 (.tmp 34) (.const (.int .i64 (1))) x y; binOp .eql 3 x y) (.tmp 34) (.const (.int .i64 (1))) (.int .i64 (0)) (.int .i64 (1)) (.bool false) (fun _ => rfl) rfl rfl (by kernel_rfl) rfl ?_
        refine wl_mv (.tmp 35) (.bool false) (fun _ => rfl) rfl rfl ?_
        refine wl_skip rfl ?_
        refine wl_skip rfl ?_
        refine wl_skip rfl ?_
        refine wl_pick (.tmp 36) (.tmp 39) (.const (.bool false)) false (.bool false) (fun _ => rfl) rfl rfl rfl ?_
        refine w_nil ?_
        refine xn_then ?_
        refine w_condF rfl ?_
        refine w_skip ?_
        refine xn_blk ?_
        refine xn_then ?_
        refine w_reg ?_
        refine wl_bin (fun x y => do eqGuard .add 3 (.tmp 15) (.const (.int .i64 (1))) x y; binOp .add 3 x y) (.tmp 15) (.const (.int .i64 (1))) (.int .i64 ((i : Nat) : Int)) (.int .i64 (1)) (.int .i64 ((i + 1 : Nat) : Int)) (fun _ => rfl) g15 rfl (add1N (by omega) _ _ _) rfl ?_
        refine wl_mv (.tmp 49) (.int .i64 ((i + 1 : Nat) : Int)) (fun _ => rfl) rfl rfl ?_
        refine w_nil ?_
        exact xn_loop (m - 1) (by omega) ⟨i + 1, v, L, by omega, by omega, g3, g4, g5, g13, g14, rfl, hLo, hLs, hown, on_k1, Q1, M⟩
  | false =>
    have hf0p := of_decide_eq_false hf0
    refine w_reg ?_
    refine wl_bin (fun x y => do eqGuard .lss 3 (.tmp 15) (.tmp 14) x y; binOp .lss 3 x y) (.tmp 15) (.tmp 14) (.int .i64 ((i : Nat) : Int)) (.int .i64 ((Xs.length : Int))) (.bool false) (fun _ => rfl) g15 g14 (ltN hf0 _ _ _) rfl ?_
    refine w_nil ?_
    refine xn_then ?_
    refine w_seq ?_
    refine w_condF rfl ?_
    refine w_exit ?_
    refine xx_then ?_
    refine xx_then ?_
    refine xx_blk ?_
    refine xn_then ?_
    refine w_seq ?_
    cases hf1 : decide (ck db dn ds = 0) with
    | true =>
      have hf1p := of_decide_eq_true hf1
      refine w_reg ?_
      refine wl_load 26 (.tmp 3) (pt k1 0) (.agg #[.bool db, .int .u64 (l0 (dn)), .int .u64 (l1 (dn)), .int .u64 (l2 (dn)), .int .u64 (l3 (dn)), .int .i64 (ds)]) rfl g3 (run_row Q1 26 0 6 [.bool db, .int .u64 (l0 (dn)), .int .u64 (l1 (dn)), .int .u64 (l2 (dn)), .int .u64 (l3 (dn)), .int .i64 (ds)] rfl Try.underlying26 rfl sz26) rfl ?_
      refine wl_build 28 [(0, (.const (.int .i64 (1)))), (1, (.tmp 50))] [(0, .int .i64 (1)), (1, .agg #[.bool db, .int .u64 (l0 (dn)), .int .u64 (l1 (dn)), .int .u64 (l2 (dn)), .int .u64 (l3 (dn)), .int .i64 (ds)])] (.agg #[.int .i64 (1), .bool db, .int .u64 (l0 (dn)), .int .u64 (l1 (dn)), .int .u64 (l2 (dn)), .int .u64 (l3 (dn)), .int .i64 (ds), .bool false, .string ⟨#[]⟩, .int .i64 0]) rfl rfl (by kernel_rfl) rfl ?_
      refine wl_un (fun v => Instr.fieldAt 26 v 2) (.tmp 3) (pt k1 0) (pt k1 5) (fun _ => rfl) g3 (by kernel_rfl) rfl ?_
      refine wl_load 3 (.tmp 52) (pt k1 5) (.int .i64 (ds)) rfl rfl (run_one Q1 3 5 rfl Try.underlying3 rfl) rfl ?_
      refine wl_call 10 [(.tmp 51), (.tmp 53)] _ [.agg #[.int .i64 (1), .bool db, .int .u64 (l0 (dn)), .int .u64 (l1 (dn)), .int .u64 (l2 (dn)), .int .u64 (l3 (dn)), .int .i64 (ds), .bool false, .string ⟨#[]⟩, .int .i64 0], .int .i64 (ds)] (.agg #[.int .i64 (1), .int .i64 (1), .int .i64 (0), .int .i64 (0), .int .i64 (0), .int .u64 (l0 (sv db dn)), .int .u64 (l1 (sv db dn)), .int .u64 (l2 (sv db dn)), .int .u64 (l3 (sv db dn)), .int .u64 (l4 (sv db dn)), .bool true, .bool db, .int .u64 (l0 (dn)), .int .u64 (l1 (dn)), .int .u64 (l2 (dn)), .int .u64 (l3 (dn)), .int .i64 (ds), .bool db, .int .u64 (l0 (dn)), .int .u64 (l1 (dn)), .int .u64 (l2 (dn)), .int .u64 (l3 (dn)), .int .i64 (ds)]) rfl rfl (fun _ _ => by kernel_rfl) (of_d 1 db dn ds false ⟨#[]⟩ 0 ds hd0 hd1 rfl rfl rfl (decide_eq_true rfl) hf1) rfl ?_
      intro w11 hq
      replace hown := own_mo hown hq
      replace Q1 := Q1.mo hq
      replace M := M.trans hq
      clear hq
      refine wl_alloc 33 #[.int .i64 0, .int .i64 0, .int .i64 0, .int .i64 0, .int .i64 0, .int .u64 0, .int .u64 0, .int .u64 0, .int .u64 0, .int .u64 0, .bool false, .bool false, .int .u64 0, .int .u64 0, .int .u64 0, .int .u64 0, .int .i64 0, .bool false, .int .u64 0, .int .u64 0, .int .u64 0, .int .u64 0, .int .i64 0] rfl (fun _ => by kernel_rfl) rfl ?_
      intro k6 w12 hk hz hq Q6
      have ne_k1_k6 : k1 ≠ k6 := by have := Q1.lt; omega
      have on_k6 : v.ownBlock ≠ some k6 := fun e => by have := (hown.lt _ e).2; omega
      have N_k6 : w.heap.size ≤ k6 := by have := M.size; omega
      replace hown := own_mo hown hq
      replace Q1 := Q1.mo hq
      replace M := M.trans hq
      clear hk hz hq
      refine wl_stx 33 (.tmp 10) (.tmp 54) k6 0 #[.int .i64 (1), .int .i64 (1), .int .i64 (0), .int .i64 (0), .int .i64 (0), .int .u64 (l0 (sv db dn)), .int .u64 (l1 (sv db dn)), .int .u64 (l2 (sv db dn)), .int .u64 (l3 (sv db dn)), .int .u64 (l4 (sv db dn)), .bool true, .bool db, .int .u64 (l0 (dn)), .int .u64 (l1 (dn)), .int .u64 (l2 (dn)), .int .u64 (l3 (dn)), .int .i64 (ds), .bool db, .int .u64 (l0 (dn)), .int .u64 (l1 (dn)), .int .u64 (l2 (dn)), .int .u64 (l3 (dn)), .int .i64 (ds)] [.int .i64 0, .int .i64 0, .int .i64 0, .int .i64 0, .int .i64 0, .int .u64 0, .int .u64 0, .int .u64 0, .int .u64 0, .int .u64 0, .bool false, .bool false, .int .u64 0, .int .u64 0, .int .u64 0, .int .u64 0, .int .i64 0, .bool false, .int .u64 0, .int .u64 0, .int .u64 0, .int .u64 0, .int .i64 0] [.int .i64 (1), .int .i64 (1), .int .i64 (0), .int .i64 (0), .int .i64 (0), .int .u64 (l0 (sv db dn)), .int .u64 (l1 (sv db dn)), .int .u64 (l2 (sv db dn)), .int .u64 (l3 (sv db dn)), .int .u64 (l4 (sv db dn)), .bool true, .bool db, .int .u64 (l0 (dn)), .int .u64 (l1 (dn)), .int .u64 (l2 (dn)), .int .u64 (l3 (dn)), .int .i64 (ds), .bool db, .int .u64 (l0 (dn)), .int .u64 (l1 (dn)), .int .u64 (l2 (dn)), .int .u64 (l3 (dn)), .int .i64 (ds)] Q6 rfl rfl rfl rfl rfl sz33 rfl rfl rfl ?_
      intro w13 hS Qn
      replace Q6 := Qn
      clear Qn
      replace Q1 := hS.other _ _ ne_k1_k6 Q1
      replace hown := own_st hS hown on_k6
      replace M := hS.mo _ N_k6 M
      clear hS
      refine w_nil ?_
      refine xn_then ?_
      refine w_seq ?_
      refine w_seq ?_
      refine w_reg ?_
      refine wl_call 9 [] _ [] (.bool true) rfl rfl (fun _ _ => by kernel_rfl) (live_n) rfl ?_
      intro w14 hq
      replace hown := own_mo hown hq
      replace Q1 := Q1.mo hq
      replace Q6 := Q6.mo hq
      replace M := M.trans hq
      clear hq
      refine wl_un (fun v => Op.unary .not v) (.tmp 55) (.bool true) (.bool false) (fun _ => rfl) rfl (by kernel_rfl) rfl ?_
      refine wl_mv (.tmp 56) (.bool false) (fun _ => rfl) rfl rfl ?_
      refine wl_un (fun v => Instr.fieldAt 33 v 1) (.tmp 10) (pt k6 0) (pt k6 1) (fun _ => rfl) rfl (by kernel_rfl) rfl ?_
      refine wl_load 3 (.tmp 58) (pt k6 1) (.int .i64 (1)) rfl rfl (run_one Q6 3 1 rfl Try.underlying3 rfl) rfl ?_
      refine wl_bin (fun x y => do eqGuard .neq 3 (.tmp 59) (.const (.int .i64 (1))) x y; binOp .neq 3 x y) (.tmp 59) (.const (.int .i64 (1))) (.int .i64 (1)) (.int .i64 (1)) (.bool false) (fun _ => rfl) rfl rfl (by kernel_rfl) rfl ?_
      refine wl_pick (.tmp 57) (.const (.bool true)) (.tmp 60) false (.bool false) (fun _ => rfl) rfl rfl rfl ?_
      refine w_nil ?_
      refine xn_then ?_
      refine w_condF rfl ?_
      refine w_skip ?_
      refine xn_then ?_
      refine w_seq ?_
      have hT : Sm.ok (nsm db dn ds) := nsm_ok hd0 hd1
      have hLT : ∀ U ∈ L ++ [(nsm db dn ds)], U.ok := fun U hU => by rcases List.mem_append.1 hU with h | h; exact hLo U h; rw [List.mem_singleton.1 h]; exact hT
      have hJ : ((L ++ [(nsm db dn ds)]).foldl jn sm0).tt = sv db dn := by rw [fold_tt, tts_app, hLs]; simp [tts, nsm, sm0]
      have hN : ∀ w, Calls Try.prog 18 #[wv ((L ++ [(nsm db dn ds)]).foldl jn sm0).tt, .int .i64 ds] w fun e w' => e = .returned (.tuple #[dc db dn ds, .int .i64 0]) ∧ Mo w w' := fun w => by
          have h := narrow_n (w := w) (sv db dn) ds
          rw [nrw_back hd0 hd1 (of_decide_eq_true hf1)] at h
          rw [hJ]; exact h
      have hvb : ∀ k, v.ownBlock = some k → k < w14.heap.size := fun k e => (hown.lt k e).2
      have hG0 : AppW v w14 w14.drew ∧ w14.drew.ownsRow w.heap.size 33 23 v L.length (smls L) := ⟨AppW.refl _ _, own_mo hown ((Mo.refl _).drew)⟩
      have hgr : ∀ a b : World, (AppW v w14 a ∧ a.ownsRow w.heap.size 33 23 v L.length (smls L)) → Mo a b → (AppW v w14 b ∧ b.ownsRow w.heap.size 33 23 v L.length (smls L)) := fun a b h m => ⟨h.1.grow m, own_mo h.2 m⟩
      have hsm : Smos [vq v, vq (smv (nsm db dn ds)), fun u w9 => ∃ k, u = .slice (some ⟨k, 0, none⟩) 1 1 ∧ w14.heap.size ≤ k ∧ At w9 k (sml (nsm db dn ds)), fun u w9 => w9.ownsRow w.heap.size 33 23 u (L.length + 1) (smls L ++ sml (nsm db dn ds)), vq (smv ((L ++ [(nsm db dn ds)]).foldl jn sm0)), vq (pt k1 5), vq (.int .i64 ds), vq (.tuple #[.agg #[.bool db, .int .u64 (l0 (dn)), .int .u64 (l1 (dn)), .int .u64 (l2 (dn)), .int .u64 (l3 (dn)), .int .i64 (ds)], .int .i64 (0)]), vq (.tuple #[.agg #[.bool db, .int .u64 (l0 (dn)), .int .u64 (l1 (dn)), .int .u64 (l2 (dn)), .int .u64 (l3 (dn)), .int .i64 (ds)], .int .i64 (0)]), vq (.agg #[.bool db, .int .u64 (l0 (dn)), .int .u64 (l1 (dn)), .int .u64 (l2 (dn)), .int .u64 (l3 (dn)), .int .i64 (ds)]), vq (.int .i64 0), fun u w9 => ∃ k, u = pt k 0 ∧ w14.heap.size ≤ k ∧ At w9 k [.bool false, .int .u64 0, .int .u64 0, .int .u64 0, .int .u64 0, .int .i64 0]] := smos_cons (smo_vq _) (smos_cons (smo_vq _) (smos_cons (fun u a b ⟨k, h1, h2, h3⟩ m => ⟨k, h1, h2, h3.mo m⟩) (smos_cons (fun u a b h m => own_mo h m) (smos_cons (smo_vq _) (smos_cons (smo_vq _) (smos_cons (smo_vq _) (smos_cons (smo_vq _) (smos_cons (smo_vq _) (smos_cons (smo_vq _) (smos_cons (smo_vq _) (smos_cons (fun u a b ⟨k, h1, h2, h3⟩ m => ⟨k, h1, h2, h3.mo m⟩) (smos_nil))))))))))))
      refine w_ogc 12 (fun w9 => AppW v w14 w9 ∧ w9.ownsRow w.heap.size 33 23 v L.length (smls L)) [vq v, vq (smv (nsm db dn ds)), fun u w9 => ∃ k, u = .slice (some ⟨k, 0, none⟩) 1 1 ∧ w14.heap.size ≤ k ∧ At w9 k (sml (nsm db dn ds)), fun u w9 => w9.ownsRow w.heap.size 33 23 u (L.length + 1) (smls L ++ sml (nsm db dn ds)), vq (smv ((L ++ [(nsm db dn ds)]).foldl jn sm0)), vq (pt k1 5), vq (.int .i64 ds), vq (.tuple #[.agg #[.bool db, .int .u64 (l0 (dn)), .int .u64 (l1 (dn)), .int .u64 (l2 (dn)), .int .u64 (l3 (dn)), .int .i64 (ds)], .int .i64 (0)]), vq (.tuple #[.agg #[.bool db, .int .u64 (l0 (dn)), .int .u64 (l1 (dn)), .int .u64 (l2 (dn)), .int .u64 (l3 (dn)), .int .i64 (ds)], .int .i64 (0)]), vq (.agg #[.bool db, .int .u64 (l0 (dn)), .int .u64 (l1 (dn)), .int .u64 (l2 (dn)), .int .u64 (l3 (dn)), .int .i64 (ds)]), vq (.int .i64 0), fun u w9 => ∃ k, u = pt k 0 ∧ w14.heap.size ≤ k ∧ At w9 k [.bool false, .int .u64 0, .int .u64 0, .int .u64 0, .int .u64 0, .int .i64 0]] [10] (by kernel_rfl) (by kernel_rfl) (by kernel_rfl) (by kernel_rfl) rfl (by kernel_rfl) (by kernel_rfl) (latec_cons ⟨_, _, rfl, rfl, fun _ _ _ _ h => h, fun f hd => ⟨rfl, la_un (fun v => Instr.extract v 1) (.tmp 63) (.tuple #[.agg #[.bool db, .int .u64 (l0 (dn)), .int .u64 (l1 (dn)), .int .u64 (l2 (dn)), .int .u64 (l3 (dn)), .int .i64 (ds)], .int .i64 (0)]) (.int .i64 0) (fun _ => rfl) (hd 8 rfl _ rfl) (fun w => by kernel_rfl)⟩⟩ latec_nil) hG0 ?_ ?_
      · refine ea_cons ?_ (ea_cons ?_ (ea_cons ?_ (ea_cons ?_ (ea_cons ?_ (ea_cons ?_ (ea_cons ?_ (ea_cons ?_ (ea_cons ?_ (ea_cons ?_ (ea_cons ?_ (ea_cons ?_ (ea_nil))))))))))))
        · exact oc_eq (v) rfl hgr hsm (fun f wf hG hd K hK => go_run rfl (wo_mv (.tmp 5) v (fun _ => rfl) g5 (hK _ (Mo.refl _))))
        · exact oc_eq (smv (nsm db dn ds)) rfl hgr hsm (fun f wf hG hd K hK => have Q6 := hG.1.at Q6 on_k6; go_run rfl (wo_load 33 (.tmp 10) (pt k6 0) (smv (nsm db dn ds)) rfl rfl (run_row Q6 33 0 23 [.int .i64 (1), .int .i64 (1), .int .i64 (0), .int .i64 (0), .int .i64 (0), .int .u64 (l0 (sv db dn)), .int .u64 (l1 (sv db dn)), .int .u64 (l2 (sv db dn)), .int .u64 (l3 (sv db dn)), .int .u64 (l4 (sv db dn)), .bool true, .bool db, .int .u64 (l0 (dn)), .int .u64 (l1 (dn)), .int .u64 (l2 (dn)), .int .u64 (l3 (dn)), .int .i64 (ds), .bool db, .int .u64 (l0 (dn)), .int .u64 (l1 (dn)), .int .u64 (l2 (dn)), .int .u64 (l3 (dn)), .int .i64 (ds)] rfl Try.underlying33 rfl sz33) (hK _ (Mo.refl _))))
        · refine ⟨fun f wf hG hd K hK => go_run rfl (wo_bs1 (.tmp 65) (nsm db dn ds) rfl (hd 1 rfl) (fun k w9 hk _ hq hA => hK _ w9 (hgr _ _ hG hq) ⟨k, rfl, by have := hG.1.size; omega, hA⟩ (fun j u _ hr => hsm j u _ _ hr hq)))⟩
        · refine ⟨fun f wf hG hd K hK => ?_⟩
          obtain ⟨k9, e9, h9, hA9⟩ := hd 2 rfl
          refine go_run rfl (wo_app36 (.tmp 64) (.tmp 66) w.heap.size v L.length (smls L) k9 1 1 (sml (nsm db dn ds)) rfl (hd 0 rfl) e9 hG.2 rfl hA9 (sml_one _) (by decide) (by omega) (Nat.le_trans M.size hG.1.size) (fun v9 w9 h1 h2 h3 => hK v9 w9 ⟨hG.1.trans h2, h3⟩ h1 (fun j u hj hr => ?_)))
          match j, hj, hr with
          | 0, _, hr => exact hr
          | 1, _, hr => exact hr
          | 2, _, hr => obtain ⟨k, q1, q2, q3⟩ := hr; exact ⟨k, q1, q2, h2.at q3 (fun e => by have := hvb k e; omega)⟩
          | 3, hj, _ => exact absurd rfl hj
          | 4, _, hr => exact hr
          | 5, _, hr => exact hr
          | 6, _, hr => exact hr
          | 7, _, hr => exact hr
          | 8, _, hr => exact hr
          | 9, _, hr => exact hr
          | 10, _, hr => exact hr
          | 11, _, hr => obtain ⟨k, q1, q2, q3⟩ := hr; exact ⟨k, q1, q2, h2.at q3 (fun e => by have := hvb k e; omega)⟩
          | j + 12, _, _ => trivial
        · refine oc_eq (smv ((L ++ [(nsm db dn ds)]).foldl jn sm0)) rfl hgr hsm (fun f wf hG hd K hK => ?_)
          obtain ⟨pa, cp, e9, hSS9, _⟩ := own_ss (L := L ++ [(nsm db dn ds)]) (by rw [smls_app, smls_1]; exact hd 3 rfl) (by simp)
          exact go_run rfl (wo_call 12 [(.tmp 67)] _ [.slice pa (L ++ [(nsm db dn ds)]).length cp] (smv ((L ++ [(nsm db dn ds)]).foldl jn sm0)) rfl (li1 e9) (fun _ _ => by kernel_rfl) (join_n (L ++ [(nsm db dn ds)]) pa cp hLT hSS9 (by simp; omega)) hK)
        · exact oc_eq (pt k1 5) rfl hgr hsm (fun f wf hG hd K hK => go_run rfl (wo_un (fun v => Instr.fieldAt 26 v 2) (.tmp 3) (pt k1 0) (pt k1 5) (fun _ => rfl) g3 (by kernel_rfl) (hK _ (Mo.refl _))))
        · exact oc_eq (.int .i64 ds) rfl hgr hsm (fun f wf hG hd K hK => have Q1 := hG.1.at Q1 on_k1; go_run rfl (wo_load 3 (.tmp 69) (pt k1 5) (.int .i64 ds) rfl (hd 5 rfl) (run_one Q1 3 5 rfl Try.underlying3 rfl) (hK _ (Mo.refl _))))
        · exact oc_eq (.tuple #[.agg #[.bool db, .int .u64 (l0 (dn)), .int .u64 (l1 (dn)), .int .u64 (l2 (dn)), .int .u64 (l3 (dn)), .int .i64 (ds)], .int .i64 (0)]) rfl hgr hsm (fun f wf hG hd K hK => go_run rfl (wo_call 14 [(.tmp 68), (.tmp 70)] _ [smv ((L ++ [(nsm db dn ds)]).foldl jn sm0), .int .i64 ds] (.tuple #[.agg #[.bool db, .int .u64 (l0 (dn)), .int .u64 (l1 (dn)), .int .u64 (l2 (dn)), .int .u64 (l3 (dn)), .int .i64 (ds)], .int .i64 (0)]) rfl (li2 (hd 4 rfl) (hd 6 rfl)) (fun _ _ => by kernel_rfl) (total_n ((L ++ [(nsm db dn ds)]).foldl jn sm0) ds db dn ds 0 hN) hK))
        · exact oc_eq (.tuple #[.agg #[.bool db, .int .u64 (l0 (dn)), .int .u64 (l1 (dn)), .int .u64 (l2 (dn)), .int .u64 (l3 (dn)), .int .i64 (ds)], .int .i64 (0)]) rfl hgr hsm (fun f wf hG hd K hK => go_run rfl (wo_mv (.tmp 71) (.tuple #[.agg #[.bool db, .int .u64 (l0 (dn)), .int .u64 (l1 (dn)), .int .u64 (l2 (dn)), .int .u64 (l3 (dn)), .int .i64 (ds)], .int .i64 (0)]) (fun _ => rfl) (hd 7 rfl) (hK _ (Mo.refl _))))
        · exact oc_eq (.agg #[.bool db, .int .u64 (l0 (dn)), .int .u64 (l1 (dn)), .int .u64 (l2 (dn)), .int .u64 (l3 (dn)), .int .i64 (ds)]) rfl hgr hsm (fun f wf hG hd K hK => go_run rfl (wo_un (fun v => Instr.extract v 0) (.tmp 63) (.tuple #[.agg #[.bool db, .int .u64 (l0 (dn)), .int .u64 (l1 (dn)), .int .u64 (l2 (dn)), .int .u64 (l3 (dn)), .int .i64 (ds)], .int .i64 (0)]) (.agg #[.bool db, .int .u64 (l0 (dn)), .int .u64 (l1 (dn)), .int .u64 (l2 (dn)), .int .u64 (l3 (dn)), .int .i64 (ds)]) (fun _ => rfl) (hd 8 rfl) (by kernel_rfl) (hK _ (Mo.refl _))))
        · exact oc_eq (.int .i64 (0)) rfl hgr hsm (fun f wf hG hd K hK => go_run rfl (wo_un (fun v => Instr.extract v 1) (.tmp 63) (.tuple #[.agg #[.bool db, .int .u64 (l0 (dn)), .int .u64 (l1 (dn)), .int .u64 (l2 (dn)), .int .u64 (l3 (dn)), .int .i64 (ds)], .int .i64 (0)]) (.int .i64 (0)) (fun _ => rfl) (hd 8 rfl) (by kernel_rfl) (hK _ (Mo.refl _))))
        · refine ⟨fun f wf hG hd K hK => go_run rfl (wo_alloc 26 #[.bool false, .int .u64 0, .int .u64 0, .int .u64 0, .int .u64 0, .int .i64 0] rfl (fun _ => by kernel_rfl) (fun k w9 hk _ hq hA => hK _ w9 (hgr _ _ hG hq) ⟨k, rfl, by have := hG.1.size; omega, hA⟩ (fun j u _ hr => hsm j u _ _ hr hq)))⟩
      intro f w15 hG hR
      obtain ⟨k11, e11, h11, Q11⟩ := hR 11 rfl
      have e9 := hR 9 rfl
      have e10 := hR 10 rfl
      have ne_k1_k11 : k1 ≠ k11 := by have := Q1.lt; omega
      have N_k11 : w.heap.size ≤ k11 := by have := M.size; omega
      replace Q1 := hG.1.at Q1 on_k1
      replace M := hG.1.mo M (fun k e => (hown.lt k e).1)
      clear hG hR hsm hgr hG0 hown
      refine wl_st 26 (.tmp 11) (.tmp 72) k11 0 #[.bool db, .int .u64 (l0 (dn)), .int .u64 (l1 (dn)), .int .u64 (l2 (dn)), .int .u64 (l3 (dn)), .int .i64 (ds)] [.bool false, .int .u64 0, .int .u64 0, .int .u64 0, .int .u64 0, .int .i64 0] [.bool db, .int .u64 (l0 (dn)), .int .u64 (l1 (dn)), .int .u64 (l2 (dn)), .int .u64 (l3 (dn)), .int .i64 (ds)] Q11 rfl rfl e11 e9 rfl sz26 rfl rfl rfl ?_
      intro w16 hS Qn
      replace Q11 := Qn
      clear Qn
      replace Q1 := hS.other _ _ ne_k1_k11 Q1
      replace M := hS.mo _ N_k11 M
      clear hS
      refine wl_mv (.tmp 73) (.int .i64 (0)) (fun _ => rfl) e10 rfl ?_
      refine w_nil ?_
      refine xn_then ?_
      refine w_seq ?_
      refine w_reg ?_
      refine wl_mv (.tmp 12) (.int .i64 (0)) (fun _ => rfl) rfl rfl ?_
      refine wl_bin (fun x y => do eqGuard .eql 40 (.tmp 74) (.const (.int .i64 (0))) x y; binOp .eql 40 x y) (.tmp 74) (.const (.int .i64 (0))) (.int .i64 (0)) (.int .i64 (0)) (.bool true) (fun _ => rfl) rfl rfl (by kernel_rfl) rfl ?_
      refine wl_mv (.tmp 75) (.bool true) (fun _ => rfl) rfl rfl ?_
      refine wl_load 26 (.tmp 11) (pt k11 0) (.agg #[.bool db, .int .u64 (l0 (dn)), .int .u64 (l1 (dn)), .int .u64 (l2 (dn)), .int .u64 (l3 (dn)), .int .i64 (ds)]) rfl e11 (run_row Q11 26 0 6 [.bool db, .int .u64 (l0 (dn)), .int .u64 (l1 (dn)), .int .u64 (l2 (dn)), .int .u64 (l3 (dn)), .int .i64 (ds)] rfl Try.underlying26 rfl sz26) rfl ?_
      refine wl_load 26 (.tmp 3) (pt k1 0) (.agg #[.bool db, .int .u64 (l0 (dn)), .int .u64 (l1 (dn)), .int .u64 (l2 (dn)), .int .u64 (l3 (dn)), .int .i64 (ds)]) rfl g3 (run_row Q1 26 0 6 [.bool db, .int .u64 (l0 (dn)), .int .u64 (l1 (dn)), .int .u64 (l2 (dn)), .int .u64 (l3 (dn)), .int .i64 (ds)] rfl Try.underlying26 rfl sz26) rfl ?_
      refine wl_bin (fun x y => do eqGuard .eql 26 (.tmp 77) (.tmp 78) x y; binOp .eql 26 x y) (.tmp 77) (.tmp 78) (.agg #[.bool db, .int .u64 (l0 (dn)), .int .u64 (l1 (dn)), .int .u64 (l2 (dn)), .int .u64 (l3 (dn)), .int .i64 (ds)]) (.agg #[.bool db, .int .u64 (l0 (dn)), .int .u64 (l1 (dn)), .int .u64 (l2 (dn)), .int .u64 (l3 (dn)), .int .i64 (ds)]) (.bool true) (fun _ => rfl) rfl rfl (eqd_same _ _ _ _ _ _ _ _ _) rfl ?_
      refine wl_pick (.tmp 76) (.tmp 79) (.const (.bool false)) true (.bool true) (fun _ => rfl) rfl rfl rfl ?_
      refine wl_mv (.tmp 80) (.bool true) (fun _ => rfl) rfl rfl ?_
      refine w_nil ?_
      refine xn_then ?_
      refine w_ret ?_
      exact w_ret1 _ (.bool true) rfl rfl ⟨rfl, M⟩
    | false =>
      have hf1p := of_decide_eq_false hf1
      refine w_reg ?_
      refine wl_load 26 (.tmp 3) (pt k1 0) (.agg #[.bool db, .int .u64 (l0 (dn)), .int .u64 (l1 (dn)), .int .u64 (l2 (dn)), .int .u64 (l3 (dn)), .int .i64 (ds)]) rfl g3 (run_row Q1 26 0 6 [.bool db, .int .u64 (l0 (dn)), .int .u64 (l1 (dn)), .int .u64 (l2 (dn)), .int .u64 (l3 (dn)), .int .i64 (ds)] rfl Try.underlying26 rfl sz26) rfl ?_
      refine wl_build 28 [(0, (.const (.int .i64 (1)))), (1, (.tmp 50))] [(0, .int .i64 (1)), (1, .agg #[.bool db, .int .u64 (l0 (dn)), .int .u64 (l1 (dn)), .int .u64 (l2 (dn)), .int .u64 (l3 (dn)), .int .i64 (ds)])] (.agg #[.int .i64 (1), .bool db, .int .u64 (l0 (dn)), .int .u64 (l1 (dn)), .int .u64 (l2 (dn)), .int .u64 (l3 (dn)), .int .i64 (ds), .bool false, .string ⟨#[]⟩, .int .i64 0]) rfl rfl (by kernel_rfl) rfl ?_
      refine wl_un (fun v => Instr.fieldAt 26 v 2) (.tmp 3) (pt k1 0) (pt k1 5) (fun _ => rfl) g3 (by kernel_rfl) rfl ?_
      refine wl_load 3 (.tmp 52) (pt k1 5) (.int .i64 (ds)) rfl rfl (run_one Q1 3 5 rfl Try.underlying3 rfl) rfl ?_
      refine wl_call 10 [(.tmp 51), (.tmp 53)] _ [.agg #[.int .i64 (1), .bool db, .int .u64 (l0 (dn)), .int .u64 (l1 (dn)), .int .u64 (l2 (dn)), .int .u64 (l3 (dn)), .int .i64 (ds), .bool false, .string ⟨#[]⟩, .int .i64 0], .int .i64 (ds)] (.agg #[.int .i64 (1), .int .i64 (0), .int .i64 (0), .int .i64 (1), .int .i64 (2), .int .u64 (l0 (0)), .int .u64 (l1 (0)), .int .u64 (l2 (0)), .int .u64 (l3 (0)), .int .u64 (l4 (0)), .bool false, .bool false, .int .u64 (l0 (0)), .int .u64 (l1 (0)), .int .u64 (l2 (0)), .int .u64 (l3 (0)), .int .i64 (0), .bool false, .int .u64 (l0 (0)), .int .u64 (l1 (0)), .int .u64 (l2 (0)), .int .u64 (l3 (0)), .int .i64 (0)]) rfl rfl (fun _ _ => by kernel_rfl) (of_f 1 db dn ds false ⟨#[]⟩ 0 ds hd0 hd1 rfl rfl rfl (decide_eq_true rfl) hf1 rfl rfl) rfl ?_
      intro w11 hq
      replace hown := own_mo hown hq
      replace Q1 := Q1.mo hq
      replace M := M.trans hq
      clear hq
      refine wl_alloc 33 #[.int .i64 0, .int .i64 0, .int .i64 0, .int .i64 0, .int .i64 0, .int .u64 0, .int .u64 0, .int .u64 0, .int .u64 0, .int .u64 0, .bool false, .bool false, .int .u64 0, .int .u64 0, .int .u64 0, .int .u64 0, .int .i64 0, .bool false, .int .u64 0, .int .u64 0, .int .u64 0, .int .u64 0, .int .i64 0] rfl (fun _ => by kernel_rfl) rfl ?_
      intro k6 w12 hk hz hq Q6
      have ne_k1_k6 : k1 ≠ k6 := by have := Q1.lt; omega
      have on_k6 : v.ownBlock ≠ some k6 := fun e => by have := (hown.lt _ e).2; omega
      have N_k6 : w.heap.size ≤ k6 := by have := M.size; omega
      replace hown := own_mo hown hq
      replace Q1 := Q1.mo hq
      replace M := M.trans hq
      clear hk hz hq
      refine wl_stx 33 (.tmp 10) (.tmp 54) k6 0 #[.int .i64 (1), .int .i64 (0), .int .i64 (0), .int .i64 (1), .int .i64 (2), .int .u64 (l0 (0)), .int .u64 (l1 (0)), .int .u64 (l2 (0)), .int .u64 (l3 (0)), .int .u64 (l4 (0)), .bool false, .bool false, .int .u64 (l0 (0)), .int .u64 (l1 (0)), .int .u64 (l2 (0)), .int .u64 (l3 (0)), .int .i64 (0), .bool false, .int .u64 (l0 (0)), .int .u64 (l1 (0)), .int .u64 (l2 (0)), .int .u64 (l3 (0)), .int .i64 (0)] [.int .i64 0, .int .i64 0, .int .i64 0, .int .i64 0, .int .i64 0, .int .u64 0, .int .u64 0, .int .u64 0, .int .u64 0, .int .u64 0, .bool false, .bool false, .int .u64 0, .int .u64 0, .int .u64 0, .int .u64 0, .int .i64 0, .bool false, .int .u64 0, .int .u64 0, .int .u64 0, .int .u64 0, .int .i64 0] [.int .i64 (1), .int .i64 (0), .int .i64 (0), .int .i64 (1), .int .i64 (2), .int .u64 (l0 (0)), .int .u64 (l1 (0)), .int .u64 (l2 (0)), .int .u64 (l3 (0)), .int .u64 (l4 (0)), .bool false, .bool false, .int .u64 (l0 (0)), .int .u64 (l1 (0)), .int .u64 (l2 (0)), .int .u64 (l3 (0)), .int .i64 (0), .bool false, .int .u64 (l0 (0)), .int .u64 (l1 (0)), .int .u64 (l2 (0)), .int .u64 (l3 (0)), .int .i64 (0)] Q6 rfl rfl rfl rfl rfl sz33 rfl rfl rfl ?_
      intro w13 hS Qn
      replace Q6 := Qn
      clear Qn
      replace Q1 := hS.other _ _ ne_k1_k6 Q1
      replace hown := own_st hS hown on_k6
      replace M := hS.mo _ N_k6 M
      clear hS
      refine w_nil ?_
      refine xn_then ?_
      refine w_seq ?_
      refine w_seq ?_
      refine w_reg ?_
      refine wl_call 9 [] _ [] (.bool true) rfl rfl (fun _ _ => by kernel_rfl) (live_n) rfl ?_
      intro w14 hq
      replace hown := own_mo hown hq
      replace Q1 := Q1.mo hq
      replace Q6 := Q6.mo hq
      replace M := M.trans hq
      clear hq
      refine wl_un (fun v => Op.unary .not v) (.tmp 55) (.bool true) (.bool false) (fun _ => rfl) rfl (by kernel_rfl) rfl ?_
      refine wl_mv (.tmp 56) (.bool false) (fun _ => rfl) rfl rfl ?_
      refine wl_un (fun v => Instr.fieldAt 33 v 1) (.tmp 10) (pt k6 0) (pt k6 1) (fun _ => rfl) rfl (by kernel_rfl) rfl ?_
      refine wl_load 3 (.tmp 58) (pt k6 1) (.int .i64 (0)) rfl rfl (run_one Q6 3 1 rfl Try.underlying3 rfl) rfl ?_
      refine wl_bin (fun x y => do eqGuard .neq 3 (.tmp 59) (.const (.int .i64 (1))) x y; binOp .neq 3 x y) (.tmp 59) (.const (.int .i64 (1))) (.int .i64 (0)) (.int .i64 (1)) (.bool true) (fun _ => rfl) rfl rfl (by kernel_rfl) rfl ?_
      refine wl_pick (.tmp 57) (.const (.bool true)) (.tmp 60) false (.bool true) (fun _ => rfl) rfl rfl rfl ?_
      refine w_nil ?_
      refine xn_then ?_
      refine w_condT rfl ?_
      refine w_seq ?_
      refine w_reg ?_
      refine wl_call 9 [] _ [] (.bool true) rfl rfl (fun _ _ => by kernel_rfl) (live_n) rfl ?_
      intro w15 hq
      replace hown := own_mo hown hq
      replace Q1 := Q1.mo hq
      replace Q6 := Q6.mo hq
      replace M := M.trans hq
      clear hq
      refine wl_mv (.tmp 62) (.bool true) (fun _ => rfl) rfl rfl ?_
      refine w_nil ?_
      refine xn_then ?_
      refine w_ret ?_
      refine xr_then ?_
      exact w_ret1 _ (.bool true) rfl rfl ⟨rfl, M⟩
end
end Go.Proofs.Ythpekbohmfmffaa
/-
  Decimals that came in; how many.
-/
namespace Go.Proofs.Ythpekbohmfmffaa
open Go.ChangeShapes Go.WideShapes Go.ChangeAt
open Go.RowKit
theorem Try.cl26x : Try.prog.cellsOf 26 = 6 := by kernel_rfl
theorem open_decim {H : Type} {enc : TypeId × Value → H} {W : World} {base : Nat} {v : Value} {d : DataW H} {p : List MemPlace} (hv : Value.okWide Try.prog W .any base 26 v) (h : DataW.Trod enc Try.prog W 0 (fun _ => true) true 26 v d p) : ∃ x : D3, x.ok ∧ v = dc x.b x.n x.s := by
  obtain ⟨cs, rfl, hsz, _⟩ : ∃ cs, v = .agg cs ∧ cs.size = Try.prog.cellsOf 26 ∧ Row.okWide Try.prog W .any base 26 cs := by
    simpa [Value.okWide, Try.underlying26] using hv
  obtain ⟨fuel, hf⟩ := h
  obtain ⟨S, h1, _, h3⟩ := cut6 hf
  refine ⟨S, h1, ?_⟩
  have : cs = (dcx S).toArray := by
    have e : dcx S = cs.toList := by rw [show dcx S = _ from h3.symm]; simp [Value.cells]
    rw [e]
  rw [this]; rfl
set_option maxRecDepth 100000 in
theorem open_decs {H : Type} {enc : TypeId × Value → H} {W : World} {base : Nat} {v : Value} {d : DataW H} {p : List MemPlace} (hv : Value.okWide Try.prog W .any base 54 v) (h : DataW.Trod enc Try.prog W 0 (fun _ => true) true 54 v d p) :
    ∃ (L : List D3) (pa : Option Addr) (cap : Nat), v = .slice pa L.length cap ∧ (∀ T ∈ L, T.ok) ∧ SDc W pa L ∧ L.length ≤ cap ∧ (L = [] ∨ ∃ elems spare, d = .slice elems spare ∧ elems.length = L.length) := by
  obtain ⟨a0, len, cap, rfl⟩ := okWide_slice Try.underlying54 hv
  obtain ⟨fuel, hf⟩ := h
  rcases Go.Deep.open_slice Try.underlying54 hf with ⟨hcs, _⟩ | ⟨a, len', cap', m, n, D, Pl, hcs, _, hl, _, hm, hx, hel⟩
  · simp [Value.cells] at hcs
    obtain ⟨rfl, rfl, rfl⟩ := hcs
    exact ⟨[], none, 0, rfl, fun _ e => (by cases e), fun _ _ e => (by cases e), Nat.le_refl _, Or.inl rfl⟩
  · simp [Value.cells] at hcs
    obtain ⟨rfl, rfl, rfl⟩ := hcs
    simp only [Prod.mk.injEq] at hx
    simp at hm
    have key : ∀ i : Nat, ∃ S : D3, i < len → S.ok ∧ ∃ b off, some a = some (⟨b, off, none⟩ : Addr) ∧ b < W.heap.size ∧ W.rangeAt b (off + i * 6) (dcx S) := by
      intro i
      by_cases hi : i < len
      · obtain ⟨cs', hc, ht⟩ := hel i (by omega)
        obtain ⟨o, ho, _, rfl⟩ := cut6 ht
        refine ⟨o, fun _ => ⟨ho, ?_⟩⟩
        rw [Try.cl26x] at hc
        have hb := World.cells?_block hc (by decide)
        obtain ⟨_, hlen, hcell⟩ := World.cells?_some hc
        obtain ⟨b, off, spot⟩ := a
        have hs : spot = none := by
          obtain ⟨cs0, hc0, ht0⟩ := hel 0 (by omega)
          obtain ⟨o0, _, _, rfl⟩ := cut6 ht0
          rw [Try.cl26x] at hc0
          have h0 := (World.cells?_some hc0).2.2 0 (by decide)
          have := World.cell?_spot (show W.cell? (((⟨b, off, spot⟩ : Addr).add (0 * 6)).add 0) = some (.bool o0.b) from h0)
          simpa [Addr.add] using this
        subst hs
        refine ⟨b, off, rfl, by simpa [Addr.add_mid] using hb, fun j v hv => ?_⟩
        have hj : j < 6 := by
          exact (List.getElem?_eq_some_iff.1 hv).1
        have := hcell j hj
        rw [Addr.add_mid, Addr.add_mid] at this
        exact this.trans hv
      · exact ⟨d0, fun e => absurd e hi⟩
    obtain ⟨f, hf2⟩ := Classical.skolem.1 key
    refine ⟨(List.range len).map f, some a, cap, by simp, fun o ho => ?_, fun i o e => ?_, by simpa using hl, Or.inr ⟨_, _, hx.1, by simp⟩⟩
    · obtain ⟨i, hi, rfl⟩ := List.mem_map.1 ho
      exact (hf2 i (by simpa using hi)).1
    · have hi : i < len := by have := (List.getElem?_eq_some_iff.1 e).1; simpa using this
      rw [List.getElem?_map, List.getElem?_range hi] at e
      cases e
      exact (hf2 i hi).2
theorem bulk1 {H : Type} (d : DataW H) : 1 ≤ Rows.uptoBulk d := by
  cases d with
  | lit l => cases l <;> simp [Rows.uptoBulk]
  | nil => simp [Rows.uptoBulk]
  | ptr d => simp [Rows.uptoBulk]
  | slice elems spare => simp [Rows.uptoBulk]
  | agg parts => simp [Rows.uptoBulk]
  | iface t d => simp [Rows.uptoBulk]
  | map entries => simp [Rows.uptoBulk]
  | held h => simp [Rows.uptoBulk]
theorem bulkl {H : Type} (l : List (DataW H)) : l.length ≤ Rows.uptoBulkAll l := by
  induction l with
  | nil => simp [Rows.uptoBulkAll]
  | cons x r ih => have := bulk1 x; simp only [Rows.uptoBulkAll, List.length_cons]; omega
theorem bulkf {H : Type} {elems spare : List (DataW H)} {r : List (DataW H)} (hk : Rows.uptoSmall H (.slice elems spare :: r) = true) : elems.length ≤ 1048576 := by
  have h := of_decide_eq_true hk
  have := bulkl elems
  simp only [Rows.uptoBulkAll, Rows.uptoBulk] at h
  omega
end Go.Proofs.Ythpekbohmfmffaa
namespace Go.Proofs.Ythpekbohmfmffaa
open Go.ChangeShapes Go.WideShapes Go.ChangeAt Go.RowKit Go.ChangeMaps
theorem tys8 : ∀ t ∈ ([54, 26] : List TypeId), Try.prog.readableRec t = true ∧ t < Try.prog.types.size := by
  intro t ht
  simp only [List.mem_cons, List.not_mem_nil, or_false] at ht
  rcases ht with rfl | rfl
  · exact ⟨by kernel_rfl, of_decide_eq_true (by kernel_rfl)⟩
  · exact ⟨by kernel_rfl, of_decide_eq_true (by kernel_rfl)⟩
set_option maxHeartbeats 1000000 in
set_option maxRecDepth 100000 in
theorem summaryExact_lifted (os : Os) (started : os.Started) (H : Type) (enc : TypeId × Value → H) (F : Stop.Interp) :
    ReturnsInHanded {} Try.checked os 8 .any ((Rows.OpenSpec.upto Rows.summaryExactSpec).pre6 enc Try.prog Try.f8 Rows.summaryExactUptoRow.domain false) (((Rows.OpenSpec.upto Rows.summaryExactSpec).at F).post enc Try.prog Try.f8 false true false false) := by
  refine returnsInHanded_of_cond (C := Try.checked) (s := Rows.OpenSpec.upto Rows.summaryExactSpec) (k := Rows.uptoSmall) rfl Try.own started (by kernel_rfl) Try.func8
    (OpenSpec.witness (enc := enc) (C := Try.checked) (s := Rows.OpenSpec.upto Rows.summaryExactSpec) (k := Rows.uptoSmall) rfl false ⟨#[], #[.slice none 0 0, .agg #[.bool false, .int .u64 0, .int .u64 0, .int .u64 0, .int .u64 0, .int .i64 0]], []⟩ 8 (by kernel_rfl) (by kernel_rfl) (by kernel_rfl)
      (x := ([.nil, .agg [.lit (.bool false), .agg [.lit (.int .u64 0), .lit (.int .u64 0), .lit (.int .u64 0), .lit (.int .u64 0)], .lit (.int .i64 0)]], [], [])) (by kernel_rfl) rfl (by kernel_rfl)) ?_
  intro W base args ds gs before hval0 hW _ hk _
  have hval : ∀ (j : Nat) t v, Try.f8.params[j]? = some t → args[j]? = some v → Value.okWide Try.prog W .any base t v := hval0
  have hW' := hW
  obtain ⟨p, q, hA0, hV, rfl, _, _⟩ := hW
  have hA : DataW.TrodAll enc Try.prog W 0 (fun _ => true) true Try.f8.params.toList args.toList ds p := hA0
  have hAk := hA
  rw [Try.params8] at hA hval
  obtain ⟨v0, v1, d0', d1, p0, p1, rfl, rfl, _, h0, h1⟩ := trodAll_two hA
  obtain ⟨rfl, rfl⟩ := trodVars_none hV
  obtain ⟨Xs, pa, cap, rfl, okX, hSV, _, hlen⟩ := open_decs (hval 0 54 v0 rfl rfl) h0
  obtain ⟨⟨db, dn, ds⟩, ⟨hd0, hd1⟩, rfl⟩ := open_decim (hval 1 26 v1 rfl rfl) h1
  have hn : Xs.length ≤ 1048576 := by
    rcases hlen with rfl | ⟨elems, spare, rfl, hl⟩
    · decide
    · have := bulkf hk
      omega
  clear hA0 hval0
  refine (exact_n (w := W) Xs pa cap db dn ds okX hd0 hd1 hSV hn).mono fun e W' ⟨he, hg⟩ => ?_
  subst he
  simp only [List.append_nil] at hW'
  have hlt : ∀ x ∈ p, x.block < W.heap.size := fun x hx => by simpa using hW'.lt x hx
  exact ⟨_, rfl, post_of_same (s := (Rows.OpenSpec.upto Rows.summaryExactSpec).at F) (pa := p) (pv := []) hW' (fun _ _ _ => trodAll_mk1 (shut_bool Try.underlying4 _)) (fun sp hsp => trodAll_stays (by rw [Try.params8]; exact tys8) hAk (fun x hx => hg.1.same (hlt x hx)) hsp) (fun _ _ => rfl) (by simp)
    (hg.1.frame _) hg.2 (ok_one (by kernel_rfl) rfl (okWide_bool_mk Try.underlying4 _))⟩

theorem summaryExact_holds : Rows.SummaryExactUptoSaid :=
  OpenClaim.holds_of_cond 8 Try.f8 rfl rfl rfl rfl rfl rfl rfl ⟨rfl, rfl, rfl, rfl, rfl⟩ rfl rfl rfl rfl rfl (by kernel_rfl) Try.func8 (by kernel_rfl)
    (of_decide_eq_true (by kernel_rfl)) (by unfold Func.isWrapper; rw [if_neg (of_decide_eq_false (by kernel_rfl))]; exact ⟨rfl, rfl⟩)
    (fun os started H enc _ F => summaryExact_lifted os started H enc F)
#print axioms summaryExact_holds
end Go.Proofs.Ythpekbohmfmffaa
