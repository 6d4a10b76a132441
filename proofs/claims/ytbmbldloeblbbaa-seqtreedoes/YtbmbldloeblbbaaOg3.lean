/-
  A region that draws its order, with an invariant that knows what has come up.
-/
import Derived.Test.YtbmbldloeblbbaaOg2
namespace Go.Proofs.Ytbmbldloeblbbaa
open Go.RowKit
/-- Number i has come up, too. -/
def updB (L : Nat → Bool) (i : Nat) : Nat → Bool := fun j => if j = i then true else L j
section
variable {P : Program} {n : Nat} {l : List (Nat × Value)} {w : World} {Q : Exit → Act → World → Prop}
structure OgL (P : Program) (ops : List Oper) (Q : Exit → Act → World → Prop) (n : Nat) (l : List (Nat × Value)) (m : Nat) (G : (Nat → Bool) → (Nat → Value) → World → Prop) (sp : List (Value → World → Prop)) (i : Nat) (o : Oper) : Prop where
  out : ∀ L f w, G L f w → L i = false → (∀ j, depb o j = true → L j = true ∧ spQ sp j (f j) w) → ∀ K : Act → World → Prop,
    (∀ v w', G (updB L i) (upd f i v) w' → spQ sp i v w' → (∀ j u, j ≠ i → spQ sp j u w → spQ sp j u w') → K (fr n (ext (asg f 0 (ops.take m) l) o.dst v)) w') →
    Go1 P ops Q n (asg f 0 (ops.take m) l) w K o
theorem a_ogl {ops : List Oper} (m : Nat) (G : (Nat → Bool) → (Nat → Value) → World → Prop) (sp : List (Value → World → Prop))
    (hb : edgesBack .any ops.toArray = true) (hd : dstsApart (ops.take m) = true) (hc : chainB ops m [] = true) (hl : Nat.ble m ops.length = true)
    (hG : ∀ f, G (fun _ => false) f w.drew) (hs : Each (OgL P ops Q n l m G sp) 0 (ops.take m))
    (hend : ∀ L f w', (∀ i, Nat.blt i m = true → L i = true) → G L f w' → (∀ i, Nat.blt i m = true → spQ sp i (f i) w') → WL P ops.toArray Q (ops.drop m) n (asg f 0 (ops.take m) l) w') : wpAny P .any ops.toArray Q ops.toArray.size (Array.replicate ops.toArray.size false) (fr n l) w.drew := by
  have hml : m ≤ ops.length := Nat.le_of_ble_eq_true hl
  have hfs : ∀ j, m ≤ j → ([] : List Nat).contains j = false := fun _ _ => rfl
  have main : ∀ (fuel : Nat) (listed : Array Bool) (f : Nat → Value) (w : World), listed.toList.count false ≤ fuel → listed.size = ops.length → Shut ops listed → (∀ j, m ≤ j → j < ops.length → listed.getD j true = false) →
      G (fun j => listed.getD j false) f w → (∀ i, i < m → listed.getD i false = true → spQ sp i (f i) w) → wpAny P .any ops.toArray Q fuel listed (putAll f 0 (ops.take m) (fr n l)) w := by
    intro fuel
    induction fuel with
    | zero =>
      intro listed f w hcnt hz hsh hun hW hR
      have hall : ∀ j, j < m → listed.getD j false = true := fun i hi' => by
        have h2 : i < listed.size := by omega
        cases e : listed.getD i false with
        | true => rfl
        | false =>
          have : false ∈ listed.toList := by simp [h2] at e; rw [← e]; simp
          have := List.count_pos_iff.2 this
          omega
      refine wpAny_chain hfs hc hb (ops.length - m) m 0 listed _ w (by omega) (Nat.le_refl _) ?_ hz hsh ?_ ?_
      · rcases Nat.lt_or_ge m ops.length with h | h
        · exfalso
          have h1 := hun m (Nat.le_refl _) h
          have h2 : m < listed.size := by omega
          have : false ∈ listed.toList := by simp [h2] at h1; rw [← h1]; simp
          have := List.count_pos_iff.2 this
          omega
        · omega
      · intro j hj
        have h2 : j < listed.size := by omega
        rcases Nat.lt_or_ge j m with h | h
        · have := hall j h; simp [h2] at this ⊢; rw [this]; simp [h]
        · rw [hun j h hj]; simp [Nat.not_lt.2 h]
      · rw [putAll_fr]
        exact (hend _ f w (fun i hi => hall i (by rw [Nat.blt_eq] at hi; exact hi)) hW (fun i hi => hR i (by rw [Nat.blt_eq] at hi; exact hi) (hall i (by rw [Nat.blt_eq] at hi; exact hi)))).out
    | succ fuel ih =>
      intro listed f w hcnt hz hsh hun hW hR
      by_cases hall : ∀ j, j < m → listed.getD j true = true
      · have hge : ops.length - m ≤ listed.toList.count false := by
          have h1 : (listed.toList.drop m).count false = ops.length - m := by
            have h2 : listed.toList.drop m = List.replicate (ops.length - m) false := by
              apply List.ext_getElem
              · simp [hz]
              · intro j h3 h4
                simp at h3
                have := hun (m + j) (by omega) (by omega)
                have h5 : m + j < listed.size := by omega
                simpa [h5] using this
            rw [h2]; simp
          have h3 := List.take_append_drop m listed.toList
          rw [← h3, List.count_append]
          omega
        refine wpAny_chain hfs hc hb (ops.length - m) m _ listed _ w (by omega) (Nat.le_refl _) (by omega) hz hsh (fun j hj => ?_) ?_
        · rcases Nat.lt_or_ge j m with h | h
          · rw [hall j h]; simp [h]
          · rw [hun j h hj]; simp [Nat.not_lt.2 h]
        · rw [putAll_fr]
          have hall2 : ∀ i, Nat.blt i m = true → listed.getD i false = true := fun i hi => by
            have hi' : i < m := by rw [Nat.blt_eq] at hi; exact hi
            have h1 := hall i hi'
            have h2 : i < listed.size := by omega
            simpa [h2] using h1
          exact (hend _ f w hall2 hW (fun i hi => hR i (by rw [Nat.blt_eq] at hi; exact hi) (hall2 i hi))).out
      · obtain ⟨u, hum, hu⟩ : ∃ u, u < m ∧ listed.getD u true = false := by
          rcases Classical.not_forall.1 hall with ⟨u, h⟩
          rcases Classical.not_imp.1 h with ⟨h1, h4⟩
          exact ⟨u, h1, by cases e : listed.getD u true with | true => exact absurd e h4 | false => rfl⟩
        have hne : Region.ready .any ops.toArray listed ≠ [] := fun hr => by
          have := all_listed hb hr u (by simp; omega)
          rw [hu] at this; cases this
        refine ⟨fun h0 => absurd h0 hne, fun i hi => ?_⟩
        obtain ⟨h0, o, ho, hdep⟩ := mem_ready.1 hi
        have hoi : ops[i]? = some o := by simpa using ho
        have hilt : i < ops.length := (List.getElem?_eq_some_iff.1 hoi).1
        have him : i < m := by
          rcases Nat.lt_or_ge i m with h | h
          · exact h
          · exfalso
            have h1 := chainB_spec hc hsh hoi h hdep u (by omega) rfl
            have h2 : u < listed.size := by omega
            simp [h2] at h1 hu
            rw [h1] at hu; cases hu
        have hot : (ops.take m)[i]? = some o := by rw [List.getElem?_take_of_lt him]; exact hoi
        have hstep := Each.spec (ops.take m) 0 hs i o hot
        rw [Nat.zero_add] at hstep
        have hcount : ((listed.setIfInBounds i true).toList.count false) ≤ fuel := by
          have h1 : listed.toList[i]? = some false := by
            have h' : i < listed.size := by omega
            simp [h'] at h0; simp [h', h0]
          have := count_set _ _ h1
          simp only [Array.toList_setIfInBounds]
          omega
        have hun' : ∀ j, m ≤ j → j < ops.length → (listed.setIfInBounds i true).getD j true = false := fun j h1 h2 => by
          rw [getD_set_ne true (by omega)]; exact hun j h1 h2
        have hL : (fun j => (listed.setIfInBounds i true).getD j false) = updB (fun j => listed.getD j false) i := by
          funext j
          unfold updB
          by_cases e : j = i
          · subst e
            have h' : j < listed.size := by omega
            simp [h']
          · rw [if_neg e, getD_set_ne false (Ne.symm e)]
        have hi0 : listed.getD i false = false := by
          have h' : i < listed.size := by omega
          simp [h'] at h0 ⊢; exact h0
        have next : ∀ v w', G (updB (fun j => listed.getD j false) i) (upd f i v) w' → spQ sp i v w' → (∀ j u, j ≠ i → spQ sp j u w → spQ sp j u w') → wpAny P .any ops.toArray Q fuel (listed.setIfInBounds i true) (putAll (upd f i v) 0 (ops.take m) (fr n l)) w' := fun v w' hg hden hot' => by
          refine ih _ _ w' hcount (by simpa using hz) (hsh.step hoi hdep) hun' (by rw [hL]; exact hg) (fun j hj hlj => ?_)
          by_cases e : j = i
          · subst e; simpa [upd] using hden
          · rw [getD_set_ne false (Ne.symm e)] at hlj
            have := hot' j (f j) e (hR j hj hlj)
            simpa [upd, e] using this
        have put : ∀ v, fr n (ext (asg f 0 (ops.take m) l) o.dst v) = putAll (upd f i v) 0 (ops.take m) (fr n l) := fun v => by
          have := putAll_put v (ops.take m) 0 f (fr n l) hd i o hot
          rw [Nat.zero_add] at this
          rw [← this, putAll_fr, fr_put]
        refine wpOp_step ho (fun K hK => ?_)
        rw [putAll_fr, fr_wanted]
        have hh := (hstep.out _ f w hW hi0 (fun j hj => by
          obtain ⟨e, he, hb'⟩ := List.any_eq_true.1 hj
          simp only [Bool.and_eq_true] at hb'
          have heon := Nat.eq_of_beq_eq_true hb'.2
          have hj' := hdep e (by simpa using he) hb'.1
          have hlt := edgesBack_spec hb ho e (by simpa using he) hb'.1
          rw [heon] at hj' hlt
          exact ⟨hj', hR j (by omega) hj'⟩) K (fun v w' h1 h2 h3 => by rw [put]; exact hK _ _ (next v w' h1 h2 h3))).out
        rw [fr_put]
        rcases hh with ⟨h1, h2⟩ | ⟨h1, h2⟩
        · rw [h1]; exact h2.out
        · rw [h1]; exact h2
  have h0 : putAll (slots (fr n l) (ops.take m).toArray) 0 (ops.take m) (fr n l) = fr n l := putAll_self _ _ 0 _ (fun i o ho t ht => by simp only [Nat.zero_add, slots]; rw [show (ops.take m).toArray[i]? = some o by simpa using ho]; simp [ht])
  have hemp : (fun j => (Array.replicate ops.length false).getD j false) = (fun _ => false) := by
    funext j
    rcases Nat.lt_or_ge j ops.length with h' | h' <;> simp [h']
  have := main ops.length (Array.replicate ops.length false) (slots (fr n l) (ops.take m).toArray) w.drew (by simp) (by simp) (Shut.start _ _) (fun j _ hj => by simp [hj]) (by rw [hemp]; exact hG _) (fun i _ hi => by
    exfalso
    rcases Nat.lt_or_ge i ops.length with h' | h' <;> simp [h'] at hi)
  rw [h0] at this
  simpa using this
theorem w_ogl {id : Nat} {ops : List Oper} (m : Nat) (G : (Nat → Bool) → (Nat → Value) → World → Prop) (sp : List (Value → World → Prop)) (hm : P.follows .mixedOrders = true)
    (hb : edgesBack .any ops.toArray = true) (hd : dstsApart (ops.take m) = true) (hc : chainB ops m [] = true) (hl : Nat.ble m ops.length = true)
    (hG : ∀ f, G (fun _ => false) f w.drew) (hs : Each (OgL P ops Q n l m G sp) 0 (ops.take m))
    (hend : ∀ L f w', (∀ i, Nat.blt i m = true → L i = true) → G L f w' → (∀ i, Nat.blt i m = true → spQ sp i (f i) w') → WL P ops.toArray Q (ops.drop m) n (asg f 0 (ops.take m) l) w') : WC P (Code.region id ops.toArray true) Q n l w :=
  ⟨wp_region_any hm (a_ogl m G sp hb hd hc hl hG hs hend)⟩
variable {o : Oper}
/-- One that yields a value and only makes new blocks. -/
theorem ol_eq {ol : List Oper} {m : Nat} {G : (Nat → Bool) → (Nat → Value) → World → Prop} {sp : List (Value → World → Prop)} {i : Nat} (v : Value) (hs : spQ sp i = vq v) (hg : ∀ L f w w', G L f w → L i = false → Mo w w' → G (updB L i) (upd f i v) w') (hm : Smos sp)
    (h : ∀ L f w, G L f w → (∀ j, depb o j = true → spQ sp j (f j) w) → ∀ K : Act → World → Prop, (∀ w', Mo w w' → K (fr n (ext (asg f 0 (ol.take m) l) o.dst v)) w') → Go1 P ol Q n (asg f 0 (ol.take m) l) w K o) : OgL P ol Q n l m G sp i o :=
  ⟨fun L f w hG hi hd K hK => h L f w hG (fun j hj => (hd j hj).2) K (fun w' hmo => hK v w' (hg L f w w' hG hi hmo) (by rw [hs]; rfl) (fun j u _ hr => hm j u w w' hr hmo))⟩
end
theorem updB_ne {L : Nat → Bool} {i j : Nat} (h : j ≠ i) : updB L i j = L j := by unfold updB; rw [if_neg h]
theorem updB_eq {L : Nat → Bool} {i : Nat} : updB L i i = true := by unfold updB; rw [if_pos rfl]
theorem upd_ne {f : Nat → Value} {i j : Nat} {v : Value} (h : j ≠ i) : upd f i v j = f j := by unfold upd; rw [if_neg h]
theorem upd_eq {f : Nat → Value} {i : Nat} {v : Value} : upd f i v i = v := by unfold upd; rw [if_pos rfl]
end Go.Proofs.Ytbmbldloeblbbaa
