/-
  A region that draws its order, where stores into one block may come between the others.
-/
import Derived.Test.YthpekbohmfmffaaWp
namespace Go.Proofs.Ythpekbohmfmffaa
open Go.RowKit
def spQ (sp : List (Value → World → Prop)) (j : Nat) : Value → World → Prop := (sp[j]?).getD (fun _ _ => True)
/-- What is said holds of each greater world. -/
def Smo (p : Value → World → Prop) : Prop := ∀ u w w', p u w → Mo w w' → p u w'
def Smos (sp : List (Value → World → Prop)) : Prop := ∀ j, Smo (spQ sp j)
theorem smos_nil : Smos [] := fun _ _ _ _ _ _ => trivial
theorem smos_cons {p : Value → World → Prop} {sp : List (Value → World → Prop)} (h : Smo p) (hs : Smos sp) : Smos (p :: sp) := fun j => by
  cases j with
  | zero => exact h
  | succ j => have := hs j; unfold spQ at this ⊢; simpa using this
/-- It is this value. -/
def vq (v : Value) : Value → World → Prop := fun u _ => u = v
theorem smo_vq (v : Value) : Smo (vq v) := fun _ _ _ h _ => h
section
variable {P : Program} {o : Oper} {n : Nat} {l : List (Nat × Value)} {w : World} {Q : Exit → Act → World → Prop} {K : Act → World → Prop}
structure OgV (P : Program) (ops : List Oper) (Q : Exit → Act → World → Prop) (n : Nat) (l : List (Nat × Value)) (G : World → Prop) (sp : List (Value → World → Prop)) (i : Nat) (o : Oper) : Prop where
  out : ∀ f w, G w → (∀ j, depb o j = true → spQ sp j (f j) w) → ∀ K : Act → World → Prop,
    (∀ v w', G w' → spQ sp i v w' → (∀ j u, j ≠ i → spQ sp j u w → spQ sp j u w') → K (fr n (ext (asg f 0 ops l) o.dst v)) w') →
    Go1 P ops Q n (asg f 0 ops l) w K o
theorem w_og {id : Nat} {ol : List Oper} (G : World → Prop) (sp : List (Value → World → Prop)) (hm : P.follows .mixedOrders = true)
    (hb : edgesBack .any ol.toArray = true) (hd : dstsApart ol = true) (hG : G w.drew) (hs : Each (OgV P ol Q n l G sp) 0 ol)
    (hend : ∀ f w', G w' → (∀ i, Nat.blt i ol.length = true → spQ sp i (f i) w') → WX Q .normal n (asg f 0 ol l) w') : WC P (Code.region id ol.toArray true) Q n l w := by
  refine ⟨r_og (fun _ w => G w) (fun i f w => spQ sp i (f i) w) hm hb hd hG (Each.mono ?_ ol 0 hs) (fun f w' h1 h2 => (hend f w' h1 h2).out)⟩
  intro i o h f w hG hdep K hK
  have h1 := (h.out f w hG hdep K (fun v w' a b c => hK v w' a (by simpa [upd] using b) (fun j hj hr => by simpa [upd, hj] using c j (f j) hj hr))).out
  rcases h1 with ⟨h1, h2⟩ | ⟨h1, h2⟩
  · rw [h1]; exact h2.out
  · rw [h1]; exact h2
theorem ovq_eq {ol : List Oper} {G : World → Prop} {sp : List (Value → World → Prop)} {i : Nat} (v : Value) (hs : spQ sp i = vq v) (hg : ∀ w w', G w → Mo w w' → G w') (hm : Smos sp)
    (h : ∀ f w, G w → (∀ j, depb o j = true → spQ sp j (f j) w) → ∀ K : Act → World → Prop, (∀ w', Mo w w' → K (fr n (ext (asg f 0 ol l) o.dst v)) w') → Go1 P ol Q n (asg f 0 ol l) w K o) : OgV P ol Q n l G sp i o :=
  ⟨fun f w hG hd K hK => h f w hG hd K (fun w' hmo => hK v w' (hg w w' hG hmo) (by rw [hs]; rfl) (fun j u _ hr => hm j u w w' hr hmo))⟩
theorem ovq_gen {ol : List Oper} {G : World → Prop} {sp : List (Value → World → Prop)} {i : Nat}
    (h : ∀ f w, G w → (∀ j, depb o j = true → spQ sp j (f j) w) → ∀ K : Act → World → Prop, (∀ v w', G w' → spQ sp i v w' → (∀ j u, j ≠ i → spQ sp j u w → spQ sp j u w') → K (fr n (ext (asg f 0 ol l) o.dst v)) w') → Go1 P ol Q n (asg f 0 ol l) w K o) : OgV P ol Q n l G sp i o := ⟨h⟩
theorem wo_st (ty : TypeId) (x y : Operand) (k off : Nat) (us : Array Value) (vs vs' : List Value) (hA : At w k vs) (ho : o.op = .store ty x y) (hd : o.dst = none) (hx : evl n l x = pt k off) (hy : evl n l y = .agg us)
    (hl : Nat.ble (off + us.size) vs.length = true) (hi : (P.info? ty).map (·.size) = some us.size) (h1 : us.toList.all (·.oneCell') = true) (hvs : vs' = vs.take off ++ us.toList ++ vs.drop (off + us.toList.length))
    (hk : ∀ w', St k w w' → At w' k vs' → K (fr n l) w') : WO P o n l w K Q := ⟨o_st ty x y k off us vs vs' hA ho hd hx hy hl hi h1 hvs hk⟩
theorem wo_st1 (ty : TypeId) (x y : Operand) (k off : Nat) (v : Value) (vs vs' : List Value) (hA : At w k vs) (ho : o.op = .store ty x y) (hd : o.dst = none) (hx : evl n l x = pt k off) (hy : evl n l y = v)
    (hl : Nat.blt off vs.length = true) (hi : (P.info? ty).map (·.size) = some 1) (hv : v.cells = #[v]) (h1 : v.oneCell' = true) (hvs : vs' = vs.take off ++ [v] ++ vs.drop (off + 1))
    (hk : ∀ w', St k w w' → At w' k vs' → K (fr n l) w') : WO P o n l w K Q := ⟨o_st1 ty x y k off v vs vs' hA ho hd hx hy hl hi hv h1 hvs hk⟩
/-- The block D has cells as they were or as they will be; all else has only grown. -/
structure GD (D : Nat) (us fin : List Value) (W w : World) : Prop where
  other : ∀ j vs, j ≠ D → At W j vs → At w j vs
  mo : ∀ a : World, a.heap.size ≤ D → Mo a W → Mo a w
  cur : ∃ vs : List Value, At w D vs ∧ vs.length = fin.length ∧ ∀ j : Nat, vs[j]? = us[j]? ∨ vs[j]? = fin[j]?
theorem GD.start {D : Nat} {us fin : List Value} {W : World} (h : At W D us) (hl : us.length = fin.length) : GD D us fin W W.drew :=
  ⟨fun _ _ _ h => h.mo ((Mo.refl _).drew), fun _ _ h => h.drew, us, h.mo ((Mo.refl _).drew), hl, fun _ => Or.inl rfl⟩
theorem GD.grow {D : Nat} {us fin : List Value} {W : World} (w w' : World) (h : GD D us fin W w) (m : Mo w w') : GD D us fin W w' := by
  obtain ⟨vs, h1, h2, h3⟩ := h.cur
  exact ⟨fun j vs hj hA => (h.other j vs hj hA).mo m, fun a ha hM => (h.mo a ha hM).trans m, vs, h1.mo m, h2, h3⟩
/-- These cells of D are as they will be. -/
def pqf (D : Nat) (fin : List Value) (off len : Nat) : Value → World → Prop := fun _ w => D < w.heap.size ∧ ∀ j, off ≤ j → j < off + len → w.cell? ⟨D, j, none⟩ = fin[j]?
theorem smo_pqf (D : Nat) (fin : List Value) (off len : Nat) : Smo (pqf D fin off len) := fun _ _ _ h m => ⟨Nat.lt_of_lt_of_le h.1 m.size, fun j a b => (m.cell D j h.1).trans (h.2 j a b)⟩
theorem at_get {w : World} {D : Nat} {vs : List Value} (h : At w D vs) {j : Nat} (hj : j < vs.length) : w.cell? ⟨D, j, none⟩ = vs[j]? := by
  rw [List.getElem?_eq_getElem hj]; exact h.cell (List.getElem?_eq_getElem hj)
theorem put_get {vs ul : List Value} {off j : Nat} (hl : off + ul.length ≤ vs.length) : (vs.take off ++ ul ++ vs.drop (off + ul.length))[j]? = if off ≤ j ∧ j < off + ul.length then ul[j - off]? else vs[j]? := by
  have e0 : (vs.take off).length = off := by rw [List.length_take]; omega
  split
  · rename_i h
    rw [List.append_assoc, List.getElem?_append_right (by omega), List.getElem?_append_left (by omega), e0]
  · rename_i h
    by_cases c : j < off
    · rw [List.append_assoc, List.getElem?_append_left (by omega), List.getElem?_take_of_lt c]
    · rw [List.getElem?_append_right (by rw [List.length_append]; omega), List.getElem?_drop, List.length_append, e0]
      congr 1; omega
/-- A store into D of what will be there. -/
theorem GD.put {D : Nat} {us fin : List Value} {W w w' : World} (h : GD D us fin W w) {vs : List Value} (hv : At w D vs) (hvl : vs.length = fin.length) (hvo : ∀ j : Nat, vs[j]? = us[j]? ∨ vs[j]? = fin[j]?) (off : Nat) (ul : List Value) (hl : off + ul.length ≤ fin.length) (hu : ul = (fin.drop off).take ul.length) (hS : St D w w') (hA : At w' D (vs.take off ++ ul ++ vs.drop (off + ul.length))) :
    GD D us fin W w' ∧ (∀ u, pqf D fin off ul.length u w') ∧ ∀ o2 l2 u, o2 + l2 ≤ fin.length → pqf D fin o2 l2 u w → pqf D fin o2 l2 u w' := by
  have hg : ∀ j, off ≤ j → j < off + ul.length → ul[j - off]? = fin[j]? := fun j h1 h2 => by
    rw [hu, List.getElem?_take_of_lt (by omega), List.getElem?_drop]; congr 1; omega
  have hlen : (vs.take off ++ ul ++ vs.drop (off + ul.length)).length = fin.length := by simp; omega
  refine ⟨⟨fun j xs hj hA0 => hS.other j xs hj (h.other j xs hj hA0), fun a ha hM => hS.mo a ha (h.mo a ha hM), _, hA, hlen, fun j => ?_⟩, fun u => ⟨hA.lt, fun j a b => ?_⟩, fun o2 l2 u ho hp => ⟨hA.lt, fun j a b => ?_⟩⟩
  · rw [put_get (by omega)]
    split
    · rename_i c; exact Or.inr (hg j c.1 c.2)
    · exact hvo j
  · rw [at_get hA (by omega), put_get (by omega), if_pos ⟨a, b⟩, hg j a b]
  · rw [at_get hA (by omega), put_get (by omega)]
    split
    · rename_i c; exact hg j c.1 c.2
    · rw [← at_get hv (by omega)]; exact hp.2 j a b
def covB (ps : List (Nat × Nat)) (j : Nat) : Bool := ps.any fun p => Nat.ble p.1 j && Nat.blt j (p.1 + p.2)
def mg (ps : List (Nat × Nat)) : Nat → List Value → List Value → List Value
  | _, [], _ => []
  | _, _ :: _, [] => []
  | i, u :: us, f :: fs => (bif covB ps i then f else u) :: mg ps (i + 1) us fs
theorem mg_get (ps : List (Nat × Nat)) : ∀ (us fs : List Value) (i j : Nat), us.length = fs.length → covB ps (i + j) = false → (mg ps i us fs)[j]? = us[j]?
  | [], _, _, j, _, _ => rfl
  | _ :: _, [], _, j, h, _ => by simp at h
  | u :: us, f :: fs, i, 0, h, hc => by simp only [Nat.add_zero] at hc; simp [mg, hc]
  | u :: us, f :: fs, i, j + 1, h, hc => by
    have := mg_get ps us fs (i + 1) j (by simpa using h) (by rw [show i + 1 + j = i + (j + 1) by omega]; exact hc)
    simpa [mg] using this
theorem GD.fin {D : Nat} {us fin : List Value} {W w : World} (h : GD D us fin W w) (ps : List (Nat × Nat)) (hul : us.length = fin.length) (hp : ∀ p ∈ ps, ∃ u, pqf D fin p.1 p.2 u w) (hf : mg ps 0 us fin = fin) : At w D fin := by
  obtain ⟨vs, h1, h2, h3⟩ := h.cur
  have : vs = fin := by
    apply List.ext_getElem?
    intro j
    by_cases hj : j < fin.length
    · cases hc : covB ps j with
      | true =>
        obtain ⟨p, hpm, hpc⟩ := List.any_eq_true.1 hc
        simp only [Bool.and_eq_true, Nat.blt_eq] at hpc
        obtain ⟨u, hq⟩ := hp p hpm
        rw [← at_get h1 (by omega)]
        exact hq.2 j (Nat.le_of_ble_eq_true hpc.1) hpc.2
      | false =>
        have e := mg_get ps us fin 0 j hul (by rw [Nat.zero_add]; exact hc)
        rw [hf] at e
        rcases h3 j with h | h
        · rw [h, ← e]
        · exact h
    · rw [List.getElem?_eq_none (by omega), List.getElem?_eq_none (by omega)]
  rw [this] at h1
  exact h1
/-- What is said stays where D's cells only come to what they will be. -/
def Spt (D : Nat) (fin : List Value) (p : Value → World → Prop) : Prop := ∀ u w w', (∀ o2 l2 u, o2 + l2 ≤ fin.length → pqf D fin o2 l2 u w → pqf D fin o2 l2 u w') → p u w → p u w'
def Spts (D : Nat) (fin : List Value) (sp : List (Value → World → Prop)) : Prop := ∀ j, Spt D fin (spQ sp j)
theorem spts_nil {D : Nat} {fin : List Value} : Spts D fin [] := fun _ _ _ _ _ _ => trivial
theorem spts_cons {D : Nat} {fin : List Value} {p : Value → World → Prop} {sp : List (Value → World → Prop)} (h : Spt D fin p) (hs : Spts D fin sp) : Spts D fin (p :: sp) := fun j => by
  cases j with
  | zero => exact h
  | succ j => have := hs j; unfold spQ at this ⊢; simpa using this
theorem spt_vq {D : Nat} {fin : List Value} (v : Value) : Spt D fin (vq v) := fun _ _ _ _ h => h
theorem spt_pqf {D : Nat} {fin : List Value} (off len : Nat) (hl : Nat.ble (off + len) fin.length = true) : Spt D fin (pqf D fin off len) := fun u _ _ hh h => hh off len u (Nat.le_of_ble_eq_true hl) h
theorem ovq_st1 {ol : List Oper} {sp : List (Value → World → Prop)} {i : Nat} {us fin : List Value} {W : World} (ty : TypeId) (x y : Operand) (D off : Nat) (v : Value) (hs : spQ sp i = pqf D fin off 1) (hp : Spts D fin sp) (hu : [v] = (fin.drop off).take 1) (hl : Nat.ble (off + 1) fin.length = true)
    (ho : o.op = .store ty x y) (hd : o.dst = none) (hi : (P.info? ty).map (·.size) = some 1) (hc : v.cells = #[v]) (h1 : v.oneCell' = true)
    (hx : ∀ f w, (∀ j, depb o j = true → spQ sp j (f j) w) → evl n (asg f 0 ol l) x = pt D off) (hy : ∀ f w, (∀ j, depb o j = true → spQ sp j (f j) w) → evl n (asg f 0 ol l) y = v) (hg : ∀ f : Nat → Value, wnt n (asg f 0 ol l) ol.toArray o = true) : OgV P ol Q n l (GD D us fin W) sp i o := by
  refine ⟨fun f w hG hdp K hK => ?_⟩
  have hl' := Nat.le_of_ble_eq_true hl
  obtain ⟨vs, hA, hvl, hvo⟩ := hG.cur
  refine go_run (hg f) (wo_st1 ty x y D off v vs _ hA ho hd (hx f w hdp) (hy f w hdp) (by rw [Nat.blt_eq]; omega) hi hc h1 rfl (fun w' hS hA' => ?_))
  obtain ⟨g1, g2, g3⟩ := hG.put hA hvl hvo off [v] (by simpa using hl') (by simpa using hu) hS (by simpa using hA')
  have := hK undef w' g1 (by rw [hs]; exact g2 _) (fun j u _ hr => hp j u w w' g3 hr)
  rw [hd] at this
  exact this
theorem ovq_st {ol : List Oper} {sp : List (Value → World → Prop)} {i : Nat} {us fin : List Value} {W : World} (ty : TypeId) (x y : Operand) (D off : Nat) (ul : Array Value) (hs : spQ sp i = pqf D fin off ul.size) (hp : Spts D fin sp) (hu : ul.toList = (fin.drop off).take ul.size) (hl : Nat.ble (off + ul.size) fin.length = true)
    (ho : o.op = .store ty x y) (hd : o.dst = none) (hi : (P.info? ty).map (·.size) = some ul.size) (h1 : ul.toList.all (·.oneCell') = true)
    (hx : ∀ f w, (∀ j, depb o j = true → spQ sp j (f j) w) → evl n (asg f 0 ol l) x = pt D off) (hy : ∀ f w, (∀ j, depb o j = true → spQ sp j (f j) w) → evl n (asg f 0 ol l) y = .agg ul) (hg : ∀ f : Nat → Value, wnt n (asg f 0 ol l) ol.toArray o = true) : OgV P ol Q n l (GD D us fin W) sp i o := by
  refine ⟨fun f w hG hdp K hK => ?_⟩
  have hl' := Nat.le_of_ble_eq_true hl
  obtain ⟨vs, hA, hvl, hvo⟩ := hG.cur
  refine go_run (hg f) (wo_st ty x y D off ul vs _ hA ho hd (hx f w hdp) (hy f w hdp) (by rw [hvl]; exact hl) hi h1 rfl (fun w' hS hA' => ?_))
  obtain ⟨g1, g2, g3⟩ := hG.put hA hvl hvo off ul.toList (by simpa using hl') (by simpa using hu) hS hA'
  have := hK undef w' g1 (by rw [hs]; simpa using g2 undef) (fun j u _ hr => hp j u w w' g3 hr)
  rw [hd] at this
  exact this
end
end Go.Proofs.Ythpekbohmfmffaa
