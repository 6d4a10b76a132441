/-
  Who reads an item; who does by more steps.
-/
import Derived.Test.YthghblgbjgghcaaGma
namespace Go.Proofs.Ythghblgbjgghcaa
open Go.RowKit D
/-- Who reads m, behind i rows and j numbers of the next one. -/
def usr (R : List (List Nat)) (i j m : Nat) : List Nat := ris i (fun n => decide (m ∈ row R n)) ++ (if m ∈ (row R i).take j then [i] else [])
def UA (R : List (List Nat)) : List (List Nat) := (List.range R.length).map (fun m => ris R.length (fun n => decide (m ∈ row R n)))
def VU (R : List (List Nat)) (i j : Nat) (U : List Iz) : Prop := U.map Iz.L = (List.range R.length).map (usr R i j)
theorem VU.get {R : List (List Nat)} {i j : Nat} {U : List Iz} (h : VU R i j U) {m : Nat} (hm : m < R.length) : ∃ x, U[m]? = some x ∧ x.L = usr R i j m := by
  have h1 := congrArg (fun L => L[m]?) h
  simp only [List.getElem?_map, List.getElem?_range hm, Option.map_some] at h1
  cases e : U[m]? with
  | none => rw [e] at h1; cases h1
  | some x => rw [e] at h1; exact ⟨x, rfl, by simpa using h1⟩
theorem VU.len {R : List (List Nat)} {i j : Nat} {U : List Iz} (h : VU R i j U) : U.length = R.length := by have := congrArg List.length h; simpa using this
theorem usr_len (R : List (List Nat)) (i j m : Nat) : (usr R i j m).length ≤ i + 1 := by
  unfold usr
  have := ris_len i (fun n => decide (m ∈ row R n))
  rw [List.length_append]; split <;> simp <;> omega
theorem VU.next {R : List (List Nat)} {i : Nat} {U : List Iz} (h : VU R i (row R i).length U) : VU R (i + 1) 0 U := by
  unfold VU at h ⊢
  rw [h]
  apply List.map_congr_left
  intro m _
  unfold usr
  rw [List.take_length, List.take_zero]
  by_cases e : m ∈ row R i
  · rw [if_pos e, ris_t (by simp [e])]; simp
  · rw [if_neg e, ris_f (by simp [e])]; simp
theorem VU.more {R : List (List Nat)} {i j m : Nat} {U : List Iz} (h : VU R i j U) (hd : (row R i).Nodup) (hj : (row R i)[j]? = some m) (hm : m < R.length) {x : Iz} (hx : U[m]? = some x) (pv : Option Addr) (cv : Nat) : VU R i (j + 1) (U.set m ⟨pv, cv, x.L ++ [i]⟩) := by
  obtain ⟨x', hx', hL⟩ := h.get hm
  rw [hx] at hx'; cases hx'
  have hnm : m ∉ (row R i).take j := fun q => by
    obtain ⟨k, hk, e⟩ := List.mem_iff_getElem.1 q
    have hk2 : k < j := by simp at hk; omega
    have hjl := lt_of_get hj
    rw [List.getElem_take] at e
    have e2 : (row R i)[j] = m := by rw [List.getElem?_eq_getElem hjl] at hj; exact Option.some.inj hj
    have := (List.pairwise_iff_getElem.1 hd) k j (by omega) hjl hk2
    exact this (by rw [e, e2])
  unfold VU at h ⊢
  rw [List.map_set, h]
  apply List.ext_getElem?
  intro q
  rw [List.getElem?_set]
  by_cases e : m = q
  · subst e
    have h1 : m ∈ (row R i).take (j + 1) := by rw [List.take_add_one, hj]; simp
    simp [hm, hL, usr, hnm, h1]
  · simp only [e, if_false, List.getElem?_map]
    rcases Nat.lt_or_ge q R.length with z | z
    · rw [List.getElem?_range z]
      simp only [Option.map_some, usr]
      have h1 : (q ∈ (row R i).take (j + 1)) ↔ q ∈ (row R i).take j := by
        rw [List.take_add_one, hj]; simp; exact fun e2 => absurd e2.symm e
      simp only [h1]
    · rw [List.getElem?_eq_none (by simpa using z)]; rfl
theorem VU.nil (R : List (List Nat)) : VU R 0 0 (List.replicate R.length ⟨none, 0, []⟩) := by
  unfold VU
  have h : usr R 0 0 = fun _ => [] := by funext m; simp [usr, ris]
  rw [List.map_replicate, h, List.map_const', List.length_range]
theorem VU.all {R : List (List Nat)} {U : List Iz} (h : VU R R.length 0 U) : U.map Iz.L = UA R := by
  unfold VU at h; rw [h]; unfold UA
  apply List.map_congr_left
  intro m _; unfold usr; simp
theorem UA_len (R : List (List Nat)) : (UA R).length = R.length := by simp [UA]
theorem UA_row {R : List (List Nat)} {m : Nat} (h : m < R.length) : row (UA R) m = ris R.length (fun n => decide (m ∈ row R n)) := row_eq (by unfold UA; rw [List.getElem?_map, List.getElem?_range h]; rfl)
theorem mem_UA {R : List (List Nat)} {m u : Nat} (h : m < R.length) : u ∈ row (UA R) m ↔ m ∈ row R u := by
  rw [UA_row h, mem_ris]; simp; exact fun q => row_lt q
theorem nodup_ris (n : Nat) (p : Nat → Bool) : (ris n p).Nodup := List.nodup_range.filter _
theorem RA_nd (l : List S5) (n : Nat) : (row (RA l) n).Nodup := by
  rcases Nat.lt_or_ge n (RA l).length with h | h
  · obtain ⟨L, hL⟩ := get_of_lt h
    rw [row_eq hL]
    have h1 := List.mem_of_getElem? hL
    unfold RA at h1
    obtain ⟨s, _, h1⟩ := List.mem_flatMap.1 h1
    obtain ⟨z, _, e⟩ := List.mem_map.1 h1
    rw [← e]; unfold rdI; split
    · exact List.nodup_nil
    · exact nodup_ris _ _
  · unfold row; rw [List.getElem?_eq_none h]; exact List.nodup_nil
/-! Those that are met. -/
structure Dx (U : List (List Nat)) (B B' : List Bool) : Prop where
  le : B'.length = B.length
  up : ∀ t : Nat, B[t]? = some true → B'[t]? = some true
  kd : ∀ t : Nat, B'[t]? = some true → B[t]? = some false → ∀ u ∈ row U t, B'[u]? = some true
theorem Dx.refl (U : List (List Nat)) (B : List Bool) : Dx U B B := ⟨rfl, fun _ h => h, fun t h h2 => (by rw [h] at h2; cases h2)⟩
theorem Dx.trans {U : List (List Nat)} {B B1 B2 : List Bool} (h : Dx U B B1) (k : Dx U B1 B2) : Dx U B B2 := ⟨k.le.trans h.le, fun t q => k.up t (h.up t q), fun t q2 q0 u hu => by
  rcases bool_at k.le q2 with q1 | q1
  · exact k.up u (h.kd t q1 q0 u hu)
  · exact k.kd t q2 q1 u hu⟩
/-- One marked, then what reads it. -/
theorem Dx.one {U : List (List Nat)} {B B2 : List Bool} {s : Nat} (hs : B[s]? = some false) (k : Dx U (B.set s true) B2) (hk : ∀ u ∈ row U s, B2[u]? = some true) : Dx U B B2 := by
  have hse := lt_of_get hs
  have set_ne : ∀ t : Nat, t ≠ s → (B.set s true)[t]? = B[t]? := fun t ht => List.getElem?_set_ne (Ne.symm ht)
  refine ⟨by rw [k.le]; simp, fun t q => ?_, fun t q2 q0 u hu => ?_⟩
  · by_cases e : t = s
    · subst e; exact k.up t (List.getElem?_set_self hse)
    · exact k.up t (by rw [set_ne t e]; exact q)
  · by_cases e : t = s
    · subst e; exact hk u hu
    · exact k.kd t q2 (by rw [set_ne t e]; exact q0) u hu
/-- All that is met reads it. -/
def Snd (R : List (List Nat)) (n : Nat) (B : List Bool) : Prop := ∀ u : Nat, B[u]? = some true → Rch R u n
theorem Snd.set {R : List (List Nat)} {n s : Nat} {B : List Bool} (h : Snd R n B) (hs : Rch R s n) : Snd R n (B.set s true) := fun u hu => by
  by_cases e : u = s
  · subst e; exact hs
  · rw [List.getElem?_set_ne (Ne.symm e)] at hu; exact h u hu
theorem Rch.cons {R : List (List Nat)} {a b c : Nat} (h : b ∈ row R a) (k : Rch R b c) : Rch R a c := by obtain ⟨k, hk⟩ := k; exact ⟨k + 1, b, h, hk⟩
theorem met_all {R : List (List Nat)} {n : Nat} {B : List Bool} (hn : n < R.length) (hD : Dx (UA R) (List.replicate R.length false) B) (hk : ∀ u ∈ row (UA R) n, B[u]? = some true) (hS : Snd R n B) (u : Nat) : B[u]? = some true ↔ Rch R u n := by
  have key : ∀ k u, rch R k u n → B[u]? = some true := by
    intro k
    induction k with
    | zero => exact fun u h => hk u ((mem_UA hn).2 h)
    | succ k ih =>
      intro u ⟨c, h1, h2⟩
      have hc := ih c h2
      have hcl := lt_of_get hc
      rw [hD.le, List.length_replicate] at hcl
      exact hD.kd c hc (by rw [List.getElem?_replicate, if_pos hcl]) u ((mem_UA hcl).2 h1)
  exact ⟨hS u, fun ⟨k, h⟩ => key k u h⟩
structure Bs (U : List Iz) (kU kT kG ku kt : Nat) (w : World) (B : List Bool) : Prop where
  aU : At w kU [.slice (some ⟨ku, 0, none⟩) U.length U.length]
  aT : At w kT [.slice (some ⟨kt, 0, none⟩) U.length U.length]
  aG : At w kG [.func (.func 42) #[] #[pt kU 0, pt kT 0, pt kG 0]]
  ob : Ob w ku 32 (U.map Iz.v)
  li : ∀ x ∈ U, Li w x.pa x.L
  bt : Ob w kt 4 (B.map Value.bool)
  le : B.length = U.length
  nU : kU ≠ kt
  nT : kT ≠ kt
  nG : kG ≠ kt
theorem Bs.mo {U : List Iz} {kU kT kG ku kt : Nat} {w w' : World} {B : List Bool} (h : Bs U kU kT kG ku kt w B) (m : Mo w w') : Bs U kU kT kG ku kt w' B := ⟨h.aU.mo m, h.aT.mo m, h.aG.mo m, h.ob.mo m, fun x hx => (h.li x hx).mo m, h.bt.mo m, h.le, h.nU, h.nT, h.nG⟩
theorem Bs.set {U : List Iz} {kU kT kG ku kt : Nat} {w w' : World} {B : List Bool} (h : Bs U kU kT kG ku kt w B) {s : Nat} (m : Mk (fun j => j = kt) w w') (ho : Ob w' kt 4 ((B.map Value.bool).set s (.bool true))) : Bs U kU kT kG ku kt w' (B.set s true) :=
  ⟨m.at h.aU h.nU, m.at h.aT h.nT, m.at h.aG h.nG, h.ob.mk m (h.ob.ne h.bt (by decide)), fun x hx => (h.li x hx).kk m (fun a e e2 => by have := ((h.li x hx).ty a e).two (e2 ▸ h.bt.ty); cases this), by rw [List.map_set]; exact ho, by simp [h.le], h.nU, h.nT, h.nG⟩
theorem sl_of_ob {w : World} {k : Nat} {V : List Iz} (h : Ob w k 32 (V.map Iz.v)) (hz : V.length ≤ maxLen) : SL w 1 zc (some ⟨k, 0, none⟩) V := SL.of_at (cells := zc) (fun _ => rfl) hz (by
  have := h.at
  rw [show V.flatMap zc = V.map Iz.v by clear h hz this; induction V <;> simp_all]
  exact this)
end Go.Proofs.Ythghblgbjgghcaa
