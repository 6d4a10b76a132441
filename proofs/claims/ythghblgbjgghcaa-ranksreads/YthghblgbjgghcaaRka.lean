/-
  Ranks over what reads what. Ranks under way: what a map says of items.
-/
import Derived.Test.YthghblgbjgghcaaG10
namespace Go.Proofs.Ythghblgbjgghcaa
open Go.RowKit D
def row (R : List (List Nat)) (n : Nat) : List Nat := (R[n]?).getD []
theorem row_eq {R : List (List Nat)} {n : Nat} {L : List Nat} (h : R[n]? = some L) : row R n = L := by unfold row; rw [h]; rfl
/-- All numbers are those of items. -/
def Rin (R : List (List Nat)) : Prop := ∀ L ∈ R, ∀ m ∈ L, m < R.length
theorem Rin.row {R : List (List Nat)} (h : Rin R) {n m : Nat} (hm : m ∈ row R n) : m < R.length := by
  unfold Ythghblgbjgghcaa.row at hm
  cases e : R[n]? with
  | none => rw [e] at hm; simp at hm
  | some L => rw [e] at hm; exact h L (List.mem_of_getElem? e) m hm
theorem row_lt {R : List (List Nat)} {n m : Nat} (hm : m ∈ row R n) : n < R.length := by
  unfold row at hm
  cases e : R[n]? with
  | none => rw [e] at hm; simp at hm
  | some L => exact lt_of_get e
def stp (g : Nat → Option Nat) (a : Option Nat) (m : Nat) : Option Nat := match a, g m with
  | some a, some r => some (max a (r + 1))
  | _, _ => none
/-- A rank, with so much breath. -/
def rkF (R : List (List Nat)) : Nat → Nat → Option Nat
  | 0, _ => none
  | f + 1, n => (row R n).foldl (stp (rkF R f)) (some 0)
theorem stp_none (g : Nat → Option Nat) : ∀ L : List Nat, L.foldl (stp g) none = none
  | [] => rfl
  | _ :: L => stp_none g L
theorem stp_some {g : Nat → Option Nat} : ∀ (L : List Nat) (a b : Nat), L.foldl (stp g) (some a) = some b → a ≤ b ∧ ∀ m ∈ L, ∃ r, g m = some r ∧ r < b
  | [], a, b, h => by cases h; exact ⟨Nat.le_refl _, fun m hm => by simp at hm⟩
  | x :: L, a, b, h => by
    rw [List.foldl_cons] at h
    cases e : g x with
    | none => simp only [stp, e] at h; rw [stp_none] at h; cases h
    | some r =>
      simp only [stp, e] at h
      obtain ⟨h1, h2⟩ := stp_some L _ b h
      refine ⟨by omega, fun m hm => ?_⟩
      rcases List.mem_cons.1 hm with rfl | q
      · exact ⟨r, e, by omega⟩
      · exact h2 m q
theorem stp_up {g g' : Nat → Option Nat} (hg : ∀ m r, g m = some r → g' m = some r) : ∀ (L : List Nat) (a b : Nat), L.foldl (stp g) (some a) = some b → L.foldl (stp g') (some a) = some b
  | [], _, _, h => h
  | x :: L, a, b, h => by
    rw [List.foldl_cons] at h ⊢
    cases e : g x with
    | none => simp only [stp, e] at h; rw [stp_none] at h; cases h
    | some r => simp only [stp, e] at h; simp only [stp, hg x r e]; exact stp_up hg L _ b h
theorem rkF_up {R : List (List Nat)} : ∀ (f n r : Nat), rkF R f n = some r → rkF R (f + 1) n = some r
  | 0, _, _, h => by cases h
  | f + 1, n, r, h => stp_up (fun m r hm => rkF_up f m r hm) _ _ _ h
theorem rkF_ups {R : List (List Nat)} {f n r : Nat} (h : rkF R f n = some r) : ∀ d, rkF R (f + d) n = some r
  | 0 => h
  | d + 1 => rkF_up (f + d) n r (rkF_ups h d)
/-- It has this rank; it has none. -/
def RkS (R : List (List Nat)) (n r : Nat) : Prop := ∃ f, rkF R f n = some r
def RkN (R : List (List Nat)) (n : Nat) : Prop := ∀ f, rkF R f n = none
theorem RkS.one {R : List (List Nat)} {n r r' : Nat} (h : RkS R n r) (h' : RkS R n r') : r = r' := by
  obtain ⟨f, h⟩ := h
  obtain ⟨f', h'⟩ := h'
  have h1 := rkF_ups h f'
  have h2 := rkF_ups h' f
  rw [Nat.add_comm] at h2
  rw [h1] at h2; exact Option.some.inj h2
theorem RkS.no {R : List (List Nat)} {n r : Nat} (h : RkS R n r) (h' : RkN R n) : False := by obtain ⟨f, h⟩ := h; rw [h' f] at h; cases h
theorem rk_or (R : List (List Nat)) (n : Nat) : (∃ r, RkS R n r) ∨ RkN R n := by
  by_cases h : ∃ r, RkS R n r
  · exact Or.inl h
  · refine Or.inr (fun f => ?_)
    cases e : rkF R f n with
    | none => rfl
    | some r => exact absurd ⟨r, f, e⟩ h
theorem RkS.read {R : List (List Nat)} {n m r : Nat} (h : RkS R n r) (hm : m ∈ row R n) : ∃ r', RkS R m r' ∧ r' < r := by
  obtain ⟨f, h⟩ := h
  cases f with
  | zero => cases h
  | succ f => obtain ⟨r', h1, h2⟩ := (stp_some _ _ _ h).2 m hm; exact ⟨r', ⟨f, h1⟩, h2⟩
theorem RkN.read {R : List (List Nat)} {n m : Nat} (h : RkN R m) (hm : m ∈ row R n) : RkN R n := by
  rcases rk_or R n with ⟨r, q⟩ | q
  · obtain ⟨r', h1, _⟩ := q.read hm; exact (h1.no h).elim
  · exact q
/-- So far the least rank of one that reads these. -/
def Lst (R : List (List Nat)) (L : List Nat) (b : Nat) : Prop := ∃ f, L.foldl (stp (rkF R f)) (some 0) = some b
theorem Lst.nil (R : List (List Nat)) : Lst R [] 0 := ⟨0, rfl⟩
theorem Lst.more {R : List (List Nat)} {L : List Nat} {b m r : Nat} (h : Lst R L b) (hm : RkS R m r) : Lst R (L ++ [m]) (max b (r + 1)) := by
  obtain ⟨f, h⟩ := h
  obtain ⟨f', hm⟩ := hm
  refine ⟨f + f', ?_⟩
  have h1 : L.foldl (stp (rkF R (f + f'))) (some 0) = some b := stp_up (fun m r hh => rkF_ups hh f') _ _ _ h
  have h2 := rkF_ups hm f
  rw [Nat.add_comm] at h2
  rw [List.foldl_append, h1]
  simp only [List.foldl_cons, List.foldl_nil, stp, h2]
theorem Lst.all {R : List (List Nat)} {n b : Nat} (h : Lst R (row R n) b) : RkS R n b := by obtain ⟨f, h⟩ := h; exact ⟨f + 1, h⟩
theorem Lst.bd {R : List (List Nat)} {L : List Nat} {b B : Nat} (h : Lst R L b) (hB : ∀ m ∈ L, ∀ r, RkS R m r → r < B) : b ≤ B := by
  obtain ⟨f, h⟩ := h
  have key : ∀ (L : List Nat) (a : Nat), a ≤ B → (∀ m ∈ L, ∀ r, RkS R m r → r < B) → L.foldl (stp (rkF R f)) (some a) = some b → b ≤ B := by
    intro L
    induction L with
    | nil => intro a ha _ h; cases h; exact ha
    | cons x L ih =>
      intro a ha hL h
      rw [List.foldl_cons] at h
      cases e : rkF R f x with
      | none => simp only [stp, e] at h; rw [stp_none] at h; cases h
      | some r =>
        simp only [stp, e] at h
        have := hL x (List.mem_cons_self ..) r ⟨f, e⟩
        exact ih _ (by omega) (fun m hm => hL m (List.mem_cons_of_mem _ hm)) h
  exact key L 0 (Nat.zero_le _) hB h
/-- By so many steps and one more. -/
def rch (R : List (List Nat)) : Nat → Nat → Nat → Prop
  | 0, a, b => b ∈ row R a
  | k + 1, a, b => ∃ c, c ∈ row R a ∧ rch R k c b
def Rch (R : List (List Nat)) (a b : Nat) : Prop := ∃ k, rch R k a b
theorem rch_snoc {R : List (List Nat)} {b c : Nat} (hc : c ∈ row R b) : ∀ (k a : Nat), rch R k a b → rch R (k + 1) a c
  | 0, a, h => ⟨b, h, hc⟩
  | k + 1, a, h => by obtain ⟨d, h1, h2⟩ := h; exact ⟨d, h1, rch_snoc hc k d h2⟩
theorem Rch.snoc {R : List (List Nat)} {a b c : Nat} (h : Rch R a b) (hc : c ∈ row R b) : Rch R a c := by obtain ⟨k, h⟩ := h; exact ⟨k + 1, rch_snoc hc k a h⟩
theorem Rch.one {R : List (List Nat)} {a b : Nat} (h : b ∈ row R a) : Rch R a b := ⟨0, h⟩
theorem Rch.rank {R : List (List Nat)} {a b r : Nat} (h : Rch R a b) (hr : RkS R a r) : ∃ r', RkS R b r' ∧ r' < r := by
  obtain ⟨k, h⟩ := h
  induction k generalizing a r with
  | zero => exact hr.read h
  | succ k ih =>
    obtain ⟨c, h1, h2⟩ := h
    obtain ⟨r1, q1, q2⟩ := hr.read h1
    obtain ⟨r2, q3, q4⟩ := ih q1 h2
    exact ⟨r2, q3, by omega⟩
theorem Rch.self {R : List (List Nat)} {a : Nat} (h : Rch R a a) : RkN R a := by
  rcases rk_or R a with ⟨r, q⟩ | q
  · obtain ⟨r', h1, h2⟩ := h.rank q
    have := q.one h1; omega
  · exact q
/-- What has no rank reads such a one. -/
theorem RkN.next {R : List (List Nat)} {n : Nat} (h : RkN R n) : ∃ m, m ∈ row R n ∧ RkN R m := by
  refine Classical.byContradiction fun hn => ?_
  have hall : ∀ m ∈ row R n, ∃ r, RkS R m r := fun m hm => by
    rcases rk_or R m with q | q
    · exact q
    · exact absurd ⟨m, hm, q⟩ hn
  have key : ∀ (L pre : List Nat), (∀ m ∈ L, ∃ r, RkS R m r) → (∃ b, Lst R pre b) → ∃ b, Lst R (pre ++ L) b := by
    intro L
    induction L with
    | nil => intro pre _ h; rw [List.append_nil]; exact h
    | cons x L ih =>
      intro pre hL ⟨b, hb⟩
      obtain ⟨r, hr⟩ := hL x (List.mem_cons_self ..)
      have := ih (pre ++ [x]) (fun m hm => hL m (List.mem_cons_of_mem _ hm)) ⟨_, hb.more hr⟩
      rw [List.append_assoc] at this; exact this
  obtain ⟨b, hb⟩ := key _ [] hall ⟨0, Lst.nil R⟩
  rw [List.nil_append] at hb
  exact hb.all.no h
/-- Then there is a cycle. -/
theorem RkN.cycle {R : List (List Nat)} {n : Nat} (h : RkN R n) : ∃ a, a < R.length ∧ Rch R a a := by
  refine Classical.byContradiction fun hn => ?_
  have key : ∀ k : Nat, ∃ L : List Nat, ∃ x, L.length = k ∧ L.Nodup ∧ (∀ a ∈ L, a < R.length ∧ Rch R a x) ∧ RkN R x := by
    intro k
    induction k with
    | zero => exact ⟨[], n, rfl, List.nodup_nil, fun a ha => by simp at ha, h⟩
    | succ k ih =>
      obtain ⟨L, x, h1, h2, h3, h4⟩ := ih
      obtain ⟨m, hm, hmN⟩ := h4.next
      have hxl := row_lt hm
      refine ⟨x :: L, m, by simp [h1], List.nodup_cons.2 ⟨fun hx => hn ⟨x, hxl, (h3 x hx).2⟩, h2⟩, fun a ha => ?_, hmN⟩
      rcases List.mem_cons.1 ha with rfl | q
      · exact ⟨hxl, Rch.one hm⟩
      · exact ⟨(h3 a q).1, (h3 a q).2.snoc hm⟩
  obtain ⟨L, x, h1, h2, h3, _⟩ := key (R.length + 1)
  have := nodup_le R.length L h2 (fun a ha => (h3 a ha).1)
  omega
theorem RA_in (l : List S5) : Rin (RA l) := fun L hL m hm => by
  rw [RA_len]
  unfold RA at hL
  obtain ⟨s, _, hL⟩ := List.mem_flatMap.1 hL
  obtain ⟨z, _, rfl⟩ := List.mem_map.1 hL
  unfold rdI at hm
  split at hm
  · simp at hm
  · exact (mem_ris.1 hm).1
end Go.Proofs.Ythghblgbjgghcaa
namespace Go.Proofs.Ythghblgbjgghcaa
open Go.RowKit D
theorem stp_hit {g : Nat → Option Nat} : ∀ (L : List Nat) (a b : Nat), L.foldl (stp g) (some a) = some b → a = b ∨ ∃ m ∈ L, ∃ r, g m = some r ∧ r + 1 = b
  | [], a, b, h => by cases h; exact Or.inl rfl
  | x :: L, a, b, h => by
    rw [List.foldl_cons] at h
    cases e : g x with
    | none => simp only [stp, e] at h; rw [stp_none] at h; cases h
    | some r =>
      simp only [stp, e] at h
      rcases stp_hit L _ b h with q | ⟨m, hm, q⟩
      · by_cases h1 : a ≤ r + 1
        · exact Or.inr ⟨x, List.mem_cons_self .., r, e, by omega⟩
        · exact Or.inl (by omega)
      · exact Or.inr ⟨m, List.mem_cons_of_mem _ hm, q⟩
theorem RkS.chain {R : List (List Nat)} (hR : Rin R) : ∀ (r n : Nat), RkS R n r → ∃ L : List Nat, L.length = r ∧ L.Nodup ∧ ∀ a ∈ L, a < R.length ∧ Rch R n a
  | 0, n, _ => ⟨[], rfl, List.nodup_nil, fun a ha => by simp at ha⟩
  | r + 1, n, h => by
    have hh := h
    obtain ⟨f, h⟩ := h
    cases f with
    | zero => cases h
    | succ f =>
      rcases stp_hit _ _ _ h with q | ⟨m, hm, r', h1, h2⟩
      · omega
      · have hmr : RkS R m r := ⟨f, by rw [h1]; congr 1; omega⟩
        obtain ⟨L, l1, l2, l3⟩ := RkS.chain hR r m hmr
        refine ⟨m :: L, by simp [l1], List.nodup_cons.2 ⟨fun q => hmr.no (l3 m q).2.self, l2⟩, fun a ha => ?_⟩
        rcases List.mem_cons.1 ha with rfl | q
        · exact ⟨hR.row hm, Rch.one hm⟩
        · obtain ⟨k, hk⟩ := (l3 a q).2
          exact ⟨(l3 a q).1, k + 1, m, hm, hk⟩
theorem RkS.lt {R : List (List Nat)} (hR : Rin R) {n r : Nat} (h : RkS R n r) : r ≤ R.length := by
  obtain ⟨L, l1, l2, l3⟩ := RkS.chain hR r n h
  rw [← l1]; exact nodup_le _ L l2 (fun a ha => (l3 a ha).1)
/-- What is told of an item. -/
def Rkv (R : List (List Nat)) (n : Nat) (v : Int) : Prop := (∃ r : Nat, RkS R n r ∧ v = (r : Int)) ∨ (RkN R n ∧ v = -1)
theorem Rkv.one {R : List (List Nat)} {n : Nat} {v v' : Int} (h : Rkv R n v) (h' : Rkv R n v') : v = v' := by
  rcases h with ⟨r, a, rfl⟩ | ⟨a, rfl⟩ <;> rcases h' with ⟨r', b, rfl⟩ | ⟨b, rfl⟩
  · rw [a.one b]
  · exact (a.no b).elim
  · exact (b.no a).elim
  · rfl
/-- How many are not in the map. -/
def und (N : Nat) (al : List (Int × Int)) : Nat := ((List.range N).filter (fun n => (lkq al ((n : Nat) : Int)).isNone)).length
theorem und_put {N : Nat} {al : List (Int × Int)} {n : Nat} {v : Int} (hn : n < N) (h : lkq al ((n : Nat) : Int) = none) : und N (putq al ((n : Nat) : Int) v) + 1 = und N al := by
  unfold und
  have key : ∀ L : List Nat, L.Nodup → n ∈ L → (L.filter (fun m => (lkq (putq al ((n : Nat) : Int) v) ((m : Nat) : Int)).isNone)).length + 1 = (L.filter (fun m => (lkq al ((m : Nat) : Int)).isNone)).length := by
    intro L
    induction L with
    | nil => intro _ h; simp at h
    | cons x L ih =>
      intro hd hm
      have hd2 := List.nodup_cons.1 hd
      by_cases e : x = n
      · subst e
        have hL : L.filter (fun m => (lkq (putq al ((x : Nat) : Int) v) ((m : Nat) : Int)).isNone) = L.filter (fun m => (lkq al ((m : Nat) : Int)).isNone) := List.filter_congr (fun m hmL => by
          rw [lkq_put, if_neg (fun q => hd2.1 (by have : x = m := by omega
                                                  rw [this]; exact hmL))])
        rw [List.filter_cons, List.filter_cons, lkq_put, if_pos rfl, h, hL]; simp
      · have hm2 : n ∈ L := by
          rcases List.mem_cons.1 hm with q | q
          · exact absurd q.symm e
          · exact q
        have := ih hd2.2 hm2
        have hx : lkq (putq al ((n : Nat) : Int) v) ((x : Nat) : Int) = lkq al ((x : Nat) : Int) := by rw [lkq_put, if_neg (fun q => e (by omega))]
        rw [List.filter_cons, List.filter_cons, hx]
        split
        · simp only [List.length_cons]; omega
        · exact this
  exact key _ List.nodup_range (List.mem_range.2 hn)
theorem und_same {N : Nat} {al : List (Int × Int)} {n : Nat} {v : Int} (h : (lkq al ((n : Nat) : Int)).isSome = true) : und N (putq al ((n : Nat) : Int) v) = und N al := by
  unfold und
  congr 1
  apply List.filter_congr
  intro m _
  rw [lkq_put]
  by_cases e : ((n : Nat) : Int) = ((m : Nat) : Int)
  · rw [if_pos e, ← e]
    obtain ⟨x, hx⟩ := Option.isSome_iff_exists.1 h
    rw [hx]; rfl
  · rw [if_neg e]
theorem und_le {N : Nat} {al al' : List (Int × Int)} (h : ∀ (m : Int) v, lkq al m = some v → lkq al' m = some v) : und N al' ≤ und N al := by
  unfold und
  have key : ∀ L : List Nat, (L.filter (fun m => (lkq al' ((m : Nat) : Int)).isNone)).length ≤ (L.filter (fun m => (lkq al ((m : Nat) : Int)).isNone)).length := by
    intro L
    induction L with
    | nil => simp
    | cons x L ih =>
      rw [List.filter_cons, List.filter_cons]
      cases e : lkq al ((x : Nat) : Int) with
      | none => split <;> simp <;> omega
      | some v => rw [h _ v e]; simpa using ih
  exact key _
/-- The map's size tells what is in it. -/
def Cn (N : Nat) (al : List (Int × Int)) : Prop := al.length + und N al = N
theorem Cn.new {N : Nat} {al : List (Int × Int)} {n : Nat} {v : Int} (hC : Cn N al) (hn : n < N) (h : lkq al ((n : Nat) : Int) = none) : Cn N (putq al ((n : Nat) : Int) v) := by
  unfold Cn at hC ⊢
  have h1 := und_put (v := v) hn h
  rw [putq_len, h]; simp; omega
theorem Cn.old {N : Nat} {al : List (Int × Int)} {n : Nat} {v : Int} (hC : Cn N al) (h : (lkq al ((n : Nat) : Int)).isSome = true) : Cn N (putq al ((n : Nat) : Int) v) := by
  unfold Cn at hC ⊢
  rw [und_same h, putq_len, h]; simpa using hC
theorem Cn.nil (N : Nat) : Cn N [] := by
  unfold Cn und
  have h : (List.range N).filter (fun n => (lkq ([] : List (Int × Int)) ((n : Nat) : Int)).isNone) = List.range N := List.filter_eq_self.2 (fun _ _ => rfl)
  rw [h]; simp
theorem und_zero {N : Nat} {al : List (Int × Int)} (h : ∀ n, n < N → (lkq al ((n : Nat) : Int)).isSome = true) : und N al = 0 := by
  unfold und
  rw [List.length_eq_zero_iff, List.filter_eq_nil_iff]
  intro n hn
  have := h n (List.mem_range.1 hn)
  cases e : lkq al ((n : Nat) : Int) with
  | none => rw [e] at this; cases this
  | some v => simp
/-- What the map says: of those under way that they have none; of others their rank. -/
def Iv (R : List (List Nat)) (al : List (Int × Int)) (P : List Nat) : Prop := ∀ (n : Nat) v, lkq al ((n : Nat) : Int) = some v → (n ∈ P ∧ v = -1) ∨ Rkv R n v
structure Ks (V : List Iz) (kM kR kG mb ka : Nat) (w : World) (al : List (Int × Int)) : Prop where
  aM : At w kM [.map (some mb)]
  aR : At w kR [.slice (some ⟨ka, 0, none⟩) V.length V.length]
  aG : At w kG [.func (.func 64) #[] #[pt kM 0, pt kR 0, pt kG 0]]
  ob : Ob w ka 32 (V.map Iz.v)
  li : ∀ x ∈ V, Li w x.pa x.L
  mp : Mp ei w mb al
theorem Ks.mo {V : List Iz} {kM kR kG mb ka : Nat} {w w' : World} {al : List (Int × Int)} (h : Ks V kM kR kG mb ka w al) (m : Mo w w') : Ks V kM kR kG mb ka w' al := ⟨h.aM.mo m, h.aR.mo m, h.aG.mo m, h.ob.mo m, fun x hx => (h.li x hx).mo m, h.mp.mo m⟩
theorem Ks.put {V : List Iz} {kM kR kG mb ka : Nat} {w w' : World} {al al' : List (Int × Int)} (h : Ks V kM kR kG mb ka w al) (m : Mk (fun j => j = mb) w w') (hM : Mp ei w' mb al') : Ks V kM kR kG mb ka w' al' :=
  ⟨m.at h.aM (h.mp.nea h.aM), m.at h.aR (h.mp.nea h.aR), m.at h.aG (h.mp.nea h.aG), h.ob.mk m (h.mp.nec h.ob), fun x hx => (h.li x hx).kk m (fun a e e2 => h.mp.nty ((h.li x hx).ty a e) e2), hM⟩
theorem Ks.sl {V : List Iz} {kM kR kG mb ka : Nat} {w : World} {al : List (Int × Int)} (h : Ks V kM kR kG mb ka w al) (hz : V.length ≤ maxLen) : SL w 1 zc (some ⟨ka, 0, none⟩) V := SL.of_at (cells := zc) (fun _ => rfl) hz (by
  have := h.ob.at
  rw [show V.flatMap zc = V.map Iz.v by clear h hz this; induction V <;> simp_all]
  exact this)
theorem maxN (a b : Nat) : max ((a : Nat) : Int) ((b : Nat) : Int) = ((max a b : Nat) : Int) := by omega
end Go.Proofs.Ythghblgbjgghcaa
