/-
  How texts stand; how columns stand; columns in their order. Columns, as the program tells them.
-/
import Derived.Test.YtfmfeipeeedfpaaGreatMe
import Derived.Shelf.SlSortCmp.NoneTotal
namespace Go.Proofs.YtfmfeipeeedfpaaGreat
open S Go.Sort Go.Lib
/-- A text ahead of another. -/
def lts (a b : ByteArray) : Prop := a.data.toList < b.data.toList
theorem ltStr_iff (x y : List UInt8) : ltStr x y = true ↔ x < y := by unfold ltStr; rw [decide_eq_true_iff]
theorem ltStr_not (x y : List UInt8) : ltStr x y = false ↔ ¬ x < y := by unfold ltStr; rw [decide_eq_false_iff_not]
theorem lts_irr (a : ByteArray) : ¬ lts a a := by have := swo_ltStr.irrefl a.data.toList; rw [ltStr_not] at this; exact this
theorem lts_trans {a b c : ByteArray} (h : lts a b) (g : lts b c) : lts a c := by
  have := swo_ltStr.trans a.data.toList b.data.toList c.data.toList ((ltStr_iff _ _).2 h) ((ltStr_iff _ _).2 g)
  exact (ltStr_iff _ _).1 this
theorem lists_tri : ∀ (x y : List UInt8), ¬ x < y → ¬ y < x → x = y
  | [], [], _, _ => rfl
  | [], b :: y, h, _ => absurd (List.nil_lt_cons b y) h
  | a :: x, [], _, h => absurd (List.nil_lt_cons a x) h
  | a :: x, b :: y, h, g => by
    rw [List.cons_lt_cons_iff] at h g
    have hab : a = b := by
      have h1 : ¬ a < b := fun e => h (Or.inl e)
      have h2 : ¬ b < a := fun e => g (Or.inl e)
      exact UInt8.le_antisymm (UInt8.not_lt.1 h2) (UInt8.not_lt.1 h1)
    subst hab
    rw [lists_tri x y (fun e => h (Or.inr ⟨rfl, e⟩)) (fun e => g (Or.inr ⟨rfl, e⟩))]
theorem lts_tri {a b : ByteArray} (h : ¬ lts a b) (g : ¬ lts b a) : a = b := by
  have := lists_tri _ _ h g
  obtain ⟨x⟩ := a
  obtain ⟨y⟩ := b
  have e : x = y := Array.toList_inj.1 this
  rw [e]
theorem tl_eq {a b : ByteArray} : (a.toList == b.toList) = decide (a = b) := by
  by_cases h : a = b
  · subst h; simp
  · rw [decide_eq_false h, beq_eq_false_iff_ne]
    intro e
    rw [ByteArray.toList_eq, ByteArray.toList_eq] at e
    exact h (by obtain ⟨x⟩ := a; obtain ⟨y⟩ := b; have e2 : x = y := Array.toList_inj.1 e; rw [e2])
theorem bl_eq (a b : ByteArray) : Op.bytesLess a.toList b.toList = decide (a.data.toList < b.data.toList) := by rw [bytesLess_eq, ByteArray.toList_eq, ByteArray.toList_eq]
section
variable {P : Program} {a b : ByteArray}
theorem s_lt (h : lts a b) (w : World) : (Op.stringOp .lss a b).run P w = .ok (den1 litT) w := by
  have : decide (a.data.toList < b.data.toList) = true := decide_eq_true h
  simp only [Op.stringOp, bl_eq, this]; rfl
theorem s_nlt (h : ¬ lts a b) (w : World) : (Op.stringOp .lss a b).run P w = .ok (den1 litF) w := by
  have : decide (a.data.toList < b.data.toList) = false := decide_eq_false h
  simp only [Op.stringOp, bl_eq, this]; rfl
theorem s_gt (h : lts b a) (w : World) : (Op.stringOp .gtr a b).run P w = .ok (den1 litT) w := by
  have h1 : decide (a.data.toList < b.data.toList) = false := decide_eq_false fun g => lts_irr a (lts_trans g h)
  have h2 : (a.toList == b.toList) = false := by rw [tl_eq]; exact decide_eq_false fun e => lts_irr a (by rw [← e] at h; exact h)
  simp only [Op.stringOp, bl_eq, h1, h2]; rfl
theorem s_ngt (h : ¬ lts b a) (w : World) : (Op.stringOp .gtr a b).run P w = .ok (den1 litF) w := by
  by_cases g : lts a b
  · have h1 : decide (a.data.toList < b.data.toList) = true := decide_eq_true g
    simp only [Op.stringOp, bl_eq, h1]; rfl
  · have e := lts_tri g h
    subst e
    have h2 : (a.toList == a.toList) = true := by rw [tl_eq]; exact decide_eq_true rfl
    simp only [Op.stringOp, h2, Bool.or_true]; rfl
end
/-- How two texts stand. -/
def cmpS (a b : ByteArray) : Int := if a.data.toList < b.data.toList then -1 else if b.data.toList < a.data.toList then 1 else 0
theorem cmpS_lt {a b : ByteArray} (h : lts a b) : cmpS a b = -1 := if_pos h
theorem cmpS_gt {a b : ByteArray} (h : lts b a) : cmpS a b = 1 := (if_neg (fun g : lts a b => lts_irr a (lts_trans g h))).trans (if_pos h)
theorem cmpS_eq {a b : ByteArray} (h : ¬ lts a b) (g : ¬ lts b a) : cmpS a b = 0 := (if_neg h).trans (if_neg g)
set_option maxRecDepth 20000 in
theorem t_nan (a : ByteArray) (w : World) : Calls Tryz.prog 86 #[.string a] w fun e W => e = .returned (.bool false) ∧ Mb w W :=
  fn_pure [.string a] Tryz.func86 rfl rfl rfl (run_ok (st mo ⟨fun h => absurd rfl h, fun _ => st mo rfl⟩))
set_option maxRecDepth 20000 in
theorem t_cmp (a b : ByteArray) (w : World) : Calls Tryz.prog 56 #[.string a, .string b] w fun e W => e = .returned (.int .i64 (cmpS a b)) ∧ Mb w W := by
  by_cases h : lts a b
  · rw [cmpS_lt h]
    exact fn_pure [.string a, .string b] Tryz.func56 rfl rfl rfl (run_ok (st mo ⟨_, fun nn => r_call (t := litF) rfl rfl Tryz.func86 (fun W M E => t_nan a W), st mo ⟨_, fun nn => r_call (t := litF) rfl rfl Tryz.func86 (fun W M E => t_nan b W), st mo ⟨litT, s_lt h, rfl, st mo rfl⟩⟩⟩))
  · by_cases g : lts b a
    · rw [cmpS_gt g]
      exact fn_pure [.string a, .string b] Tryz.func56 rfl rfl rfl (run_ok (st mo ⟨_, fun nn => r_call (t := litF) rfl rfl Tryz.func86 (fun W M E => t_nan a W), st mo ⟨_, fun nn => r_call (t := litF) rfl rfl Tryz.func86 (fun W M E => t_nan b W), st mo ⟨litF, s_nlt h, rfl, st mo ⟨litT, s_gt g, rfl, st mo rfl⟩⟩⟩⟩))
    · rw [cmpS_eq h g]
      exact fn_pure [.string a, .string b] Tryz.func56 rfl rfl rfl (run_ok (st mo ⟨_, fun nn => r_call (t := litF) rfl rfl Tryz.func86 (fun W M E => t_nan a W), st mo ⟨_, fun nn => r_call (t := litF) rfl rfl Tryz.func86 (fun W M E => t_nan b W), st mo ⟨litF, s_nlt h, rfl, st mo ⟨litF, s_ngt g, rfl, st mo rfl⟩⟩⟩⟩))
def orZ (a b : Int) : Int := if a = 0 then b else a
set_option maxRecDepth 20000 in
theorem t_or (X : World) (a b : Int) : Ctr Tryz.prog X 55 [.slice (some ⟨0, 0, none⟩) 2 1] [(0, some [.int .i64 a, .int .i64 b])] 1 1 (.int .i64 (orZ a b)) [(0, some [.int .i64 a, .int .i64 b])] 1 := by
  refine fn_c _ Tryz.func55 rfl rfl rfl rfl (fun w l X' hX => run_ok (st mo (st mo ?_)))
  refine w_loop (fun i : Nat => ⟨⟨18, [(3, .int .i64 0), (6, .slice (some ⟨0, 0, none⟩) 2 1), (7, .int .i64 2), (8, .int .i64 (i : Int))]⟩, [(0 + 4096, none), (0, some [.int .i64 a, .int .i64 b])], 1, X'⟩)
    (fun i => i ≤ 2 ∧ (1 ≤ i → a = 0) ∧ (2 ≤ i → b = 0)) (fun i => 2 - i) 0 ⟨by omega, fun h => (by omega), fun h => (by omega)⟩ [0] ⟨rfl, ⟨fv, fs, fv, fv, trivial⟩, ⟨trivial, fl rfl rfl, trivial⟩, xf, rfl, rfl⟩ ?_
  intro i ⟨hi, h1, h2⟩
  refine st mo ⟨fun hlt => st mo ?_, fun hge => st mo ?_⟩
  · have hc : i = 0 ∨ i = 1 := by omega
    rcases hc with rfl | rfl
    · refine ⟨0, rfl, by omega, st mo ⟨.int .i64 a, rfl, st mo ?_⟩⟩
      refine ⟨fun hne => st mo ?_, fun he => st mo ⟨_, wz 1 rfl, st mo ?_⟩⟩
      · exact ⟨rfl, [0], fv (by unfold orZ; rw [if_neg hne]; rfl), ⟨fl rfl rfl, trivial⟩, rfl, rfl⟩
      · exact ⟨1, ⟨by omega, fun _ => he, fun h => (by omega)⟩, by decide, [0], rfl, ⟨fv, fs, fv, fv, trivial⟩, ⟨trivial, fl rfl rfl, trivial⟩, xf, rfl, rfl⟩
    · refine ⟨1, rfl, by omega, st mo ⟨.int .i64 b, rfl, st mo ?_⟩⟩
      have ha := h1 (Nat.le_refl _)
      refine ⟨fun hne => st mo ?_, fun he => st mo ⟨_, wz 2 rfl, st mo ?_⟩⟩
      · exact ⟨rfl, [0], fv (by unfold orZ; rw [if_pos ha]; rfl), ⟨fl rfl rfl, trivial⟩, rfl, rfl⟩
      · exact ⟨2, ⟨by omega, fun _ => ha, fun _ => he⟩, by decide, [0], rfl, ⟨fv, fs, fv, fv, trivial⟩, ⟨trivial, fl rfl rfl, trivial⟩, xf, rfl, rfl⟩
  · have hi2 : i = 2 := by omega
    subst hi2
    refine st mo ?_
    exact ⟨rfl, [0], fv (by unfold orZ; rw [if_pos (h1 (by omega)), h2 (by omega)]; rfl), ⟨fl rfl rfl, trivial⟩, rfl, rfl⟩
/-- How two columns stand. -/
def cfC (p q : ByteArray × ByteArray) : Int := orZ (cmpS p.1 q.1) (cmpS p.2 q.2)
/-- A column ahead of another. -/
def ltc (p q : ByteArray × ByteArray) : Prop := lts p.1 q.1 ∨ p.1 = q.1 ∧ lts p.2 q.2
theorem cmpS_neg {a b : ByteArray} : cmpS a b < 0 ↔ lts a b := by
  by_cases h : lts a b
  · rw [cmpS_lt h]; exact ⟨fun _ => h, fun _ => by decide⟩
  · by_cases g : lts b a
    · rw [cmpS_gt g]; exact ⟨fun e => absurd e (by decide), fun e => absurd e h⟩
    · rw [cmpS_eq h g]; exact ⟨fun e => absurd e (by decide), fun e => absurd e h⟩
theorem cmpS_zero {a b : ByteArray} : cmpS a b = 0 ↔ a = b := by
  by_cases h : lts a b
  · rw [cmpS_lt h]; exact ⟨fun e => absurd e (by decide), fun e => absurd (e ▸ h) (lts_irr b)⟩
  · by_cases g : lts b a
    · rw [cmpS_gt g]; exact ⟨fun e => absurd e (by decide), fun e => absurd (e ▸ g) (lts_irr b)⟩
    · rw [cmpS_eq h g]; exact ⟨fun _ => lts_tri h g, fun _ => rfl⟩
theorem cfC_neg {p q : ByteArray × ByteArray} : cfC p q < 0 ↔ ltc p q := by
  unfold cfC orZ ltc
  by_cases h : cmpS p.1 q.1 = 0
  · rw [if_pos h, cmpS_neg]
    have e := cmpS_zero.1 h
    exact ⟨fun g => Or.inr ⟨e, g⟩, fun g => g.elim (fun g => absurd (e ▸ g) (lts_irr q.1)) (·.2)⟩
  · rw [if_neg h, cmpS_neg]
    exact ⟨Or.inl, fun g => g.elim id (fun g => absurd (cmpS_zero.2 g.1) h)⟩
theorem ltc_irr (p : ByteArray × ByteArray) : ¬ ltc p p := fun h => h.elim (lts_irr _) (fun h => lts_irr _ h.2)
theorem ltc_trans {p q r : ByteArray × ByteArray} (h : ltc p q) (g : ltc q r) : ltc p r := by
  rcases h with h | ⟨e, h⟩
  · rcases g with g | ⟨e', _⟩
    · exact Or.inl (lts_trans h g)
    · exact Or.inl (e' ▸ h)
  · rcases g with g | ⟨e', g⟩
    · exact Or.inl (e ▸ g)
    · exact Or.inr ⟨e.trans e', lts_trans h g⟩
theorem ltc_tri {p q : ByteArray × ByteArray} (h : ¬ ltc p q) (g : ¬ ltc q p) : p = q := by
  have e1 : p.1 = q.1 := lts_tri (fun e => h (Or.inl e)) (fun e => g (Or.inl e))
  have e2 : p.2 = q.2 := lts_tri (fun e => h (Or.inr ⟨e1, e⟩)) (fun e => g (Or.inr ⟨e1.symm, e⟩))
  exact Prod.ext e1 e2
theorem ltc_or (p q : ByteArray × ByteArray) : ltc p q ∨ p = q ∨ ltc q p := by
  by_cases h : ltc p q
  · exact Or.inl h
  · by_cases g : ltc q p
    · exact Or.inr (Or.inr g)
    · exact Or.inr (Or.inl (ltc_tri h g))
theorem swoC : SWO (ltOf cfC) where
  irrefl x := by unfold ltOf; rw [decide_eq_false_iff_not, cfC_neg]; exact ltc_irr x
  trans x y z h1 h2 := by unfold ltOf at *; rw [decide_eq_true_eq, cfC_neg] at *; exact ltc_trans h1 h2
  ntrans x y z h1 h2 := by
    unfold ltOf at *
    rw [decide_eq_false_iff_not, cfC_neg] at *
    intro h
    rcases ltc_or y x with g | g | g
    · exact h2 (ltc_trans g h)
    · exact h2 (g ▸ h)
    · exact h1 g
/-- Below all is as it was: draws, and blocks behind. -/
theorem mb_grow {W W' : World} (h : Mb W W') : ∃ q os, W' = grow (W.drewN q) os := by
  refine ⟨W'.drawn - W.drawn, W'.heap.extract W.heap.size W'.heap.size, ?_⟩
  have hd := h.dr
  have hh : W'.heap = W.heap ++ W'.heap.extract W.heap.size W'.heap.size := by
    apply Array.ext
    · simp; have := h.size; omega
    · intro i h1 h2
      by_cases hi : i < W.heap.size
      · rw [Array.getElem_append_left hi]
        have := h.block i hi
        rw [Array.getElem?_eq_getElem h1, Array.getElem?_eq_getElem hi] at this
        exact Option.some.inj this
      · rw [Array.getElem_append_right (by omega)]
        simp only [Array.getElem_extract]
        congr 1
        omega
  obtain ⟨heap, tape, drawn, os, output⟩ := W'
  have e1 := h.tape
  have e2 := h.os
  have e3 := h.output
  simp only at e1 e2 e3 hd hh
  simp only [grow, World.drewN]
  rw [← hh]
  subst e1 e2 e3
  congr 1
  omega
set_option maxRecDepth 20000 in
theorem t_clo (p q : ByteArray × ByteArray) (w : World) : Calls Tryz.prog 54 #[es53 p, es53 q] w fun e W => e = .returned (.int .i64 (cfC p q)) ∧ Mb w W := by
  refine fn_pure [.agg #[.string p.1, .string p.2], .agg #[.string q.1, .string q.2]] Tryz.func54 rfl rfl rfl (run_ok (st mo ?_))
  refine ⟨_, fun nn => r_call (t := .int .i64 (cmpS p.1 q.1)) rfl rfl Tryz.func56 (fun W M E => t_cmp p.1 q.1 W), st mo ⟨_, fun nn => r_call (t := .int .i64 (cmpS p.2 q.2)) rfl rfl Tryz.func56 (fun W M E => t_cmp p.2 q.2 W), st mo ?_⟩⟩
  refine ⟨_, fun nn => r_c (tc := .int .i64 (cfC p q)) [2] [some [.int .i64 (cmpS p.1 q.1), .int .i64 (cmpS p.2 q.2)]] [] rfl rfl (t_or _ _ _) (by exact fitL_cons fs rfl) ⟨by exact fl rfl rfl, trivial⟩ uv ⟨ul rfl rfl, trivial⟩, st mo ⟨dk, st mo ?_⟩⟩
  rfl
end Go.Proofs.YtfmfeipeeedfpaaGreat
namespace Go.Proofs.YtfmfeipeeedfpaaGreat
open S Go.Sort Go.Lib
abbrev CK := ByteArray × ByteArray
abbrev ec (p : CK) : List Value := [.string p.1, .string p.2]
abbrev cv (L : List CK) : List Value := L.flatMap ec
theorem cv_len : ∀ L : List CK, (cv L).length = L.length * 2
  | [] => rfl
  | p :: L => by simp only [cv, List.flatMap_cons, List.length_append, List.length_cons, List.length_nil]; have := cv_len L; simp only [cv] at this; omega
theorem cv_at : ∀ (L : List CK) (t : Nat), t < L.length * 2 → (cv L)[t]? = some ((ec L[t / 2]!)[t % 2]!)
  | [], t, h => absurd h (by simp)
  | p :: L, 0, _ => rfl
  | p :: L, 1, _ => rfl
  | p :: L, t + 2, h => by
    have := cv_at L t (by simp only [List.length_cons] at h; omega)
    show (ec p ++ cv L)[t + 2]? = _
    rw [List.getElem?_append_right (by simp)]
    rw [show t + 2 - (ec p).length = t by simp, this, show (t + 2) / 2 = t / 2 + 1 by omega, show (t + 2) % 2 = t % 2 by omega]
    rfl
theorem flat_cv (d : Array CK) : flatK ec 2 d = (cv d.toList).toArray := by
  apply Array.ext'
  apply List.ext_getElem?
  intro t
  have hsz : (flatK ec 2 d).size = d.size * 2 := size_flatK _ _ _
  by_cases ht : t < d.size * 2
  · have h1 := cv_at d.toList t (by simpa using ht)
    have h2 := get_flatK ec 2 d t ht
    rw [Array.getElem?_toList, Array.getElem?_eq_getElem (by omega)]
    rw [getElem!_pos (flatK ec 2 d) t (by omega)] at h2
    rw [h2]
    show _ = (cv d.toList)[t]?
    rw [h1]
    have h3 : d[t / 2]! = d.toList[t / 2]! := by
      have : t / 2 < d.size := by omega
      rw [getElem!_pos d _ this, getElem!_pos d.toList _ (by simpa using this)]; simp
    rw [h3]
  · rw [List.getElem?_eq_none (by simp [hsz]; omega), List.getElem?_eq_none (by show (cv d.toList).length ≤ t; rw [cv_len]; simp; omega)]
/-- Columns in their order. -/
def srtC (L : List CK) : List CK := (pdq (ltOf cfC) L.toArray 0 L.length (Lib.bitLen L.length) true true).toList
theorem srtC_spec (L : List CK) : (srtC L).Perm L ∧ (srtC L).Pairwise (fun a b => ¬ ltc b a) := by
  have h := pdq_sorts (ltOf cfC) swoC L.toArray 0 L.length (Lib.bitLen L.length) true true (Nat.zero_le _) (by simp) (Or.inl rfl)
  obtain ⟨⟨h1, _, h2⟩, h3⟩ := h
  have hsz : (pdq (ltOf cfC) L.toArray 0 L.length (Lib.bitLen L.length) true true).size = L.length := by simpa using h1
  refine ⟨?_, ?_⟩
  · have e1 : (pdq (ltOf cfC) L.toArray 0 L.length (Lib.bitLen L.length) true true).extract 0 L.length = pdq (ltOf cfC) L.toArray 0 L.length (Lib.bitLen L.length) true true := by
      conv => lhs; arg 3; rw [← hsz]
      simp
    have e2 : L.toArray.extract 0 L.length = L.toArray := by simp
    rw [e1, e2] at h2
    exact h2
  · unfold srtC
    rw [List.pairwise_iff_getElem]
    intro i j hi hj hij
    have hi' : i < (pdq (ltOf cfC) L.toArray 0 L.length (Lib.bitLen L.length) true true).size := by simpa using hi
    have hj' : j < (pdq (ltOf cfC) L.toArray 0 L.length (Lib.bitLen L.length) true true).size := by simpa using hj
    have := h3 i j (Nat.zero_le _) hij (by omega)
    rw [getElem!_pos _ i hi', getElem!_pos _ j hj'] at this
    have h9 : ∀ u v : CK, ltOf cfC u v = false → ¬ ltc u v := fun u v h => by
      unfold ltOf at h
      rw [decide_eq_false_iff_not, cfC_neg] at h; exact h
    have := h9 _ _ this
    simpa using this
theorem srtC_len (L : List CK) : (srtC L).length = L.length := (srtC_spec L).1.length_eq
abbrev f54 : Value := .func (.func 54) #[] #[]
theorem f54_eq {k : K} {us : List Value} (h : LR (VX k) [f54] us) : us = [f54] := by
  obtain ⟨u, us', rfl, h1, h2⟩ := h
  rw [func_inv h1, show us' = [] from h2]
theorem sort_c (X : World) (L : List CK) (hb : L.length ≤ 1000000000) : Ctr Tryz.prog X 53 [.slice (some ⟨0, 0, none⟩) L.length 2, f54] (hB (cv L)) 1 1 (.tuple #[]) (hB (cv (srtC L))) 1 := by
  refine sort_ctr (by rw [cv_len, cv_len, srtC_len]) (fun k us h => f54_eq h) fun W b cap sp ty hW _ => ?_
  have hH : HoldsK ec 2 W b 0 L.toArray := by
    intro j hj
    have hsz : (flatK ec 2 L.toArray).size = L.length * 2 := by simp
    have hj' : j < L.length * 2 := by omega
    refine ⟨?_, by simp [World.frozen?, hW]⟩
    have h1 := cv_at L j hj'
    have h2 := get_flatK ec 2 L.toArray j (by simpa using hj')
    rw [h2, Nat.zero_add, cell_of hW, List.getElem?_append_left (by rw [cv_len]; exact hj'), h1]
    have h3 : L.toArray[j / 2]! = L[j / 2]! := by
      have : j / 2 < L.length := by omega
      rw [getElem!_pos L.toArray _ (by simpa using this), getElem!_pos L _ this]; simp
    rw [h3]; rfl
  have hcmp : CmpLays Tryz.prog 54 #[] ec 2 cfC b 0 L.toArray.size W := fun m os dk _ x y => (t_clo x y _).mono (by
    rintro e w' ⟨rfl, hm⟩
    exact ⟨rfl, mb_grow hm⟩)
  have := AnyQ.slices_SortFunc_eq Tryz.laysSlF0_f53 2 Tryz.isAgg53 Tryz.sizeOf53 ec (fun _ => rfl) (fun x v hv => by simp at hv; rcases hv with rfl | rfl <;> rfl) cfC swoC 54 #[] b 0 cap L.toArray W (fun a w => enter_ok Tryz.func54 rfl a w) hcmp hH (Array.getElem?_eq_some_iff.1 hW).1 (by simp; omega)
  simp only [List.size_toArray] at this
  refine this.mono ?_
  rintro e W' ⟨rfl, n, os, rfl⟩
  refine ⟨rfl, n, os, ?_⟩
  unfold sortWorldK putRowK
  rw [flat_cv]
  rfl
/-- A list of columns as a slice of one's own. -/
def lvK (b : Nat) (L : List CK) : Value := match L with
  | [] => .slice none 0 0
  | _ :: l => .slice (some ⟨b, 0, none⟩) (l.length + 1) 2
def hSc (L : List CK) : HT := match L with
  | [] => []
  | _ :: _ => hB (cv L)
def nSc (L : List CK) : Nat := match L with
  | [] => 0
  | _ :: _ => 1
def ksC (d : Nat) (x : Ex) : List CK := (gth kxC d x []).map Prod.fst
theorem sort_c0 (W : World) : Calls Tryz.prog 53 #[.slice none 0 0, f54] W fun e W' => e = .returned (.tuple #[]) ∧ Mb W W' := (AnyF.slices_SortFunc_none Tryz.laysSlF0_f53 none 0 f54 W).mono (by rintro e W' ⟨rfl, rfl⟩; exact ⟨rfl, Go.RowKit.Below.refl _ _, Nat.le_refl _⟩)
theorem sort_ck0 (X : World) : Ctr Tryz.prog X 53 [.slice none 0 0, f54] [] 0 0 (.tuple #[]) [] 0 := fun W k us ky _ hv => by
  obtain ⟨u, us', rfl, h1, h2⟩ := hv
  rw [h1.nilslc_inv, f54_eq h2]
  refine (sort_c0 W).mono ?_
  rintro e W' ⟨rfl, hm⟩
  refine ⟨_, k, rfl, undef_vx, ⟨⟨fun i hi => absurd (tb_ones.1 hi) (Nat.not_lt_zero i), fun i j hi => absurd (tb_ones.1 hi) (Nat.not_lt_zero i)⟩, ky.nn, ky.nk⟩, fun i hi => absurd hi (Nat.not_lt_zero i), fun i b z hk => ?_, fun b hb _ => hm.block b hb, hm.size, hm.os, ⟨hm.tape, hm.dr⟩, hm.output⟩
  rw [ky.nk i (Nat.zero_le i)] at hk; cases hk
set_option maxRecDepth 20000 in
theorem cols_n (d : Nat) (X : World) (x : Ex) (hL : LT X d x) (hb : nds d x ≤ 1000000000) : Ctr Tryz.prog X 20 [.agg (x.c.map rel1).toArray] [] 0 0 (lvK 0 (srtC (ksC d x))) (hSc (srtC (ksC d x))) (nSc (srtC (ksC d x))) := by
  have hlen := gth_len kxC d x
  refine fn_c _ Tryz.func20 rfl rfl rfl rfl (fun w l X' hX => run_ok (st mo ?_))
  have g := gatc_n d X' x (hL.mono (xcell hX)) hb
  unfold ksC
  generalize gth kxC d x [] = al at g hlen
  rcases al with _ | ⟨q, al⟩
  · have e0 : srtC (([] : CL).map Prod.fst) = [] := List.eq_nil_of_length_eq_zero (by rw [srtC_len]; rfl)
    rw [e0]
    refine ⟨_, fun nn => r_c (tc := .slice none 0 0) [] [] [] rfl rfl g (by exact fitL_cons fv (fitL_cons (ff (l := []) (m := []) rfl) rfl)) trivial uv trivial, st mo ?_⟩
    refine ⟨_, fun nn => r_c (tc := .tuple #[]) [] [] [] rfl rfl (sort_ck0 X') (by exact fitL_cons fv (fitL_cons (ff (l := []) (m := []) rfl) rfl)) trivial ut0 trivial, st mo ?_⟩
    exact ⟨rfl, [], fv, trivial, rfl, rfl⟩
  · have hl2 : ((q :: al).map Prod.fst).length = al.length + 1 := by simp
    have hs := sort_c X' ((q :: al).map Prod.fst) (by rw [hl2]; simp only [List.length_cons] at hlen; omega)
    have hsl := srtC_len ((q :: al).map Prod.fst)
    rw [hl2] at hs hsl
    have hc : cv ((q :: al).map Prod.fst) = (q :: al).flatMap fun p => [Value.string p.1.1, Value.string p.1.2] := by rw [cv, List.flatMap_map]
    rw [hc] at hs
    generalize srtC ((q :: al).map Prod.fst) = M at hs hsl
    refine ⟨_, fun nn => r_c (tc := .slice (some ⟨1, 0, none⟩) (al.length + 1) 2) [] [some (((q :: al).flatMap fun p => [Value.string p.1.1, Value.string p.1.2]).map rel1)] [1] rfl rfl g (by exact fitL_cons fv (fitL_cons (ff (l := []) (m := []) rfl) rfl)) trivial us ⟨ulr rfl, trivial⟩, st mo ?_⟩
    refine ⟨_, fun nn => r_c (tc := .tuple #[]) [1] [some ((cv M).map rel1)] [1] rfl rfl hs (by exact fitL_cons fs (fitL_cons (ff (l := []) (m := []) rfl) rfl)) ⟨trivial, flr rfl, trivial⟩ ut0 ⟨ulr rfl, trivial⟩, st mo ?_⟩
    rcases M with _ | ⟨m, M⟩
    · cases hsl
    · simp only [List.length_cons] at hsl
      refine ⟨rfl, [1], ?_, ⟨trivial, flr rfl, trivial⟩, rfl, rfl⟩
      show fitV _ _ (.slice (some ⟨0, 0, none⟩) (M.length + 1) 2)
      rw [hsl]
      exact fs
end Go.Proofs.YtfmfeipeeedfpaaGreat
