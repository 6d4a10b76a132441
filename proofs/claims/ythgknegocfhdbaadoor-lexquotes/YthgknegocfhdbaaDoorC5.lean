/-
  A part of the proof.
-/
import Derived.Test.YthgknegocfhdbaaDoorC4
/-
 Texts in quotes, over lists: what Quote writes, what Unquote takes out, and that each is the other's way back.
-/
namespace Go.Proofs.YthgknegocfhdbaaDoor.V
open Go.RowKit
theorem bt_l (l : List UInt8) (k : Nat) : bt ⟨l.toArray⟩ k = (((l[k]?).map (fun x => x.toNat)).getD 0 : Nat) := by
 unfold bt
 have e : (⟨l.toArray⟩ : ByteArray).size = l.length := by simp [ByteArray.size]
 by_cases h : k < l.length
 ·rw [dif_pos (by rw [e]; exact h), List.getElem?_eq_getElem h]; rfl
 ·rw [dif_neg (by rw [e]; exact h), List.getElem?_eq_none (by omega)]; rfl
theorem sz_l (l : List UInt8) : (⟨l.toArray⟩ : ByteArray).size = l.length := by simp [ByteArray.size]
theorem ba_eta (s : ByteArray) : (⟨(by8 s).toArray⟩ : ByteArray) = s := by cases s; simp [by8]
theorem ex_l (l : List UInt8) (i j : Nat) : (⟨l.toArray⟩ : ByteArray).extract i j = ⟨((l.drop i).take (j - i)).toArray⟩ := by
 have h := by8_ext ⟨l.toArray⟩ i j
 rw [← ba_eta ((⟨l.toArray⟩ : ByteArray).extract i j), h]
theorem u8_id (c : UInt8) : ((c.toNat : Nat) : Int).toNat.toUInt8 = c := by
 simp [Nat.toUInt8]
def hx (n : Nat) : UInt8 := if n < 10 then (48 + n).toUInt8 else (87 + n).toUInt8
def qb (c : UInt8) : List UInt8 := if c = 34 ∨ c = 92 then [92, c] else if c < 32 ∨ 126 < c then [92, 120, hx (c.toNat / 16), hx (c.toNat % 16)] else [c]
def qi (l : List UInt8) : List UInt8 := l.flatMap qb
def qt (l : List UInt8) : List UInt8 := 34 :: (qi l ++ [34])
theorem qi_cons (c : UInt8) (l : List UInt8) : qi (c :: l) = qb c ++ qi l := by simp [qi]
theorem qi_app (a b : List UInt8) : qi (a ++ b) = qi a ++ qi b := by simp [qi]
set_option maxRecDepth 100000 in
theorem hexB_fin : ∀ c : Fin 256, (c.val < 32 ∨ 126 < c.val) → hexB ((hx (c.val / 16)).toNat : Nat) ((hx (c.val % 16)).toNat : Nat) = (((c.val : Nat) : Int), 4) := by decide +kernel
theorem hexB_qb {c : UInt8} (h : c < 32 ∨ 126 < c) : hexB ((hx (c.toNat / 16)).toNat : Nat) ((hx (c.toNat % 16)).toNat : Nat) = (((c.toNat : Nat) : Int), 4) := by
 refine hexB_fin ⟨c.toNat, UInt8.toNat_lt c⟩ ?_
 rcases h with h | h
 ·exact Or.inl (UInt8.lt_iff_toNat_lt.1 h)
 ·exact Or.inr (UInt8.lt_iff_toNat_lt.1 h)
theorem u8_ne {c : UInt8} {k : Nat} (hk : k < 256) (h : c ≠ k.toUInt8) : ((c.toNat : Nat) : Int) ≠ (k : Int) := by
 intro e
 refine h (UInt8.toNat_inj.1 ?_)
 have : c.toNat = k := by omega
 rw [this, Nat.toUInt8, UInt8.toNat_ofNat']; omega
theorem u8_eq {c : UInt8} {k : Nat} (hk : k < 256) : ((c.toNat : Nat) : Int) = (k : Int) ↔ c = k.toUInt8 := by
 constructor
 ·intro h; exact Decidable.byContradiction fun e => u8_ne hk e h
 ·rintro rfl
  rw [Nat.toUInt8, UInt8.toNat_ofNat']; omega
theorem fb_qb (c : UInt8) (r : List UInt8) : fb ⟨(qb c ++ r).toArray⟩ = (((c.toNat : Nat) : Int), (((qb c).length : Nat) : Int)) := by
 unfold fb
 simp only [bt_l, sz_l]
 unfold qb
 by_cases h1 : c = 34 ∨ c = 92
 ·rw [if_pos h1]
  rcases h1 with rfl | rfl <;> simp
 ·rw [if_neg h1]
  have a34 : ¬ c = 34 := fun e => h1 (Or.inl e)
  have a92 : ¬ c = 92 := fun e => h1 (Or.inr e)
  have b34 : (((c.toNat : Nat) : Int) == 34) = false := by
   rw [beq_eq_false_iff_ne]; exact u8_ne (k := 34) (by decide) a34
  have b92 : (((c.toNat : Nat) : Int) == 92) = false := by
   rw [beq_eq_false_iff_ne]; exact u8_ne (k := 92) (by decide) a92
  by_cases h2 : c < 32 ∨ 126 < c
  ·rw [if_pos h2]
   have := hexB_qb h2
   simp [this]
  ·rw [if_neg h2]
   have hp : prn ((c.toNat : Nat) : Int) = true := by
    have h3 : ¬ c.toNat < 32 := fun e => h2 (Or.inl (UInt8.lt_iff_toNat_lt.2 e))
    have h4 : ¬ 126 < c.toNat := fun e => h2 (Or.inr (UInt8.lt_iff_toNat_lt.2 e))
    unfold prn; simp; omega
   simp [b34, b92, hp]
theorem qb_pos (c : UInt8) : 0 < (qb c).length := by
 unfold qb; split
 ·simp
 ·split <;> simp
theorem qb_le (c : UInt8) : (qb c).length ≤ 4 := by
 unfold qb; split
 ·simp
 ·split <;> simp
theorem uq_qi : ∀ l : List UInt8, uq ⟨(qi l).toArray⟩ = some l
 | [] => uq_0 (by rw [sz_l]; rfl)
 | c :: l => by
  have hp := qb_pos c
  have h := fb_qb c (qi l)
  rw [qi_cons]
  rw [uq_s (c := ((c.toNat : Nat) : Int)) (u := (qb c).length) (by rw [sz_l, List.length_append]; omega) (by rw [h]) (by rw [h]) (by omega), ex_l, sz_l]
  rw [List.drop_append_of_le_length (Nat.le_refl _), List.drop_length, List.nil_append, List.take_of_length_le (by rw [List.length_append]; omega), uq_qi l, u8_id]
  rfl
set_option maxRecDepth 100000 in
theorem hx_fin : ∀ a : Fin 16, (by8 ⟨#[48, 49, 50, 51, 52, 53, 54, 55, 56, 57, 97, 98, 99, 100, 101, 102]⟩)[a.val]? = some (hx a.val) := by decide +kernel
theorem hxd_hx {c : UInt8} {a : Nat} (ha : a < 16) (h : hxd ((c.toNat : Nat) : Int) = (a : Int)) : c = hx a := by
 unfold hxd at h
 rw [u8_id] at h
 have h1 := (Lib.indexByte_some h).1
 rw [hx_fin ⟨a, ha⟩] at h1
 exact (Option.some.inj h1).symm
theorem hexB_of {h l : UInt8} (hne : (hexB ((h.toNat : Nat) : Int) ((l.toNat : Nat) : Int)).2 ≠ 0) : ∃ a b : Nat, a < 16 ∧ b < 16 ∧ h = hx a ∧ l = hx b ∧ hexB ((h.toNat : Nat) : Int) ((l.toNat : Nat) : Int) = (((16 * a + b : Nat) : Int), 4) ∧ prn ((16 * a + b : Nat) : Int) = false := by
 unfold hexB at hne ⊢
 rcases hxd_cases ((h.toNat : Nat) : Int) with h1 | ⟨a, ha, h1⟩
 ·rw [if_pos (Or.inl (by omega))] at hne; exact absurd rfl hne
 ·rcases hxd_cases ((l.toNat : Nat) : Int) with h2 | ⟨b, hb, h2⟩
  ·rw [if_pos (Or.inr (by omega))] at hne; exact absurd rfl hne
  ·rw [h1, h2, if_neg (by omega), show (16 * (a : Int) + (b : Int)) = ((16 * a + b : Nat) : Int) by omega] at hne ⊢
   cases hp : prn ((16 * a + b : Nat) : Int) with
   | true => rw [hp, if_pos rfl] at hne; exact absurd rfl hne
   | false => exact ⟨a, b, ha, hb, hxd_hx ha h1, hxd_hx hb h2, by rw [if_neg (by simp)], hp⟩
theorem qb_hex {a b : Nat} (ha : a < 16) (hb : b < 16) (hp : prn ((16 * a + b : Nat) : Int) = false) : qb (16 * a + b).toUInt8 = [92, 120, hx a, hx b] := by
 have e : ((16 * a + b).toUInt8).toNat = 16 * a + b := by rw [Nat.toUInt8, UInt8.toNat_ofNat']; omega
 have hr : 16 * a + b < 32 ∨ 126 < 16 * a + b := by
  unfold prn at hp; simp at hp; omega
 have n34 : ¬ (16 * a + b).toUInt8 = 34 := fun h => by rw [h] at e; have : (34 : UInt8).toNat = 34 := rfl; omega
 have n92 : ¬ (16 * a + b).toUInt8 = 92 := fun h => by rw [h] at e; have : (92 : UInt8).toNat = 92 := rfl; omega
 unfold qb
 rw [if_neg (fun h => h.elim n34 n92), if_pos, e]
 ·rw [show (16 * a + b) / 16 = a by omega, show (16 * a + b) % 16 = b by omega]
 ·rw [UInt8.lt_iff_toNat_lt, UInt8.lt_iff_toNat_lt, e]; exact hr
theorem qb_self {c : UInt8} (h34 : ¬ c = 34) (h92 : ¬ c = 92) (hp : prn ((c.toNat : Nat) : Int) = true) : qb c = [c] := by
 unfold prn at hp; simp at hp
 unfold qb
 rw [if_neg (fun h => h.elim h34 h92), if_neg]
 rintro (h | h)
 ·have := UInt8.lt_iff_toNat_lt.1 h; have e : (32 : UInt8).toNat = 32 := rfl; omega
 ·have := UInt8.lt_iff_toNat_lt.1 h; have e : (126 : UInt8).toNat = 126 := rfl; omega
theorem beq34 (c : UInt8) : (((c.toNat : Nat) : Int) == 34) = decide (c = 34) := by
 rw [Bool.eq_iff_iff, beq_iff_eq, decide_eq_true_iff]; exact u8_eq (k := 34) (by decide)
theorem beq92 (c : UInt8) : (((c.toNat : Nat) : Int) == 92) = decide (c = 92) := by
 rw [Bool.eq_iff_iff, beq_iff_eq, decide_eq_true_iff]; exact u8_eq (k := 92) (by decide)
theorem beq120 (c : UInt8) : (((c.toNat : Nat) : Int) == 120) = decide (c = 120) := by
 rw [Bool.eq_iff_iff, beq_iff_eq, decide_eq_true_iff]; exact u8_eq (k := 120) (by decide)
theorem fb_take (l : List UInt8) (hl : l ≠ []) (hne : (fb ⟨l.toArray⟩).2 ≠ 0) : l.take (fb ⟨l.toArray⟩).2.toNat = qb (fb ⟨l.toArray⟩).1.toNat.toUInt8 := by
 unfold fb at hne ⊢
 simp only [bt_l, sz_l] at hne ⊢
 rcases l with _ | ⟨b0, l⟩
 ·exact absurd rfl hl
 simp only [List.getElem?_cons_zero, Option.map_some, Option.getD_some, beq92, beq34] at hne ⊢
 by_cases h0 : b0 = 92
 ·subst h0
  simp only [decide_true, Bool.true_eq_false, if_false] at hne ⊢
  rcases l with _ | ⟨b1, l⟩
  ·simp at hne
  simp only [List.getElem?_cons_succ, List.getElem?_cons_zero, Option.map_some, Option.getD_some, beq92, beq34, beq120, List.length_cons] at hne ⊢
  rw [if_neg (by omega)] at hne ⊢
  by_cases h1 : b1 = 34 ∨ b1 = 92
  ·rw [if_pos (by simpa using h1), u8_id]
   unfold qb
   rw [if_pos h1]; rfl
  ·rw [if_neg (by simpa using h1)] at hne ⊢
   by_cases h2 : b1 = 120
   ·subst h2
    rcases l with _ | ⟨b2, l⟩
    ·simp at hne
    rcases l with _ | ⟨b3, l⟩
    ·simp at hne
    simp only [List.getElem?_cons_succ, List.getElem?_cons_zero, Option.map_some, Option.getD_some, List.length_cons] at hne ⊢
    rw [if_pos ⟨by simp, by omega⟩] at hne ⊢
    obtain ⟨a, b, ha, hb, ea, eb, he, hp⟩ := hexB_of hne
    rw [he]
    show [92, 120, b2, b3] = qb (16 * a + b).toUInt8
    rw [qb_hex ha hb hp, ea, eb]
   ·rw [if_neg (fun h => h2 (by simpa using h.1))] at hne
    exact absurd rfl hne
 ·simp only [h0, decide_false, if_true] at hne ⊢
  by_cases h3 : b0 = 34
  ·rw [if_pos (Or.inl (by simpa using h3))] at hne; exact absurd rfl hne
  ·cases hp : prn ((b0.toNat : Nat) : Int) with
   | false => rw [if_pos (Or.inr hp)] at hne; exact absurd rfl hne
   | true =>
    rw [if_neg (by rintro (e | e); (exact h3 (by simpa using e)); (first | cases e | (rw [hp] at e; cases e))), u8_id, qb_self h3 h0 hp]
    rfl
theorem uq_of : ∀ (n : Nat) (l t : List UInt8), l.length ≤ n → uq ⟨l.toArray⟩ = some t → l = qi t := by
 intro n
 induction n with
 | zero =>
  intro l t hl h
  have : l = [] := List.length_eq_zero_iff.1 (by omega)
  subst this
  rw [uq_0 (by rw [sz_l]; rfl)] at h
  cases h; rfl
 | succ n ih =>
  intro l t hl h
  by_cases h0 : l = []
  ·subst h0
   rw [uq_0 (by rw [sz_l]; rfl)] at h
   cases h; rfl
  ·have hlen : 0 < l.length := List.length_pos_iff.2 h0
   have hs0 : ¬ (⟨l.toArray⟩ : ByteArray).size = 0 := by rw [sz_l]; omega
   have hok := fb_ok (s := ⟨l.toArray⟩) (by rw [sz_l]; omega)
   by_cases hz : (fb ⟨l.toArray⟩).2 = 0
   ·rw [uq_x hs0 hz] at h; cases h
   ·obtain ⟨u, hu⟩ : ∃ u : Nat, (fb ⟨l.toArray⟩).2 = (u : Int) := ⟨(fb ⟨l.toArray⟩).2.toNat, by omega⟩
    have ht := fb_take l h0 hz
    rw [uq_s hs0 rfl hu (by omega), ex_l, sz_l] at h
    rw [sz_l] at hok
    rw [hu] at ht
    simp only [Int.toNat_natCast] at ht
    rw [List.take_of_length_le (by rw [List.length_drop]; omega)] at h
    cases h2 : uq ⟨(l.drop u).toArray⟩ with
    | none => rw [h2] at h; cases h
    | some t2 =>
     rw [h2] at h
     cases h
     have h3 := ih (l.drop u) t2 (by rw [List.length_drop]; omega) h2
     rw [qi_cons, ← ht, ← h3, List.take_append_drop]
theorem unq_qt (l : List UInt8) : unq ⟨(qt l).toArray⟩ = (⟨l.toArray⟩, true) := by
 unfold unq
 have hs : (qt l).length = (qi l).length + 2 := by simp [qt]
 rw [if_neg]
 ·rw [ex_l, sz_l, hs]
  have e : ((qt l).drop 1).take ((qi l).length + 2 - 1 - 1) = qi l := by
   rw [show (qt l).drop 1 = qi l ++ [34] from rfl, show (qi l).length + 2 - 1 - 1 = (qi l).length by omega, List.take_left']
   rfl
  rw [e, uq_qi]
 ·rw [sz_l, hs, bt_l, bt_l]
  rintro (h | h | h)
  ·omega
  ·simp [qt] at h
  ·rw [show (qi l).length + 2 - 1 = (qi l).length + 1 by omega, show qt l = 34 :: (qi l ++ [34]) from rfl, List.getElem?_cons_succ, List.getElem?_append_right (Nat.le_refl _), Nat.sub_self] at h
   simp at h
theorem unq_of {s : ByteArray} (h : (unq s).2 = true) : by8 s = qt (by8 (unq s).1) := by
 unfold unq at h ⊢
 by_cases h1 : s.size < 2 ∨ (bt s 0 == 34) = false ∨ (bt s (s.size - 1) == 34) = false
 ·rw [if_pos h1] at h; cases h
 ·rw [if_neg h1] at h ⊢
  cases h2 : uq (s.extract 1 (s.size - 1)) with
  | none => rw [h2] at h; cases h
  | some t =>
   rw [← ba_eta (s.extract 1 (s.size - 1))] at h2
   have h3 := uq_of _ _ t (Nat.le_refl _) h2
   rw [by8_ext] at h3
   show by8 s = qt t
   have hsz : 2 ≤ s.size := by omega
   have b0 : bt s 0 = 34 := by
    have : (bt s 0 == 34) = true := by cases e : (bt s 0 == 34) with | true => rfl | false => exact absurd (Or.inr (Or.inl e)) h1
    exact beq_iff_eq.1 this
   have b1 : bt s (s.size - 1) = 34 := by
    have : (bt s (s.size - 1) == 34) = true := by cases e : (bt s (s.size - 1) == 34) with | true => rfl | false => exact absurd (Or.inr (Or.inr e)) h1
    exact beq_iff_eq.1 this
   have g : ∀ k (hk : k < s.size), bt s k = 34 → s[k] = 34 := fun k hk e => by
    rw [bt_in hk] at e; exact (u8_eq (k := 34) (by decide)).1 e
   have e0 := by8_drop (s := s) (k := 0) (by omega)
   rw [List.drop_zero, g 0 (by omega) b0] at e0
   have e1 := by8_drop (s := s) (k := s.size - 1) (by omega)
   rw [g _ (by omega) b1, show s.size - 1 + 1 = s.size by omega, show (by8 s).drop s.size = [] from List.drop_eq_nil_of_le (by rw [by8_len]; exact Nat.le_refl _)] at e1
   have e2 : (by8 s).drop 1 = ((by8 s).drop 1).take (s.size - 1 - 1) ++ (by8 s).drop (s.size - 1) := by
    have := (List.take_append_drop (s.size - 1 - 1) ((by8 s).drop 1)).symm
    rw [List.drop_drop, show 1 + (s.size - 1 - 1) = s.size - 1 by omega] at this
    exact this
   rw [e0, e2, h3, e1]; rfl
theorem unq_no {s : ByteArray} (h : (unq s).2 = false) : (unq s).1 = ⟨#[]⟩ := by
 unfold unq at h ⊢
 by_cases h1 : s.size < 2 ∨ (bt s 0 == 34) = false ∨ (bt s (s.size - 1) == 34) = false
 ·rw [if_pos h1]
 ·rw [if_neg h1] at h ⊢
  cases h2 : uq (s.extract 1 (s.size - 1)) with
  | none => rfl
  | some t => rw [h2] at h; cases h
def dhx (c : Int) : Int := if 97 ≤ c then c - 87 else (c - 48) % 256
def dh2 (a b : Int) : Int := (16 * dhx a % 256 + dhx b) % 256
def du (s : ByteArray) (i : Nat) : List UInt8 :=
  if h : i < s.size - 1 then
    (if (bt s i == 92) = true ∧ i + 1 < s.size - 1 ∧ (bt s (i + 1) == 120) = false then (bt s (i + 1)).toNat.toUInt8 :: du s (i + 2)
     else if (bt s i == 92) = true ∧ i + 3 < s.size - 1 then (dh2 (bt s (i + 2)) (bt s (i + 3))).toNat.toUInt8 :: du s (i + 4)
     else (bt s i).toNat.toUInt8 :: du s (i + 1))
  else []
termination_by s.size - i
theorem du_end {s : ByteArray} {i : Nat} (h : ¬ i < s.size - 1) : du s i = [] := by rw [du, dif_neg h]
theorem du_1 {s : ByteArray} {i : Nat} (h : i < s.size - 1) (h2 : (bt s i == 92) = true ∧ i + 1 < s.size - 1 ∧ (bt s (i + 1) == 120) = false) : du s i = (bt s (i + 1)).toNat.toUInt8 :: du s (i + 2) := by rw [du, dif_pos h, if_pos h2]
theorem du_2 {s : ByteArray} {i : Nat} (h : i < s.size - 1) (h2 : ¬ ((bt s i == 92) = true ∧ i + 1 < s.size - 1 ∧ (bt s (i + 1) == 120) = false)) (h3 : (bt s i == 92) = true ∧ i + 3 < s.size - 1) : du s i = (dh2 (bt s (i + 2)) (bt s (i + 3))).toNat.toUInt8 :: du s (i + 4) := by rw [du, dif_pos h, if_neg h2, if_pos h3]
theorem du_3 {s : ByteArray} {i : Nat} (h : i < s.size - 1) (h2 : ¬ ((bt s i == 92) = true ∧ i + 1 < s.size - 1 ∧ (bt s (i + 1) == 120) = false)) (h3 : ¬ ((bt s i == 92) = true ∧ i + 3 < s.size - 1)) : du s i = (bt s i).toNat.toUInt8 :: du s (i + 1) := by rw [du, dif_pos h, if_neg h2, if_neg h3]
theorem du_len (s : ByteArray) : ∀ (d i : Nat), s.size - i ≤ d → (du s i).length + i ≤ s.size + 1 ∨ du s i = [] := by
 intro d
 induction d with
 | zero => intro i h; exact Or.inr (du_end (by omega))
 | succ d ih =>
  intro i h
  by_cases h1 : i < s.size - 1
  ·left
   by_cases h2 : (bt s i == 92) = true ∧ i + 1 < s.size - 1 ∧ (bt s (i + 1) == 120) = false
   ·rw [du_1 h1 h2, List.length_cons]
    rcases ih (i + 2) (by omega) with e | e
    ·omega
    ·rw [e]; simp only [List.length_nil]; omega
   ·by_cases h3 : (bt s i == 92) = true ∧ i + 3 < s.size - 1
    ·rw [du_2 h1 h2 h3, List.length_cons]
     rcases ih (i + 4) (by omega) with e | e
     ·omega
     ·rw [e]; simp only [List.length_nil]; omega
    ·rw [du_3 h1 h2 h3, List.length_cons]
     rcases ih (i + 1) (by omega) with e | e
     ·omega
     ·rw [e]; simp only [List.length_nil]; omega
  ·exact Or.inr (du_end h1)
set_option maxRecDepth 100000 in
theorem dh2_fin : ∀ c : Fin 256, dh2 ((hx (c.val / 16)).toNat : Nat) ((hx (c.val % 16)).toNat : Nat) = ((c.val : Nat) : Int) := by decide +kernel
theorem du_qi : ∀ (l p : List UInt8), du ⟨(p ++ (qi l ++ [34])).toArray⟩ p.length = l := by
 intro l
 induction l with
 | nil =>
  intro p
  refine du_end ?_
  rw [sz_l]; simp [qi]
 | cons c l ih =>
  intro p
  have key : ∀ q : List UInt8, qb c = q → du ⟨(p ++ (q ++ (qi l ++ [34]))).toArray⟩ (p.length + q.length) = l := fun q hq => by
   have := ih (p ++ q)
   rw [List.length_append, List.append_assoc] at this
   exact this
  rw [qi_cons, List.append_assoc]
  have hg : ∀ (q r : List UInt8) (j : Nat), j < q.length → bt ⟨(p ++ (q ++ r)).toArray⟩ (p.length + j) = (((q[j]?).map (fun x => x.toNat)).getD 0 : Nat) := fun q r j hj => by
   rw [bt_l, List.getElem?_append_right (by omega), Nat.add_sub_cancel_left, List.getElem?_append_left hj]
  have hq := qb_pos c
  have hz : ∀ q : List UInt8, (⟨(p ++ (q ++ (qi l ++ [34]))).toArray⟩ : ByteArray).size - 1 = p.length + q.length + (qi l).length := fun q => by
   rw [sz_l]; simp only [List.length_append, List.length_singleton]; omega
  by_cases h1 : c = 34 ∨ c = 92
  ·have e : qb c = [92, c] := by unfold qb; rw [if_pos h1]
   have k := key _ e
   rw [e]
   have g0 := hg [92, c] (qi l ++ [34]) 0 (by simp)
   have g1 := hg [92, c] (qi l ++ [34]) 1 (by simp)
   simp only [List.getElem?_cons_zero, List.getElem?_cons_succ, Option.map_some, Option.getD_some, Nat.add_zero] at g0 g1
   rw [du_1 (by rw [hz]; simp only [List.length_cons, List.length_nil]; omega) ⟨by rw [g0]; rfl, by rw [hz]; simp only [List.length_cons, List.length_nil]; omega, by rw [g1]; rcases h1 with rfl | rfl <;> rfl⟩, g1, u8_id]
   rw [show p.length + 2 = p.length + [92, c].length from rfl, k]
  ·by_cases h2 : c < 32 ∨ 126 < c
   ·have e : qb c = [92, 120, hx (c.toNat / 16), hx (c.toNat % 16)] := by unfold qb; rw [if_neg h1, if_pos h2]
    have k := key _ e
    rw [e]
    have g0 := hg [92, 120, hx (c.toNat / 16), hx (c.toNat % 16)] (qi l ++ [34]) 0 (by simp)
    have g1 := hg [92, 120, hx (c.toNat / 16), hx (c.toNat % 16)] (qi l ++ [34]) 1 (by simp)
    have g2 := hg [92, 120, hx (c.toNat / 16), hx (c.toNat % 16)] (qi l ++ [34]) 2 (by simp)
    have g3 := hg [92, 120, hx (c.toNat / 16), hx (c.toNat % 16)] (qi l ++ [34]) 3 (by simp)
    simp only [List.getElem?_cons_zero, List.getElem?_cons_succ, Option.map_some, Option.getD_some, Nat.add_zero] at g0 g1 g2 g3
    rw [du_2 (by rw [hz]; simp only [List.length_cons, List.length_nil]; omega) (fun h => by rw [g1] at h; exact absurd h.2.2 (by decide)) ⟨by rw [g0]; rfl, by rw [hz]; simp only [List.length_cons, List.length_nil]; omega⟩, g2, g3]
    have hd := dh2_fin ⟨c.toNat, UInt8.toNat_lt c⟩
    simp only at hd
    rw [hd, u8_id, show p.length + 4 = p.length + [92, 120, hx (c.toNat / 16), hx (c.toNat % 16)].length from rfl, k]
   ·have e : qb c = [c] := by unfold qb; rw [if_neg h1, if_neg h2]
    have k := key _ e
    rw [e]
    have g0 := hg [c] (qi l ++ [34]) 0 (by simp)
    simp only [List.getElem?_cons_zero, Option.map_some, Option.getD_some, Nat.add_zero] at g0
    have n92 : ¬ ((((c.toNat : Nat) : Int) == 92) = true) := by rw [beq92]; simp; exact fun h => h1 (Or.inr h)
    rw [du_3 (by rw [hz]; simp only [List.length_cons, List.length_nil]; omega) (fun h => by rw [g0] at h; exact n92 h.1) (fun h => by rw [g0] at h; exact n92 h.1), g0, u8_id]
    rw [show p.length + 1 = p.length + [c].length from rfl, k]
theorem du_qt (l : List UInt8) : du ⟨(qt l).toArray⟩ 1 = l := du_qi l [34]
theorem unq_du (s : ByteArray) : unq s = if qt (du s 1) = by8 s then (⟨(du s 1).toArray⟩, true) else (⟨#[]⟩, false) := by
 by_cases h : qt (du s 1) = by8 s
 ·rw [if_pos h]
  have := unq_qt (du s 1)
  rw [h, ba_eta] at this
  exact this
 ·rw [if_neg h]
  cases h2 : (unq s).2 with
  | false => have := unq_no h2; exact Prod.ext this h2
  | true =>
   exfalso
   have h3 := unq_of h2
   have h4 := du_qt (by8 (unq s).1)
   rw [← h3, ba_eta] at h4
   rw [h4] at h
   exact h h3.symm
theorem qi_len (l : List UInt8) : (qi l).length ≤ 4 * l.length := by
 induction l with
 | nil => simp [qi]
 | cons c l ih => rw [qi_cons, List.length_append, List.length_cons]; have := qb_le c; omega
end Go.Proofs.YthgknegocfhdbaaDoor.V
/-
 Bytes put behind a slice of one's own: some at once.
-/
namespace Go.Proofs.YthgknegocfhdbaaDoor
open Go.RowKit
theorem app62 (w : World) (ty : TypeId) (N : Nat) (v : Value) (n : Nat) (xs : List Value) (hown : w.ownsRow N 5 1 v n xs) (k m c : Nat) (news : List Value) (hl : news.length = m * 1) (hA : At w k news) (h1 : ∀ u ∈ news, u.oneCell' = true) (hm : 0 < m) (hn : n + m ≤ 70000000000000) (hN : N ≤ w.heap.size) :
  ∃ v' w', (Builtin.append_ #[62, 62] ty #[v, .slice (some ⟨k, 0, none⟩) m c]).run Tryd.prog w = .ok v' w' ∧ w'.ownsRow N 5 1 v' (n + m) (xs ++ news) ∧ AppW v w w' ∧ (v'.ownBlock = v.ownBlock ∨ v'.ownBlock = some w.heap.size) := by
 obtain ⟨i, hi, hz, hs, hby⟩ := inf5
 have hnews : ∀ j u, news[j]? = some u → w.cell? ((⟨k, 0, none⟩ : Addr).add j) = some u := fun j u hu => by
  rw [Addr.add_mid]; have := hA.1 j u hu; simpa using this
 obtain ⟨v', w', hr, h2, h3, _, h5⟩ := run_append_own_at (P := Tryd.prog) w N 62 ty 5 i _ 1 1 Tryd.underlying62 hi hz hs hby rfl (by decide) v n xs hown ⟨k, 0, none⟩ m c news hl hnews h1 (by unfold maxLen; omega) (by omega) hN
 refine ⟨v', w', hr, h2, ⟨h3.os, h3.tape, h3.output, h3.size, fun j hj hne => h3.block j hj (fun e => hne e.symm), ?_⟩, h5⟩
 rcases hown.2 with ⟨rfl, rfl⟩ | ⟨g, cap, cur, rfl, hbg, hg, hnc, hcm, hcs, htake⟩
 ·have hr2 := run_append_nil (P := Tryd.prog) w 62 ty 5 i _ Tryd.underlying62 hi hz ⟨k, 0, none⟩ m c news (by rw [hs]; exact hl) hnews hm (by omega) (by first | omega | (rw [hby]; omega) | (rw [hby]; exact growslice_fits (n := 0) (by omega) (by omega)))
  rw [hr2] at hr
  cases hr
  exact ((Mo.refl w).drew.alloc _ _).2
 ·by_cases hroom : n + m ≤ cap
  ·have hr2 := run_append_room (P := Tryd.prog) w 62 ty 5 i Tryd.underlying62 hi g n cap cur hg ⟨k, 0, none⟩ m c news (by rw [hs]; exact hl) hnews h1 hroom (by rw [hs]; first | omega | (rw [hl]; omega) | (simp [hl]; omega))
   rw [hr2] at hr
   cases hr
   intro a
   by_cases e : a.block = g
   ·have h9 := setRow_heap w g cur (cur.toList.take (n * i.size) ++ news ++ cur.toList.drop (n * i.size + news.length)).toArray 5 (0, 0) hg
    simp only [World.frozen?, e, h9, hg]
   ·exact World.frozen?_of_block (setRow_other w g a.block _ e)
  ·have hr2 := run_append_grow (P := Tryd.prog) w 62 ty 5 i _ Tryd.underlying62 hi hz ⟨g, 0, none⟩ n cap xs (by rw [hs]; exact hown.1) (hown.cells (g := g) rfl) ⟨k, 0, none⟩ m c news (by rw [hs]; exact hl) hnews (by omega) (by omega) (by rw [hby]; exact growslice_fits (by omega) (by omega))
   rw [hr2] at hr
   cases hr
   exact ((Mo.refl w).drew.alloc _ _).2
namespace V
theorem own_mw5 {w w' : World} {N : Nat} {v : Value} {n : Nat} {xs : List Value} (h : w.ownsRow N 5 1 v n xs) (m : Mw w w') : w'.ownsRow N 5 1 v n xs :=
 h.kept (row := none) ⟨m.os, m.tape, m.output, m.size, fun k hk _ => m.block k hk⟩ (by cases e : v.ownBlock <;> simp)
section
variable {o : Oper} {n : Nat} {l : List (Nat × Value)} {w : World} {ops : Array Oper} {rest : List Oper} {Q : Exit → Act → World → Prop}
theorem wl_app62 (s x : Operand) (N : Nat) (v : Value) (q : Nat) (xs : List Value) (k m c : Nat) (news : List Value) (ho : o.op = .call { callee := .builtin .append, args := #[s, x], argTypes := #[62, 62] }) (hs : evl n l s = v) (hx : evl n l x = .slice (some ⟨k, 0, none⟩) m c)
  (hown : w.ownsRow N 5 1 v q xs) (hl : news.length = m * 1) (hA : At w k news) (h1 : ∀ u ∈ news, u.oneCell' = true) (hm : 0 < m) (hn : q + m ≤ 70000000000000) (hN : N ≤ w.heap.size) (hg : wnt n l ops o = true)
  (hk : ∀ v' w', w'.ownsRow N 5 1 v' (q + m) (xs ++ news) → AppW v w w' → (v'.ownBlock = v.ownBlock ∨ v'.ownBlock = some w.heap.size) → WL Tryd.prog ops Q rest n (ext l o.dst v') w') : WL Tryd.prog ops Q (o :: rest) n l w := by
 obtain ⟨v', w', hr, h2, h3, h4⟩ := app62 w o.type N v q xs hown k m c news hl hA h1 hm hn hN
 refine ⟨l_step hg (o_val v' (w' := w') ?_ (hk v' w' h2 h3 h4).out)⟩
 unfold execOp
 simp only [ho, resolve, invoke, builtin, Sem.run_bind, Sem.run_pure, Result.andThen_ok, List.map_toArray, List.map_cons, List.map_nil, hs, hx, hr]
end
def OB (N : Nat) (v : Value) (L : List UInt8) (w : World) : Prop := w.ownsRow N 5 1 v L.length (Lib.byteCells L)
theorem OB.mw {N : Nat} {v : Value} {L : List UInt8} {w w' : World} (h : OB N v L w) (m : Mw w w') : OB N v L w' := own_mw5 h m
theorem OB.nil (N : Nat) (w : World) : OB N (.slice none 0 0) [] w := ⟨rfl, .inl ⟨rfl, rfl⟩⟩
theorem u8c {c : Int} (h : 0 ≤ c ∧ c ≤ 255) : (Value.int .u8 c) = .int .u8 ((c.toNat.toUInt8).toNat : Nat) := by
 have e : ((c.toNat.toUInt8).toNat : Int) = c := by
  rw [Nat.toUInt8, UInt8.toNat_ofNat']
  omega
 rw [e]
theorem fold_push : ∀ (L : List UInt8) (acc : ByteArray), List.foldl (fun r (n : Int) => r.push (UInt8.ofNat n.toNat)) acc (L.map (fun b => (b.toNat : Int))) = ⟨(acc.data.toList ++ L).toArray⟩
 | [], acc => by cases acc; simp
 | c :: L, acc => by
  rw [List.map_cons, List.foldl_cons, fold_push L]
  simp [ByteArray.push]
theorem str_own {w : World} {N : Nat} {v : Value} {L : List UInt8} (h : OB N v L w) : (convert 62 9 v).run Tryd.prog w = .ok (.string ⟨L.toArray⟩) w := by
 rcases h.2 with ⟨rfl, h0⟩ | ⟨g, cap, cur, rfl, hbg, hg, hnc, hcm, hcs, htake⟩
 ·have : L = [] := List.length_eq_zero_iff.1 h0
  subst this
  rw [run_convert_bytes_string w 62 9 5 _ _ _ Tryd.underlying62 Tryd.underlying5 Tryd.underlying9]
  rfl
 ·have hA := h.cells (g := g) rfl
  rw [run_convert_bytes_string w 62 9 5 _ _ _ Tryd.underlying62 Tryd.underlying5 Tryd.underlying9, run_bytesToString w _ _ _ (L.map (fun b => (b.toNat : Int)))]
  ·rw [fold_push]; rfl
  ·have := run_loadCells_list (P := Tryd.prog) w ⟨g, 0, none⟩ (Lib.byteCells L) (fun j v hv => hA j v hv)
   simpa [Lib.byteCells, Function.comp_def] using this
section
variable {o : Oper} {n : Nat} {l : List (Nat × Value)} {w : World} {ops : Array Oper} {rest : List Oper} {Q : Exit → Act → World → Prop}
theorem bs62_1 (c0 : Int) (w : World) : (Instr.buildSlice 62 1 #[(0, .int .u8 c0)]).run Tryd.prog w = .ok (.slice (some ⟨w.heap.size, 0, none⟩) 1 1) (w.alloc (.cells #[.int .u8 c0] 5)) := by kernel_rfl
theorem wl_put1 (o2 : Oper) (x0 s : Operand) (d : Nat) (c0 : Int) (N : Nat) (v : Value) (L : List UInt8) (ho : o.op = .buildSlice 62 1 #[(0, x0)]) (hd : o.dst = some d) (h0 : evl n l x0 = .int .u8 c0) (hg : wnt n l ops o = true)
  (ho2 : o2.op = .call { callee := .builtin .append, args := #[s, .tmp d], argTypes := #[62, 62] }) (hd9 : evl n (ext l (some d) (.slice (some ⟨w.heap.size, 0, none⟩) 1 1)) (.tmp d) = .slice (some ⟨w.heap.size, 0, none⟩) 1 1) (hs : evl n (ext l (some d) (.slice (some ⟨w.heap.size, 0, none⟩) 1 1)) s = v) (hg2 : wnt n (ext l (some d) (.slice (some ⟨w.heap.size, 0, none⟩) 1 1)) ops o2 = true)
  (hown : OB N v L w) (r0 : 0 ≤ c0 ∧ c0 ≤ 255) (hn : L.length + 1 ≤ 70000000000000) (hN : N ≤ w.heap.size)
  (hk : ∀ v' w', OB N v' (L ++ [c0.toNat.toUInt8]) w' → (∀ a : World, N = a.heap.size → Mw a w → Mw a w') → (∀ j vs, j < w.heap.size → v.ownBlock ≠ some j → At w j vs → At w' j vs) → WL Tryd.prog ops Q rest n (ext (ext l (some d) (.slice (some ⟨w.heap.size, 0, none⟩) 1 1)) o2.dst v') w') : WL Tryd.prog ops Q (o :: o2 :: rest) n l w := by
 refine ⟨l_step hg (o_val (.slice (some ⟨w.heap.size, 0, none⟩) 1 1) (w' := w.alloc (.cells #[.int .u8 c0] 5)) (by
  have h := bs62_1 c0 w
  simp [execOp, ho, h0, h]) ?_)⟩
 have hal : Mw w (w.alloc (.cells #[.int .u8 c0] 5)) := (Mw.refl _).alloc _ _
 rw [hd]
 refine (wl_app62 s (.tmp d) N v L.length (Lib.byteCells L) w.heap.size 1 1 [.int .u8 c0] ho2 hs hd9 (OB.mw hown hal) rfl (At.new w #[.int .u8 c0] 5) (fun u hu => by simp at hu; rcases hu with rfl <;> rfl) (by decide) hn (Nat.le_trans hN hal.size) hg2 ?_).out
 intro v' w' hO hA hb
 refine hk v' w' ?_ (fun a ha hM => AppW.mw hA (hM.trans hal) (fun j e => by rw [← ha]; exact ((OB.mw hown hal).lt j e).1)) (fun j vs hj hne hq => AppW.at hA (At.mo hq hal) hne)
 unfold OB
 rw [Lib.byteCells_append, List.length_append]
 have e : Lib.byteCells [c0.toNat.toUInt8] = [.int .u8 c0] := by
  simp only [Lib.byteCells, List.map_cons, List.map_nil]
  rw [u8c r0]
 rw [e]
 exact hO
theorem bs62_2 (c0 c1 : Int) (w : World) : (Instr.buildSlice 62 2 #[(0, .int .u8 c0), (1, .int .u8 c1)]).run Tryd.prog w = .ok (.slice (some ⟨w.heap.size, 0, none⟩) 2 2) (w.alloc (.cells #[.int .u8 c0, .int .u8 c1] 5)) := by kernel_rfl
theorem wl_put2 (o2 : Oper) (x0 x1 s : Operand) (d : Nat) (c0 c1 : Int) (N : Nat) (v : Value) (L : List UInt8) (ho : o.op = .buildSlice 62 2 #[(0, x0), (1, x1)]) (hd : o.dst = some d) (h0 : evl n l x0 = .int .u8 c0) (h1 : evl n l x1 = .int .u8 c1) (hg : wnt n l ops o = true)
  (ho2 : o2.op = .call { callee := .builtin .append, args := #[s, .tmp d], argTypes := #[62, 62] }) (hd9 : evl n (ext l (some d) (.slice (some ⟨w.heap.size, 0, none⟩) 2 2)) (.tmp d) = .slice (some ⟨w.heap.size, 0, none⟩) 2 2) (hs : evl n (ext l (some d) (.slice (some ⟨w.heap.size, 0, none⟩) 2 2)) s = v) (hg2 : wnt n (ext l (some d) (.slice (some ⟨w.heap.size, 0, none⟩) 2 2)) ops o2 = true)
  (hown : OB N v L w) (r0 : 0 ≤ c0 ∧ c0 ≤ 255) (r1 : 0 ≤ c1 ∧ c1 ≤ 255) (hn : L.length + 2 ≤ 70000000000000) (hN : N ≤ w.heap.size)
  (hk : ∀ v' w', OB N v' (L ++ [c0.toNat.toUInt8, c1.toNat.toUInt8]) w' → (∀ a : World, N = a.heap.size → Mw a w → Mw a w') → (∀ j vs, j < w.heap.size → v.ownBlock ≠ some j → At w j vs → At w' j vs) → WL Tryd.prog ops Q rest n (ext (ext l (some d) (.slice (some ⟨w.heap.size, 0, none⟩) 2 2)) o2.dst v') w') : WL Tryd.prog ops Q (o :: o2 :: rest) n l w := by
 refine ⟨l_step hg (o_val (.slice (some ⟨w.heap.size, 0, none⟩) 2 2) (w' := w.alloc (.cells #[.int .u8 c0, .int .u8 c1] 5)) (by
  have h := bs62_2 c0 c1 w
  simp [execOp, ho, h0, h1, h]) ?_)⟩
 have hal : Mw w (w.alloc (.cells #[.int .u8 c0, .int .u8 c1] 5)) := (Mw.refl _).alloc _ _
 rw [hd]
 refine (wl_app62 s (.tmp d) N v L.length (Lib.byteCells L) w.heap.size 2 2 [.int .u8 c0, .int .u8 c1] ho2 hs hd9 (OB.mw hown hal) rfl (At.new w #[.int .u8 c0, .int .u8 c1] 5) (fun u hu => by simp at hu; rcases hu with rfl | rfl <;> rfl) (by decide) hn (Nat.le_trans hN hal.size) hg2 ?_).out
 intro v' w' hO hA hb
 refine hk v' w' ?_ (fun a ha hM => AppW.mw hA (hM.trans hal) (fun j e => by rw [← ha]; exact ((OB.mw hown hal).lt j e).1)) (fun j vs hj hne hq => AppW.at hA (At.mo hq hal) hne)
 unfold OB
 rw [Lib.byteCells_append, List.length_append]
 have e : Lib.byteCells [c0.toNat.toUInt8, c1.toNat.toUInt8] = [.int .u8 c0, .int .u8 c1] := by
  simp only [Lib.byteCells, List.map_cons, List.map_nil]
  rw [u8c r0, u8c r1]
 rw [e]
 exact hO
theorem bs62_4 (c0 c1 c2 c3 : Int) (w : World) : (Instr.buildSlice 62 4 #[(0, .int .u8 c0), (1, .int .u8 c1), (2, .int .u8 c2), (3, .int .u8 c3)]).run Tryd.prog w = .ok (.slice (some ⟨w.heap.size, 0, none⟩) 4 4) (w.alloc (.cells #[.int .u8 c0, .int .u8 c1, .int .u8 c2, .int .u8 c3] 5)) := by kernel_rfl
theorem wl_put4 (o2 : Oper) (x0 x1 x2 x3 s : Operand) (d : Nat) (c0 c1 c2 c3 : Int) (N : Nat) (v : Value) (L : List UInt8) (ho : o.op = .buildSlice 62 4 #[(0, x0), (1, x1), (2, x2), (3, x3)]) (hd : o.dst = some d) (h0 : evl n l x0 = .int .u8 c0) (h1 : evl n l x1 = .int .u8 c1) (h2 : evl n l x2 = .int .u8 c2) (h3 : evl n l x3 = .int .u8 c3) (hg : wnt n l ops o = true)
  (ho2 : o2.op = .call { callee := .builtin .append, args := #[s, .tmp d], argTypes := #[62, 62] }) (hd9 : evl n (ext l (some d) (.slice (some ⟨w.heap.size, 0, none⟩) 4 4)) (.tmp d) = .slice (some ⟨w.heap.size, 0, none⟩) 4 4) (hs : evl n (ext l (some d) (.slice (some ⟨w.heap.size, 0, none⟩) 4 4)) s = v) (hg2 : wnt n (ext l (some d) (.slice (some ⟨w.heap.size, 0, none⟩) 4 4)) ops o2 = true)
  (hown : OB N v L w) (r0 : 0 ≤ c0 ∧ c0 ≤ 255) (r1 : 0 ≤ c1 ∧ c1 ≤ 255) (r2 : 0 ≤ c2 ∧ c2 ≤ 255) (r3 : 0 ≤ c3 ∧ c3 ≤ 255) (hn : L.length + 4 ≤ 70000000000000) (hN : N ≤ w.heap.size)
  (hk : ∀ v' w', OB N v' (L ++ [c0.toNat.toUInt8, c1.toNat.toUInt8, c2.toNat.toUInt8, c3.toNat.toUInt8]) w' → (∀ a : World, N = a.heap.size → Mw a w → Mw a w') → (∀ j vs, j < w.heap.size → v.ownBlock ≠ some j → At w j vs → At w' j vs) → WL Tryd.prog ops Q rest n (ext (ext l (some d) (.slice (some ⟨w.heap.size, 0, none⟩) 4 4)) o2.dst v') w') : WL Tryd.prog ops Q (o :: o2 :: rest) n l w := by
 refine ⟨l_step hg (o_val (.slice (some ⟨w.heap.size, 0, none⟩) 4 4) (w' := w.alloc (.cells #[.int .u8 c0, .int .u8 c1, .int .u8 c2, .int .u8 c3] 5)) (by
  have h := bs62_4 c0 c1 c2 c3 w
  simp [execOp, ho, h0, h1, h2, h3, h]) ?_)⟩
 have hal : Mw w (w.alloc (.cells #[.int .u8 c0, .int .u8 c1, .int .u8 c2, .int .u8 c3] 5)) := (Mw.refl _).alloc _ _
 rw [hd]
 refine (wl_app62 s (.tmp d) N v L.length (Lib.byteCells L) w.heap.size 4 4 [.int .u8 c0, .int .u8 c1, .int .u8 c2, .int .u8 c3] ho2 hs hd9 (OB.mw hown hal) rfl (At.new w #[.int .u8 c0, .int .u8 c1, .int .u8 c2, .int .u8 c3] 5) (fun u hu => by simp at hu; rcases hu with rfl | rfl | rfl | rfl <;> rfl) (by decide) hn (Nat.le_trans hN hal.size) hg2 ?_).out
 intro v' w' hO hA hb
 refine hk v' w' ?_ (fun a ha hM => AppW.mw hA (hM.trans hal) (fun j e => by rw [← ha]; exact ((OB.mw hown hal).lt j e).1)) (fun j vs hj hne hq => AppW.at hA (At.mo hq hal) hne)
 unfold OB
 rw [Lib.byteCells_append, List.length_append]
 have e : Lib.byteCells [c0.toNat.toUInt8, c1.toNat.toUInt8, c2.toNat.toUInt8, c3.toNat.toUInt8] = [.int .u8 c0, .int .u8 c1, .int .u8 c2, .int .u8 c3] := by
  simp only [Lib.byteCells, List.map_cons, List.map_nil]
  rw [u8c r0, u8c r1, u8c r2, u8c r3]
 rw [e]
 exact hO
end
end V
end Go.Proofs.YthgknegocfhdbaaDoor
/-
 The document's hex, Quote and Unquote.
-/
namespace Go.Proofs.YthgknegocfhdbaaDoor.V
open Go.RowKit
theorem ge5 {c d : Int} {r : Bool} (h : decide (d ≤ c) = r) (x y : Operand) (w : World) : (do eqGuard .geq 5 x y (.int .u8 c) (.int .u8 d); binOp .geq 5 (.int .u8 c) (.int .u8 d)).run Tryd.prog w = .ok (.bool r) w := by
 subst h; simp [go_sem]
theorem sub5 {c d r : Int} (h : IntKind.u8.wrap (c - d) = r) (x y : Operand) (w : World) : (do eqGuard .sub 5 x y (.int .u8 c) (.int .u8 d); binOp .sub 5 (.int .u8 c) (.int .u8 d)).run Tryd.prog w = .ok (.int .u8 r) w := by
 subst h; kernel_rfl
theorem add5 {c d r : Int} (h : IntKind.u8.wrap (c + d) = r) (x y : Operand) (w : World) : (do eqGuard .add 5 x y (.int .u8 c) (.int .u8 d); binOp .add 5 (.int .u8 c) (.int .u8 d)).run Tryd.prog w = .ok (.int .u8 r) w := by
 subst h; kernel_rfl
theorem mul5 {c d r : Int} (h : IntKind.u8.wrap (c * d) = r) (x y : Operand) (w : World) : (do eqGuard .mul 5 x y (.int .u8 c) (.int .u8 d); binOp .mul 5 (.int .u8 c) (.int .u8 d)).run Tryd.prog w = .ok (.int .u8 r) w := by
 subst h; kernel_rfl
theorem rhex_n (c : Int) (w : World) (hc : 0 ≤ c ∧ c ≤ 255) : Calls Tryd.prog 42 #[.int .u8 c] w fun e w' => e = .returned (.int .u8 (dhx c)) ∧ Mw w w' := by
 refine w_enter 10 Tryd.func42 Tryd.ntmps42 rfl rfl ?_
 have M : Mw w w := Mw.refl _
 refine w_seq (w_reg ?_)
 refine wl_m (.const (.int .u8 (0))) (.int .u8 (0)) ?_
 refine w_nil (xn_then (w_seq (w_seq ?_)))
 cases hf0 : decide (97 ≤ c) with
 | true =>
  have hf0p := of_decide_eq_true hf0
  refine w_reg ?_
  refine wl_m (.tmp 0) (.int .u8 (c)) ?_
  refine wl_b .geq 5 (.tmp 3) (.const (.int .u8 (97))) (.int .u8 (c)) (.int .u8 (97)) (.bool true) (ge5 hf0 _ _ _) ?_
  refine w_nil (xn_then (w_condT rfl (w_seq (w_reg ?_))))
  refine wl_m (.tmp 0) (.int .u8 (c)) ?_
  refine wl_b .sub 5 (.tmp 5) (.const (.int .u8 (97))) (.int .u8 (c)) (.int .u8 (97)) (.int .u8 (c - 97)) (sub5 (by rw [IntKind.wrap_u8]; omega) _ _ _) ?_
  refine wl_b .add 5 (.tmp 6) (.const (.int .u8 (10))) (.int .u8 (c - 97)) (.int .u8 (10)) (.int .u8 (c - 87)) (add5 (by rw [IntKind.wrap_u8]; omega) _ _ _) ?_
  refine wl_m (.tmp 7) (.int .u8 (c - 87)) ?_
  refine w_nil (xn_then (w_ret (xr_then ?_)))
  exact w_ret1 _ (.int .u8 (c - 87)) rfl rfl ⟨by unfold dhx; rw [if_pos hf0p], M⟩
 | false =>
  have hf0p := of_decide_eq_false hf0
  refine w_reg ?_
  refine wl_m (.tmp 0) (.int .u8 (c)) ?_
  refine wl_b .geq 5 (.tmp 3) (.const (.int .u8 (97))) (.int .u8 (c)) (.int .u8 (97)) (.bool false) (ge5 hf0 _ _ _) ?_
  refine w_nil (xn_then (w_condF rfl (w_skip (xn_then (w_seq (w_reg ?_))))))
  refine wl_m (.tmp 0) (.int .u8 (c)) ?_
  refine wl_b .sub 5 (.tmp 8) (.const (.int .u8 (48))) (.int .u8 (c)) (.int .u8 (48)) (.int .u8 ((c - 48) % 256)) (sub5 (by rw [IntKind.wrap_u8]) _ _ _) ?_
  refine wl_m (.tmp 9) (.int .u8 ((c - 48) % 256)) ?_
  refine w_nil (xn_then (w_ret ?_))
  exact w_ret1 _ (.int .u8 ((c - 48) % 256)) rfl rfl ⟨by unfold dhx; rw [if_neg hf0p], M⟩
theorem ixh : ∀ {a : Nat} (_ : a < 16) (w : World), (Instr.index 9 (.string ⟨#[48, 49, 50, 51, 52, 53, 54, 55, 56, 57, 97, 98, 99, 100, 101, 102]⟩) (.int .u8 (a : Int))).run Tryd.prog w = .ok (.int .u8 (((hx a).toNat : Nat) : Int)) w
 | 0, _, _ => by kernel_rfl
 | 1, _, _ => by kernel_rfl
 | 2, _, _ => by kernel_rfl
 | 3, _, _ => by kernel_rfl
 | 4, _, _ => by kernel_rfl
 | 5, _, _ => by kernel_rfl
 | 6, _, _ => by kernel_rfl
 | 7, _, _ => by kernel_rfl
 | 8, _, _ => by kernel_rfl
 | 9, _, _ => by kernel_rfl
 | 10, _, _ => by kernel_rfl
 | 11, _, _ => by kernel_rfl
 | 12, _, _ => by kernel_rfl
 | 13, _, _ => by kernel_rfl
 | 14, _, _ => by kernel_rfl
 | 15, _, _ => by kernel_rfl
 | a + 16, h, _ => absurd h (by omega)
theorem quo16 {b : Nat} (h : b < 256) (x y : Operand) (w : World) : (do eqGuard .quo 5 x y (.int .u8 (b : Int)) (.int .u8 16); binOp .quo 5 (.int .u8 (b : Int)) (.int .u8 16)).run Tryd.prog w = .ok (.int .u8 ((b / 16 : Nat) : Int)) w := by
 have e : (do eqGuard .quo 5 x y (.int .u8 (b : Int)) (.int .u8 16); binOp .quo 5 (.int .u8 (b : Int)) (.int .u8 16)).run Tryd.prog w = .ok (.int .u8 (IntKind.u8.wrap (Int.tdiv (b : Int) 16))) w := by kernel_rfl
 have h2 : IntKind.u8.wrap (Int.tdiv (b : Int) 16) = ((b / 16 : Nat) : Int) := by
  rw [IntKind.wrap_u8, Int.tdiv_eq_ediv_of_nonneg (by omega)]; omega
 rw [e, h2]
theorem rem16 {b : Nat} (h : b < 256) (x y : Operand) (w : World) : (do eqGuard .rem 5 x y (.int .u8 (b : Int)) (.int .u8 16); binOp .rem 5 (.int .u8 (b : Int)) (.int .u8 16)).run Tryd.prog w = .ok (.int .u8 ((b % 16 : Nat) : Int)) w := by
 have e : (do eqGuard .rem 5 x y (.int .u8 (b : Int)) (.int .u8 16); binOp .rem 5 (.int .u8 (b : Int)) (.int .u8 16)).run Tryd.prog w = .ok (.int .u8 (Int.tmod (b : Int) 16)) w := by kernel_rfl
 have h2 : Int.tmod (b : Int) 16 = ((b % 16 : Nat) : Int) := by
  rw [Int.tmod_eq_emod_of_nonneg (by omega)]; omega
 rw [e, h2]
theorem eq5d {b c : Nat} {r : Bool} (h : decide (b = c) = r) (x y : Operand) (w : World) : (do eqGuard .eql 5 x y (.int .u8 (b : Int)) (.int .u8 (c : Int)); binOp .eql 5 (.int .u8 (b : Int)) (.int .u8 (c : Int))).run Tryd.prog w = .ok (.bool r) w := by
 have e : (do eqGuard .eql 5 x y (.int .u8 (b : Int)) (.int .u8 (c : Int)); binOp .eql 5 (.int .u8 (b : Int)) (.int .u8 (c : Int))).run Tryd.prog w = .ok (.bool ((b : Int) == (c : Int))) w := by kernel_rfl
 rw [e, ← h]
 congr 2
 rw [Bool.eq_iff_iff, beq_iff_eq, decide_eq_true_iff]; omega
theorem lt5d {b c : Nat} {r : Bool} (h : decide (b < c) = r) (x y : Operand) (w : World) : (do eqGuard .lss 5 x y (.int .u8 (b : Int)) (.int .u8 (c : Int)); binOp .lss 5 (.int .u8 (b : Int)) (.int .u8 (c : Int))).run Tryd.prog w = .ok (.bool r) w := by
 subst h; simp [go_sem]
theorem gt5d {b c : Nat} {r : Bool} (h : decide (c < b) = r) (x y : Operand) (w : World) : (do eqGuard .gtr 5 x y (.int .u8 (b : Int)) (.int .u8 (c : Int)); binOp .gtr 5 (.int .u8 (b : Int)) (.int .u8 (c : Int))).run Tryd.prog w = .ok (.bool r) w := by
 subst h; simp [go_sem]
theorem idx_bb {s : ByteArray} {k b : Nat} (hb : bt s k = (b : Int)) (h : k < s.size) (w : World) : (Instr.index 9 (.string s) (.int .i64 (k : Int))).run Tryd.prog w = .ok (.int .u8 (b : Int)) w := hb ▸ idx_b h w
theorem tu8 {b : Nat} (h : b < 256) : (b.toUInt8).toNat = b := by rw [Nat.toUInt8, UInt8.toNat_ofNat']; omega
theorem qb_1 {b : Nat} (h : b = 34 ∨ b = 92) : qb b.toUInt8 = [92, b.toUInt8] := by rcases h with rfl | rfl <;> rfl
theorem qb_2 {b : Nat} (hb : b < 256) (h : b < 32 ∨ 126 < b) : qb b.toUInt8 = [92, 120, hx (b / 16), hx (b % 16)] := by
 have e := tu8 hb
 have n34 : ¬ b.toUInt8 = 34 := fun h => by rw [h] at e; have : (34 : UInt8).toNat = 34 := rfl; omega
 have n92 : ¬ b.toUInt8 = 92 := fun h => by rw [h] at e; have : (92 : UInt8).toNat = 92 := rfl; omega
 unfold qb
 rw [if_neg (fun h => h.elim n34 n92), if_pos (by rw [UInt8.lt_iff_toNat_lt, UInt8.lt_iff_toNat_lt, e]; exact h), e]
theorem qb_3 {b : Nat} (hb : b < 256) (h1 : ¬ b = 34) (h2 : ¬ b = 92) (h3 : ¬ b < 32) (h4 : ¬ 126 < b) : qb b.toUInt8 = [b.toUInt8] := by
 have e := tu8 hb
 have n34 : ¬ b.toUInt8 = 34 := fun h => by rw [h] at e; have : (34 : UInt8).toNat = 34 := rfl; omega
 have n92 : ¬ b.toUInt8 = 92 := fun h => by rw [h] at e; have : (92 : UInt8).toNat = 92 := rfl; omega
 refine qb_self n34 n92 ?_
 unfold prn; rw [e]; simp; omega
theorem qi_step {s : ByteArray} {k b : Nat} {L : List UInt8} (hk : k < s.size) (hb : bt s k = (b : Int)) (hq : qb b.toUInt8 = L) : 34 :: qi ((by8 s).take k) ++ L = 34 :: qi ((by8 s).take (k + 1)) := by
 have e : s[k] = b.toUInt8 := by
  rw [bt_in hk] at hb
  refine UInt8.toNat_inj.1 ?_
  have hl := UInt8.toNat_lt s[k]
  rw [tu8 (by omega)]; omega
 have h : (by8 s).take (k + 1) = (by8 s).take k ++ [b.toUInt8] := by
  rw [List.take_add_one, List.getElem?_eq_getElem (by rw [by8_len]; exact hk)]
  rw [← e]; rfl
 rw [h, qi_app, ← hq]
 simp [qi]
theorem bt_nat (s : ByteArray) (k : Nat) : ∃ b : Nat, bt s k = (b : Int) ∧ b < 256 := by
 have h := bt_rg s k
 exact ⟨(bt s k).toNat, by omega, by omega⟩
theorem OB.new1 {N : Nat} {w : World} (c : Nat) (hc : c < 256) (hN : N ≤ w.heap.size) : OB N (.slice (some ⟨w.heap.size, 0, none⟩) 1 1) [c.toUInt8] (w.alloc (.cells #[.int .u8 (c : Int)] 5)) := by
 refine ⟨rfl, .inr ⟨w.heap.size, 1, #[.int .u8 (c : Int)], rfl, hN, by show (w.heap.push _)[w.heap.size]? = _; rw [Array.getElem?_push, if_pos rfl], Nat.le_refl 1, by decide, rfl, ?_⟩⟩
 simp [Lib.byteCells, tu8 hc]
section
variable {o : Oper} {n : Nat} {l : List (Nat × Value)} {w : World} {ops : Array Oper} {rest : List Oper} {Q : Exit → Act → World → Prop}
theorem wl_new1 (x : Operand) (c : Nat) (N : Nat) (hc : c < 256) (ho : o.op = .buildSlice 62 1 #[(0, x)]) (hx : evl n l x = .int .u8 (c : Int)) (hN : N ≤ w.heap.size) (hg : wnt n l ops o = true)
  (hk : ∀ v w', OB N v [c.toUInt8] w' → Mw w w' → WL Tryd.prog ops Q rest n (ext l o.dst v) w') : WL Tryd.prog ops Q (o :: rest) n l w :=
 ⟨l_step hg (o_val (.slice (some ⟨w.heap.size, 0, none⟩) 1 1) (w' := w.alloc (.cells #[.int .u8 (c : Int)] 5)) (by
  have h := bs62_1 (c : Int) w
  simp [execOp, ho, hx, h]) (hk _ _ (OB.new1 c hc hN) ((Mw.refl _).alloc _ _)).out)⟩
end
theorem rquote_n (s : ByteArray) (w : World) (hs : s.size ≤ 1000000000000) : Calls Tryd.prog 23 #[.string s] w fun e w' => e = .returned (.string ⟨(qt (by8 s)).toArray⟩) ∧ Mw w w' := by
 refine w_enter 51 Tryd.func23 Tryd.ntmps23 rfl rfl ?_
 have M : Mw w w := Mw.refl _
 refine w_seq (w_reg ?_)
 refine wl_m (.const (.string ⟨#[]⟩)) (.string ⟨#[]⟩) ?_
 refine w_nil (xn_then (w_seq (w_reg ?_)))
 refine wl_new1 (.const (.int .u8 (34))) 34 w.heap.size (by decide) rfl rfl M.size rfl ?_
 intro vo1 w1 hown hq
 replace M := M.trans hq
 clear hq
 refine wl_m (.tmp 6) (vo1) ?_
 refine w_nil (xn_then (w_seq (w_seq (w_reg ?_))))
 refine wl_m (.const (.int .i64 (0))) (.int .i64 (0)) ?_
 refine w_nil (xn_then (w_block ?_))
 refine w_loop (fun m l w1 => ∃ (k : Nat) (v : Value), m = s.size - k ∧ look l 0 = .string s ∧ look l 3 = v ∧ look l 4 = .int .i64 ((k : Nat) : Int) ∧ k ≤ s.size ∧ OB w.heap.size v (34 :: qi ((by8 s).take k)) w1 ∧ Mw w w1) _ ⟨0, _, rfl, rfl, rfl, rfl, Nat.zero_le _, hown, M⟩ ?_
 clear M hown
 rintro m l wl ⟨k, v, rfl, e0, e3, e4, hk, hown, M⟩
 obtain ⟨b, hb, hb2⟩ := bt_nat s k
 refine w_seq (w_seq ?_)
 cases hf20 : decide (k < s.size) with
 | true =>
  have hf20p := of_decide_eq_true hf20
  refine w_reg ?_
  refine wl_mv (.tmp 4) (.int .i64 ((k : Nat) : Int)) (fun _ => rfl) e4 rfl ?_
  refine wl_mv (.tmp 0) (.string s) (fun _ => rfl) e0 rfl ?_
  refine wl_val (.int .i64 ((s.size : Nat) : Int)) (len_s _ _ s (by exact rfl) _ _ _ _ _ _) rfl ?_
  refine wl_b .lss 3 (.tmp 7) (.tmp 9) (.int .i64 ((k : Nat) : Int)) (.int .i64 ((s.size : Nat) : Int)) (.bool true) (ltN hf20 _ _ _) ?_
  refine w_nil (xn_then (w_condT rfl (w_skip (xn_then (w_seq (w_block (w_seq (w_reg ?_))))))))
  refine wl_mv (.tmp 0) (.string s) (fun _ => rfl) e0 rfl ?_
  refine wl_mv (.tmp 4) (.int .i64 ((k : Nat) : Int)) (fun _ => rfl) e4 rfl ?_
  refine wl_bin (fun x y => Instr.index 9 x y) (.tmp 13) (.tmp 14) (.string s) (.int .i64 ((k : Nat) : Int)) (.int .u8 (b : Int)) (fun _ => rfl) rfl rfl (idx_bb hb (by omega) _) rfl ?_
  refine wl_m (.tmp 15) (.int .u8 (b : Int)) ?_
  refine w_nil (xn_then (w_block (w_seq ?_)))
  cases hf21 : decide (b = 34) with
  | true =>
   have hf21p := of_decide_eq_true hf21
   refine w_reg ?_
   refine wl_m (.tmp 5) (.int .u8 (b : Int)) ?_
   refine wl_b .eql 5 (.tmp 21) (.const (.int .u8 (34))) (.int .u8 (b : Int)) (.int .u8 (34)) (.bool true) (eq5d hf21 _ _ _) ?_
   refine wl_m (.tmp 22) (.bool true) ?_
   refine wl_skip rfl (wl_skip rfl ?_)
   refine wl_pick (.tmp 23) (.const (.bool true)) (.tmp 25) true (.bool true) (fun _ => rfl) rfl rfl rfl ?_
   refine wl_m (.tmp 26) (.bool true) ?_
   refine w_nil (xn_then (w_condT rfl (w_reg ?_)))
   refine wl_mv (.tmp 3) (v) (fun _ => rfl) e3 rfl ?_
   refine wl_m (.tmp 5) (.int .u8 (b : Int)) ?_
   refine wl_put2 _ (.const (.int .u8 (92))) (.tmp 28) (.tmp 27) 29 ((92)) ((b : Int)) w.heap.size v (34 :: qi ((by8 s).take k)) rfl rfl rfl rfl rfl rfl rfl rfl rfl hown (by omega) (by omega) (by have hql := qi_len ((by8 s).take k); simp only [List.length_cons, List.length_take, by8_len] at hql ⊢; omega) M.size ?_
   intro vo11 w11 hOn hMn hAn
   replace M := hMn w rfl M
   replace hown := hOn
   clear hOn hMn hAn
   refine wl_m (.tmp 30) (vo11) ?_
   refine w_nil (xn_blk (xn_blk (xn_then (w_reg ?_))))
   refine wl_mv (.tmp 4) (.int .i64 ((k : Nat) : Int)) (fun _ => rfl) e4 rfl ?_
   refine wl_b .add 3 (.tmp 11) (.const (.int .i64 (1))) (.int .i64 ((k : Nat) : Int)) (.int .i64 (1)) (.int .i64 ((k + 1 : Nat) : Int)) (addk (a := k) (b := 1) rfl (by omega) _ _ _) ?_
   refine wl_m (.tmp 12) (.int .i64 ((k + 1 : Nat) : Int)) ?_
   refine w_nil ?_
   exact xn_loop (s.size - (k + 1)) (by omega) ⟨k + 1, _, rfl, e0, rfl, rfl, by omega, by rw [← qi_step (by omega) hb (qb_1 (Or.inl hf21p))]; exact hown, M⟩
  | false =>
   have hf21p := of_decide_eq_false hf21
   cases hf22 : decide (b = 92) with
   | true =>
    have hf22p := of_decide_eq_true hf22
    refine w_reg ?_
    refine wl_m (.tmp 5) (.int .u8 (b : Int)) ?_
    refine wl_b .eql 5 (.tmp 21) (.const (.int .u8 (34))) (.int .u8 (b : Int)) (.int .u8 (34)) (.bool false) (eq5d hf21 _ _ _) ?_
    refine wl_m (.tmp 22) (.bool false) ?_
    refine wl_m (.tmp 5) (.int .u8 (b : Int)) ?_
    refine wl_b .eql 5 (.tmp 24) (.const (.int .u8 (92))) (.int .u8 (b : Int)) (.int .u8 (92)) (.bool true) (eq5d hf22 _ _ _) ?_
    refine wl_pick (.tmp 23) (.const (.bool true)) (.tmp 25) false (.bool true) (fun _ => rfl) rfl rfl rfl ?_
    refine wl_m (.tmp 26) (.bool true) ?_
    refine w_nil (xn_then (w_condT rfl (w_reg ?_)))
    refine wl_mv (.tmp 3) (v) (fun _ => rfl) e3 rfl ?_
    refine wl_m (.tmp 5) (.int .u8 (b : Int)) ?_
    refine wl_put2 _ (.const (.int .u8 (92))) (.tmp 28) (.tmp 27) 29 ((92)) ((b : Int)) w.heap.size v (34 :: qi ((by8 s).take k)) rfl rfl rfl rfl rfl rfl rfl rfl rfl hown (by omega) (by omega) (by have hql := qi_len ((by8 s).take k); simp only [List.length_cons, List.length_take, by8_len] at hql ⊢; omega) M.size ?_
    intro vo11 w11 hOn hMn hAn
    replace M := hMn w rfl M
    replace hown := hOn
    clear hOn hMn hAn
    refine wl_m (.tmp 30) (vo11) ?_
    refine w_nil (xn_blk (xn_blk (xn_then (w_reg ?_))))
    refine wl_mv (.tmp 4) (.int .i64 ((k : Nat) : Int)) (fun _ => rfl) e4 rfl ?_
    refine wl_b .add 3 (.tmp 11) (.const (.int .i64 (1))) (.int .i64 ((k : Nat) : Int)) (.int .i64 (1)) (.int .i64 ((k + 1 : Nat) : Int)) (addk (a := k) (b := 1) rfl (by omega) _ _ _) ?_
    refine wl_m (.tmp 12) (.int .i64 ((k + 1 : Nat) : Int)) ?_
    refine w_nil ?_
    exact xn_loop (s.size - (k + 1)) (by omega) ⟨k + 1, _, rfl, e0, rfl, rfl, by omega, by rw [← qi_step (by omega) hb (qb_1 (Or.inr hf22p))]; exact hown, M⟩
   | false =>
    have hf22p := of_decide_eq_false hf22
    refine w_reg ?_
    refine wl_m (.tmp 5) (.int .u8 (b : Int)) ?_
    refine wl_b .eql 5 (.tmp 21) (.const (.int .u8 (34))) (.int .u8 (b : Int)) (.int .u8 (34)) (.bool false) (eq5d hf21 _ _ _) ?_
    refine wl_m (.tmp 22) (.bool false) ?_
    refine wl_m (.tmp 5) (.int .u8 (b : Int)) ?_
    refine wl_b .eql 5 (.tmp 24) (.const (.int .u8 (92))) (.int .u8 (b : Int)) (.int .u8 (92)) (.bool false) (eq5d hf22 _ _ _) ?_
    refine wl_pick (.tmp 23) (.const (.bool true)) (.tmp 25) false (.bool false) (fun _ => rfl) rfl rfl rfl ?_
    refine wl_m (.tmp 26) (.bool false) ?_
    refine w_nil (xn_then (w_condF rfl (w_seq ?_)))
    cases hf23 : decide (b < 32) with
    | true =>
     have hf23p := of_decide_eq_true hf23
     refine w_reg ?_
     refine wl_m (.tmp 5) (.int .u8 (b : Int)) ?_
     refine wl_b .lss 5 (.tmp 32) (.const (.int .u8 (32))) (.int .u8 (b : Int)) (.int .u8 (32)) (.bool true) (lt5d hf23 _ _ _) ?_
     refine wl_m (.tmp 33) (.bool true) ?_
     refine wl_skip rfl (wl_skip rfl ?_)
     refine wl_pick (.tmp 34) (.const (.bool true)) (.tmp 36) true (.bool true) (fun _ => rfl) rfl rfl rfl ?_
     refine wl_m (.tmp 37) (.bool true) ?_
     refine w_nil (xn_then (w_condT rfl ?_))
     refine w_any 7 [.inl (v), .inl (.int .u8 (b : Int)), .inl (.int .u8 ((b / 16 : Nat) : Int)), .inl (.int .u8 (((hx (b / 16)).toNat : Nat) : Int)), .inl (.int .u8 (b : Int)), .inl (.int .u8 ((b % 16 : Nat) : Int)), .inl (.int .u8 (((hx (b % 16)).toNat : Nat) : Int))] [0] (by kernel_rfl) (by kernel_rfl) (by kernel_rfl) (by kernel_rfl) rfl (by kernel_rfl) (by kernel_rfl) (late_cons ⟨_, _, rfl, rfl, fun _ _ _ _ h => h, fun f hd => ⟨rfl, la_mv (.tmp 3) (v) (fun _ => rfl) e3⟩⟩ late_nil) ?_ ?_ ?_
     ·exact Ds.none rfl
     ·refine ea_cons ?_ (ea_cons ?_ (ea_cons ?_ (ea_cons ?_ (ea_cons ?_ (ea_cons ?_ (ea_cons ?_ (ea_nil)))))))
      ·exact og_eq _ rfl (fun f wf hq hd K hK => go_run rfl (wo_mv (.tmp 3) (v) (fun _ => rfl) e3 (hK _ (Mw.refl _))))
      ·exact og_eq _ rfl (fun f wf hq hd K hK => go_run rfl (wo_mv (.tmp 5) (.int .u8 (b : Int)) (fun _ => rfl) rfl (hK _ (Mw.refl _))))
      ·exact og_eq _ rfl (fun f wf hq hd K hK => go_run rfl (wo_bin (fun x y => do eqGuard .quo 5 (.tmp 39) (.const (.int .u8 (16))) x y; binOp .quo 5 x y) (.tmp 39) (.const (.int .u8 (16))) (.int .u8 (b : Int)) (.int .u8 (16)) (.int .u8 ((b / 16 : Nat) : Int)) (fun _ => rfl) (hd 1 rfl) rfl (quo16 hb2 _ _ _) (hK _ (Mw.refl _))))
      ·exact og_eq _ rfl (fun f wf hq hd K hK => go_run rfl (wo_bin (fun x y => Instr.index 9 x y) (.const (.string ⟨#[48, 49, 50, 51, 52, 53, 54, 55, 56, 57, 97, 98, 99, 100, 101, 102]⟩)) (.tmp 40) (.string ⟨#[48, 49, 50, 51, 52, 53, 54, 55, 56, 57, 97, 98, 99, 100, 101, 102]⟩) (.int .u8 ((b / 16 : Nat) : Int)) (.int .u8 (((hx (b / 16)).toNat : Nat) : Int)) (fun _ => rfl) rfl (hd 2 rfl) (ixh (by omega) _) (hK _ (Mw.refl _))))
      ·exact og_eq _ rfl (fun f wf hq hd K hK => go_run rfl (wo_mv (.tmp 5) (.int .u8 (b : Int)) (fun _ => rfl) rfl (hK _ (Mw.refl _))))
      ·exact og_eq _ rfl (fun f wf hq hd K hK => go_run rfl (wo_bin (fun x y => do eqGuard .rem 5 (.tmp 42) (.const (.int .u8 (16))) x y; binOp .rem 5 x y) (.tmp 42) (.const (.int .u8 (16))) (.int .u8 (b : Int)) (.int .u8 (16)) (.int .u8 ((b % 16 : Nat) : Int)) (fun _ => rfl) (hd 4 rfl) rfl (rem16 hb2 _ _ _) (hK _ (Mw.refl _))))
      ·exact og_eq _ rfl (fun f wf hq hd K hK => go_run rfl (wo_bin (fun x y => Instr.index 9 x y) (.const (.string ⟨#[48, 49, 50, 51, 52, 53, 54, 55, 56, 57, 97, 98, 99, 100, 101, 102]⟩)) (.tmp 43) (.string ⟨#[48, 49, 50, 51, 52, 53, 54, 55, 56, 57, 97, 98, 99, 100, 101, 102]⟩) (.int .u8 ((b % 16 : Nat) : Int)) (.int .u8 (((hx (b % 16)).toNat : Nat) : Int)) (fun _ => rfl) rfl (hd 5 rfl) (ixh (by omega) _) (hK _ (Mw.refl _))))
     intro kf11 w11 hq hR hne
     replace hown := OB.mw hown hq
     replace M := M.trans hq
     clear hq hR hne
     refine wl_put4 _ (.const (.int .u8 (92))) (.const (.int .u8 (120))) (.tmp 41) (.tmp 44) (.tmp 38) 45 ((92)) ((120)) ((((hx (b / 16)).toNat : Nat) : Int)) ((((hx (b % 16)).toNat : Nat) : Int)) w.heap.size v (34 :: qi ((by8 s).take k)) rfl rfl rfl rfl rfl rfl rfl rfl rfl rfl rfl hown (by omega) (by omega) (by have := UInt8.toNat_lt (hx (b / 16)); omega) (by have := UInt8.toNat_lt (hx (b % 16)); omega) (by have hql := qi_len ((by8 s).take k); simp only [List.length_cons, List.length_take, by8_len] at hql ⊢; omega) M.size ?_
     intro vo12 w12 hOn hMn hAn
     replace M := hMn w rfl M
     replace hown := hOn
     clear hOn hMn hAn
     refine wl_m (.tmp 46) (vo12) ?_
     refine w_nil (xn_blk (xn_blk (xn_then (w_reg ?_))))
     refine wl_mv (.tmp 4) (.int .i64 ((k : Nat) : Int)) (fun _ => rfl) e4 rfl ?_
     refine wl_b .add 3 (.tmp 11) (.const (.int .i64 (1))) (.int .i64 ((k : Nat) : Int)) (.int .i64 (1)) (.int .i64 ((k + 1 : Nat) : Int)) (addk (a := k) (b := 1) rfl (by omega) _ _ _) ?_
     refine wl_m (.tmp 12) (.int .i64 ((k + 1 : Nat) : Int)) ?_
     refine w_nil ?_
     have hqq := qb_2 hb2 (Or.inl hf23p)
     rw [← u8_id (hx (b / 16)), ← u8_id (hx (b % 16))] at hqq
     exact xn_loop (s.size - (k + 1)) (by omega) ⟨k + 1, _, rfl, e0, rfl, rfl, by omega, by rw [← qi_step (by omega) hb (hqq)]; exact hown, M⟩
    | false =>
     have hf23p := of_decide_eq_false hf23
     cases hf24 : decide (126 < b) with
     | true =>
      have hf24p := of_decide_eq_true hf24
      refine w_reg ?_
      refine wl_m (.tmp 5) (.int .u8 (b : Int)) ?_
      refine wl_b .lss 5 (.tmp 32) (.const (.int .u8 (32))) (.int .u8 (b : Int)) (.int .u8 (32)) (.bool false) (lt5d hf23 _ _ _) ?_
      refine wl_m (.tmp 33) (.bool false) ?_
      refine wl_m (.tmp 5) (.int .u8 (b : Int)) ?_
      refine wl_b .gtr 5 (.tmp 35) (.const (.int .u8 (126))) (.int .u8 (b : Int)) (.int .u8 (126)) (.bool true) (gt5d hf24 _ _ _) ?_
      refine wl_pick (.tmp 34) (.const (.bool true)) (.tmp 36) false (.bool true) (fun _ => rfl) rfl rfl rfl ?_
      refine wl_m (.tmp 37) (.bool true) ?_
      refine w_nil (xn_then (w_condT rfl ?_))
      refine w_any 7 [.inl (v), .inl (.int .u8 (b : Int)), .inl (.int .u8 ((b / 16 : Nat) : Int)), .inl (.int .u8 (((hx (b / 16)).toNat : Nat) : Int)), .inl (.int .u8 (b : Int)), .inl (.int .u8 ((b % 16 : Nat) : Int)), .inl (.int .u8 (((hx (b % 16)).toNat : Nat) : Int))] [0] (by kernel_rfl) (by kernel_rfl) (by kernel_rfl) (by kernel_rfl) rfl (by kernel_rfl) (by kernel_rfl) (late_cons ⟨_, _, rfl, rfl, fun _ _ _ _ h => h, fun f hd => ⟨rfl, la_mv (.tmp 3) (v) (fun _ => rfl) e3⟩⟩ late_nil) ?_ ?_ ?_
      ·exact Ds.none rfl
      ·refine ea_cons ?_ (ea_cons ?_ (ea_cons ?_ (ea_cons ?_ (ea_cons ?_ (ea_cons ?_ (ea_cons ?_ (ea_nil)))))))
       ·exact og_eq _ rfl (fun f wf hq hd K hK => go_run rfl (wo_mv (.tmp 3) (v) (fun _ => rfl) e3 (hK _ (Mw.refl _))))
       ·exact og_eq _ rfl (fun f wf hq hd K hK => go_run rfl (wo_mv (.tmp 5) (.int .u8 (b : Int)) (fun _ => rfl) rfl (hK _ (Mw.refl _))))
       ·exact og_eq _ rfl (fun f wf hq hd K hK => go_run rfl (wo_bin (fun x y => do eqGuard .quo 5 (.tmp 39) (.const (.int .u8 (16))) x y; binOp .quo 5 x y) (.tmp 39) (.const (.int .u8 (16))) (.int .u8 (b : Int)) (.int .u8 (16)) (.int .u8 ((b / 16 : Nat) : Int)) (fun _ => rfl) (hd 1 rfl) rfl (quo16 hb2 _ _ _) (hK _ (Mw.refl _))))
       ·exact og_eq _ rfl (fun f wf hq hd K hK => go_run rfl (wo_bin (fun x y => Instr.index 9 x y) (.const (.string ⟨#[48, 49, 50, 51, 52, 53, 54, 55, 56, 57, 97, 98, 99, 100, 101, 102]⟩)) (.tmp 40) (.string ⟨#[48, 49, 50, 51, 52, 53, 54, 55, 56, 57, 97, 98, 99, 100, 101, 102]⟩) (.int .u8 ((b / 16 : Nat) : Int)) (.int .u8 (((hx (b / 16)).toNat : Nat) : Int)) (fun _ => rfl) rfl (hd 2 rfl) (ixh (by omega) _) (hK _ (Mw.refl _))))
       ·exact og_eq _ rfl (fun f wf hq hd K hK => go_run rfl (wo_mv (.tmp 5) (.int .u8 (b : Int)) (fun _ => rfl) rfl (hK _ (Mw.refl _))))
       ·exact og_eq _ rfl (fun f wf hq hd K hK => go_run rfl (wo_bin (fun x y => do eqGuard .rem 5 (.tmp 42) (.const (.int .u8 (16))) x y; binOp .rem 5 x y) (.tmp 42) (.const (.int .u8 (16))) (.int .u8 (b : Int)) (.int .u8 (16)) (.int .u8 ((b % 16 : Nat) : Int)) (fun _ => rfl) (hd 4 rfl) rfl (rem16 hb2 _ _ _) (hK _ (Mw.refl _))))
       ·exact og_eq _ rfl (fun f wf hq hd K hK => go_run rfl (wo_bin (fun x y => Instr.index 9 x y) (.const (.string ⟨#[48, 49, 50, 51, 52, 53, 54, 55, 56, 57, 97, 98, 99, 100, 101, 102]⟩)) (.tmp 43) (.string ⟨#[48, 49, 50, 51, 52, 53, 54, 55, 56, 57, 97, 98, 99, 100, 101, 102]⟩) (.int .u8 ((b % 16 : Nat) : Int)) (.int .u8 (((hx (b % 16)).toNat : Nat) : Int)) (fun _ => rfl) rfl (hd 5 rfl) (ixh (by omega) _) (hK _ (Mw.refl _))))
      intro kf11 w11 hq hR hne
      replace hown := OB.mw hown hq
      replace M := M.trans hq
      clear hq hR hne
      refine wl_put4 _ (.const (.int .u8 (92))) (.const (.int .u8 (120))) (.tmp 41) (.tmp 44) (.tmp 38) 45 ((92)) ((120)) ((((hx (b / 16)).toNat : Nat) : Int)) ((((hx (b % 16)).toNat : Nat) : Int)) w.heap.size v (34 :: qi ((by8 s).take k)) rfl rfl rfl rfl rfl rfl rfl rfl rfl rfl rfl hown (by omega) (by omega) (by have := UInt8.toNat_lt (hx (b / 16)); omega) (by have := UInt8.toNat_lt (hx (b % 16)); omega) (by have hql := qi_len ((by8 s).take k); simp only [List.length_cons, List.length_take, by8_len] at hql ⊢; omega) M.size ?_
      intro vo12 w12 hOn hMn hAn
      replace M := hMn w rfl M
      replace hown := hOn
      clear hOn hMn hAn
      refine wl_m (.tmp 46) (vo12) ?_
      refine w_nil (xn_blk (xn_blk (xn_then (w_reg ?_))))
      refine wl_mv (.tmp 4) (.int .i64 ((k : Nat) : Int)) (fun _ => rfl) e4 rfl ?_
      refine wl_b .add 3 (.tmp 11) (.const (.int .i64 (1))) (.int .i64 ((k : Nat) : Int)) (.int .i64 (1)) (.int .i64 ((k + 1 : Nat) : Int)) (addk (a := k) (b := 1) rfl (by omega) _ _ _) ?_
      refine wl_m (.tmp 12) (.int .i64 ((k + 1 : Nat) : Int)) ?_
      refine w_nil ?_
      have hqq := qb_2 hb2 (Or.inr hf24p)
      rw [← u8_id (hx (b / 16)), ← u8_id (hx (b % 16))] at hqq
      exact xn_loop (s.size - (k + 1)) (by omega) ⟨k + 1, _, rfl, e0, rfl, rfl, by omega, by rw [← qi_step (by omega) hb (hqq)]; exact hown, M⟩
     | false =>
      have hf24p := of_decide_eq_false hf24
      refine w_reg ?_
      refine wl_m (.tmp 5) (.int .u8 (b : Int)) ?_
      refine wl_b .lss 5 (.tmp 32) (.const (.int .u8 (32))) (.int .u8 (b : Int)) (.int .u8 (32)) (.bool false) (lt5d hf23 _ _ _) ?_
      refine wl_m (.tmp 33) (.bool false) ?_
      refine wl_m (.tmp 5) (.int .u8 (b : Int)) ?_
      refine wl_b .gtr 5 (.tmp 35) (.const (.int .u8 (126))) (.int .u8 (b : Int)) (.int .u8 (126)) (.bool false) (gt5d hf24 _ _ _) ?_
      refine wl_pick (.tmp 34) (.const (.bool true)) (.tmp 36) false (.bool false) (fun _ => rfl) rfl rfl rfl ?_
      refine wl_m (.tmp 37) (.bool false) ?_
      refine w_nil (xn_then (w_condF rfl (w_reg ?_)))
      refine wl_mv (.tmp 3) (v) (fun _ => rfl) e3 rfl ?_
      refine wl_m (.tmp 5) (.int .u8 (b : Int)) ?_
      refine wl_put1 _ (.tmp 17) (.tmp 16) 18 ((b : Int)) w.heap.size v (34 :: qi ((by8 s).take k)) rfl rfl rfl rfl rfl rfl rfl rfl hown (by omega) (by have hql := qi_len ((by8 s).take k); simp only [List.length_cons, List.length_take, by8_len] at hql ⊢; omega) M.size ?_
      intro vo11 w11 hOn hMn hAn
      replace M := hMn w rfl M
      replace hown := hOn
      clear hOn hMn hAn
      refine wl_m (.tmp 19) (vo11) ?_
      refine w_nil (xn_blk (xn_blk (xn_then (w_reg ?_))))
      refine wl_mv (.tmp 4) (.int .i64 ((k : Nat) : Int)) (fun _ => rfl) e4 rfl ?_
      refine wl_b .add 3 (.tmp 11) (.const (.int .i64 (1))) (.int .i64 ((k : Nat) : Int)) (.int .i64 (1)) (.int .i64 ((k + 1 : Nat) : Int)) (addk (a := k) (b := 1) rfl (by omega) _ _ _) ?_
      refine wl_m (.tmp 12) (.int .i64 ((k + 1 : Nat) : Int)) ?_
      refine w_nil ?_
      exact xn_loop (s.size - (k + 1)) (by omega) ⟨k + 1, _, rfl, e0, rfl, rfl, by omega, by rw [← qi_step (by omega) hb (qb_3 hb2 hf21p hf22p hf23p hf24p)]; exact hown, M⟩
 | false =>
  have hf20p := of_decide_eq_false hf20
  refine w_reg ?_
  refine wl_mv (.tmp 4) (.int .i64 ((k : Nat) : Int)) (fun _ => rfl) e4 rfl ?_
  refine wl_mv (.tmp 0) (.string s) (fun _ => rfl) e0 rfl ?_
  refine wl_val (.int .i64 ((s.size : Nat) : Int)) (len_s _ _ s (by exact rfl) _ _ _ _ _ _) rfl ?_
  refine wl_b .lss 3 (.tmp 7) (.tmp 9) (.int .i64 ((k : Nat) : Int)) (.int .i64 ((s.size : Nat) : Int)) (.bool false) (ltN hf20 _ _ _) ?_
  refine w_nil (xn_then (w_condF rfl (w_exit (xx_then (xx_then (xx_blk (xn_then (w_seq (w_reg ?_)))))))))
  refine wl_mv (.tmp 3) (v) (fun _ => rfl) e3 rfl ?_
  refine wl_put1 _ (.const (.int .u8 (34))) (.tmp 47) 48 ((34)) w.heap.size v (34 :: qi ((by8 s).take k)) rfl rfl rfl rfl rfl rfl rfl rfl hown (by omega) (by have hql := qi_len ((by8 s).take k); simp only [List.length_cons, List.length_take, by8_len] at hql ⊢; omega) M.size ?_
  intro vo11 w11 hOn hMn hAn
  replace M := hMn w rfl M
  replace hown := hOn
  clear hOn hMn hAn
  refine wl_un (fun v => convert 62 9 v) (.tmp 49) (vo11) (.string ⟨(34 :: qi ((by8 s).take k) ++ [((34) : Int).toNat.toUInt8]).toArray⟩) (fun _ => rfl) rfl (str_own hown) rfl ?_
  refine wl_m (.tmp 50) (.string ⟨(34 :: qi ((by8 s).take k) ++ [((34) : Int).toNat.toUInt8]).toArray⟩) ?_
  refine w_nil (xn_then (w_ret ?_))
  exact w_ret1 _ (.string ⟨(34 :: qi ((by8 s).take k) ++ [((34) : Int).toNat.toUInt8]).toArray⟩) rfl rfl ⟨by rw [show k = s.size by omega, List.take_of_length_le (by rw [by8_len]; omega)]; rfl, M⟩
end Go.Proofs.YthgknegocfhdbaaDoor.V
/-
 The document's Unquote.
-/
namespace Go.Proofs.YthgknegocfhdbaaDoor.V
open Go.RowKit
theorem subS (s : ByteArray) (h : s.size ≤ 1000000000000) (x y : Operand) (w : World) : (do eqGuard .sub 3 x y (.int .i64 ((s.size : Nat) : Int)) (.int .i64 1); binOp .sub 3 (.int .i64 ((s.size : Nat) : Int)) (.int .i64 1)).run Tryd.prog w = .ok (.int .i64 (((s.size : Nat) : Int) - 1)) w := by
 have e : (do eqGuard .sub 3 x y (.int .i64 ((s.size : Nat) : Int)) (.int .i64 1); binOp .sub 3 (.int .i64 ((s.size : Nat) : Int)) (.int .i64 1)).run Tryd.prog w = .ok (.int .i64 (IntKind.i64.wrap (((s.size : Nat) : Int) - 1))) w := by kernel_rfl
 have h3 : IntKind.i64.wrap (((s.size : Nat) : Int) - 1) = ((s.size : Nat) : Int) - 1 := by rw [IntKind.wrap_i64]; omega
 rw [e, h3]
theorem ltS {s : ByteArray} {a : Nat} {r : Bool} (ha : 1 ≤ a) (h : decide (a < s.size - 1) = r) (x y : Operand) (w : World) : (do eqGuard .lss 3 x y (.int .i64 ((a : Nat) : Int)) (.int .i64 (((s.size : Nat) : Int) - 1)); binOp .lss 3 (.int .i64 ((a : Nat) : Int)) (.int .i64 (((s.size : Nat) : Int) - 1))).run Tryd.prog w = .ok (.bool r) w := by
 refine lt3_run (r := r) ?_ _ _ _
 rw [← h, decide_eq_decide]; omega
theorem du_len1 (s : ByteArray) : (du s 1).length ≤ s.size := by
 rcases du_len s _ 1 (Nat.le_refl _) with h | h
 ·omega
 ·rw [h]; exact Nat.zero_le _
theorem dh2_rg (a b : Int) : 0 ≤ dh2 a b ∧ dh2 a b ≤ 255 := by unfold dh2; omega
theorem ne9g {a b : ByteArray} {r : Bool} (h : (a.toList == b.toList) = r) (x y : Operand) (w : World) : (do eqGuard .neq 9 x y (.string a) (.string b); binOp .neq 9 (.string a) (.string b)).run Tryd.prog w = .ok (.bool (!r)) w := by
 subst h; kernel_rfl
theorem ne9q {a : ByteArray} {s : ByteArray} {r : Bool} (h : decide (by8 a = by8 s) = r) (x y : Operand) (w : World) : (do eqGuard .neq 9 x y (.string a) (.string s); binOp .neq 9 (.string a) (.string s)).run Tryd.prog w = .ok (.bool (!r)) w := by
 refine ne9g (r := r) ?_ _ _ _
 rw [← h, Lib.toList_data, Lib.toList_data, Bool.eq_iff_iff, beq_iff_eq, decide_eq_true_iff]
theorem runquote_n (s : ByteArray) (w : World) (hs : s.size ≤ 1000000000000) : Calls Tryd.prog 21 #[.string s] w fun e w' => e = .returned (.tuple #[.string (unq s).1, .bool (unq s).2]) ∧ Mw w w' := by
 have hrq : ∀ w, Calls Tryd.prog 23 #[.string ⟨(du s 1).toArray⟩] w fun e w' => e = .returned (.string ⟨(qt (du s 1)).toArray⟩) ∧ Mw w w' := fun w => rquote_n ⟨(du s 1).toArray⟩ w (by rw [sz_l]; have := du_len1 s; omega)
 refine w_enter 74 Tryd.func21 Tryd.ntmps21 rfl rfl ?_
 have M : Mw w w := Mw.refl _
 refine w_seq (w_reg ?_)
 refine wl_m (.const (.string ⟨#[]⟩)) (.string ⟨#[]⟩) ?_
 refine wl_m (.const (.bool false)) (.bool false) ?_
 refine w_nil (xn_then (w_seq (w_reg ?_)))
 refine wl_m (.const (.slice none 0 0)) (.slice none 0 0) ?_
 refine w_nil (xn_then (w_seq (w_seq (w_reg ?_))))
 refine wl_m (.const (.int .i64 (1))) (.int .i64 (1)) ?_
 refine w_nil (xn_then (w_block ?_))
 refine w_loop (fun m l w1 => ∃ (k : Nat) (v : Value) (L : List UInt8), m = s.size + 8 - k ∧ look l 0 = .string s ∧ look l 4 = v ∧ look l 5 = .int .i64 ((k : Nat) : Int) ∧ 1 ≤ k ∧ k ≤ s.size + 4 ∧ L.length ≤ k ∧ OB w.heap.size v L w1 ∧ L ++ du s k = du s 1 ∧ Mw w w1) _ ⟨1, .slice none 0 0, [], rfl, rfl, rfl, rfl, Nat.le_refl _, by omega, Nat.zero_le _, OB.nil _ _, rfl, M⟩ ?_
 clear M
 rintro m l wl ⟨k, v, L, rfl, e0, e4, e5, hk1, hk, hLk, hown, hdu, M⟩
 refine w_seq (w_seq ?_)
 cases hf20 : decide (k < s.size - 1) with
 | true =>
  have hf20p := of_decide_eq_true hf20
  refine w_reg ?_
  refine wl_mv (.tmp 5) (.int .i64 ((k : Nat) : Int)) (fun _ => rfl) e5 rfl ?_
  refine wl_mv (.tmp 0) (.string s) (fun _ => rfl) e0 rfl ?_
  refine wl_val (.int .i64 ((s.size : Nat) : Int)) (len_s _ _ s (by exact rfl) _ _ _ _ _ _) rfl ?_
  refine wl_b .sub 3 (.tmp 9) (.const (.int .i64 (1))) (.int .i64 ((s.size : Nat) : Int)) (.int .i64 (1)) (.int .i64 (((s.size : Nat) : Int) - 1)) (subS s hs _ _ _) ?_
  refine wl_b .lss 3 (.tmp 7) (.tmp 10) (.int .i64 ((k : Nat) : Int)) (.int .i64 (((s.size : Nat) : Int) - 1)) (.bool true) (ltS (by omega) hf20 _ _ _) ?_
  refine w_nil (xn_then (w_condT rfl (w_skip (xn_then (w_seq (w_block (w_seq (w_reg ?_))))))))
  refine wl_mv (.tmp 0) (.string s) (fun _ => rfl) e0 rfl ?_
  refine wl_mv (.tmp 5) (.int .i64 ((k : Nat) : Int)) (fun _ => rfl) e5 rfl ?_
  refine wl_bin (fun x y => Instr.index 9 x y) (.tmp 14) (.tmp 15) (.string s) (.int .i64 ((k : Nat) : Int)) (.int .u8 (bt s (k))) (fun _ => rfl) rfl rfl (idx_b (k := k) (by omega) _) rfl ?_
  refine wl_m (.tmp 16) (.int .u8 (bt s (k))) ?_
  refine w_nil (xn_then (w_seq (w_seq ?_)))
  cases hf21 : (bt s (k) == 92) with
  | true =>
   cases hf22 : decide (k + 1 < s.size - 1) with
   | true =>
    have hf22p := of_decide_eq_true hf22
    cases hf23 : (bt s (k + 1) == 120) with
    | true =>
     refine w_reg ?_
     refine wl_m (.tmp 6) (.int .u8 (bt s (k))) ?_
     refine wl_b .eql 5 (.tmp 17) (.const (.int .u8 (92))) (.int .u8 (bt s (k))) (.int .u8 (92)) (.bool true) (eq5r hf21 _ _ _) ?_
     refine wl_m (.tmp 18) (.bool true) ?_
     refine wl_mv (.tmp 5) (.int .i64 ((k : Nat) : Int)) (fun _ => rfl) e5 rfl ?_
     refine wl_b .add 3 (.tmp 20) (.const (.int .i64 (1))) (.int .i64 ((k : Nat) : Int)) (.int .i64 (1)) (.int .i64 ((k + 1 : Nat) : Int)) (addk (a := k) (b := 1) rfl (by omega) _ _ _) ?_
     refine wl_mv (.tmp 0) (.string s) (fun _ => rfl) e0 rfl ?_
     refine wl_val (.int .i64 ((s.size : Nat) : Int)) (len_s _ _ s (by exact rfl) _ _ _ _ _ _) rfl ?_
     refine wl_b .sub 3 (.tmp 23) (.const (.int .i64 (1))) (.int .i64 ((s.size : Nat) : Int)) (.int .i64 (1)) (.int .i64 (((s.size : Nat) : Int) - 1)) (subS s hs _ _ _) ?_
     refine wl_b .lss 3 (.tmp 21) (.tmp 24) (.int .i64 ((k + 1 : Nat) : Int)) (.int .i64 (((s.size : Nat) : Int) - 1)) (.bool true) (ltS (by omega) hf22 _ _ _) ?_
     refine wl_pick (.tmp 19) (.tmp 25) (.const (.bool false)) true (.bool true) (fun _ => rfl) rfl rfl rfl ?_
     refine wl_m (.tmp 26) (.bool true) ?_
     refine wl_mv (.tmp 0) (.string s) (fun _ => rfl) e0 rfl ?_
     refine wl_mv (.tmp 5) (.int .i64 ((k : Nat) : Int)) (fun _ => rfl) e5 rfl ?_
     refine wl_b .add 3 (.tmp 29) (.const (.int .i64 (1))) (.int .i64 ((k : Nat) : Int)) (.int .i64 (1)) (.int .i64 ((k + 1 : Nat) : Int)) (addk (a := k) (b := 1) rfl (by omega) _ _ _) ?_
     refine wl_bin (fun x y => Instr.index 9 x y) (.tmp 28) (.tmp 30) (.string s) (.int .i64 ((k + 1 : Nat) : Int)) (.int .u8 (bt s (k + 1))) (fun _ => rfl) rfl rfl (idx_b (k := k + 1) (by omega) _) rfl ?_
     refine wl_b .neq 5 (.tmp 31) (.const (.int .u8 (120))) (.int .u8 (bt s (k + 1))) (.int .u8 (120)) (.bool false) (ne5r hf23 _ _ _) ?_
     refine wl_pick (.tmp 27) (.tmp 32) (.const (.bool false)) true (.bool false) (fun _ => rfl) rfl rfl rfl ?_
     refine w_nil (xn_then (w_condF rfl (w_seq ?_)))
     cases hf24 : decide (k + 3 < s.size - 1) with
     | true =>
      have hf24p := of_decide_eq_true hf24
      refine w_reg ?_
      refine wl_m (.tmp 6) (.int .u8 (bt s (k))) ?_
      refine wl_b .eql 5 (.tmp 39) (.const (.int .u8 (92))) (.int .u8 (bt s (k))) (.int .u8 (92)) (.bool true) (eq5r hf21 _ _ _) ?_
      refine wl_m (.tmp 40) (.bool true) ?_
      refine wl_mv (.tmp 5) (.int .i64 ((k : Nat) : Int)) (fun _ => rfl) e5 rfl ?_
      refine wl_b .add 3 (.tmp 42) (.const (.int .i64 (3))) (.int .i64 ((k : Nat) : Int)) (.int .i64 (3)) (.int .i64 ((k + 3 : Nat) : Int)) (addk (a := k) (b := 3) rfl (by omega) _ _ _) ?_
      refine wl_mv (.tmp 0) (.string s) (fun _ => rfl) e0 rfl ?_
      refine wl_val (.int .i64 ((s.size : Nat) : Int)) (len_s _ _ s (by exact rfl) _ _ _ _ _ _) rfl ?_
      refine wl_b .sub 3 (.tmp 45) (.const (.int .i64 (1))) (.int .i64 ((s.size : Nat) : Int)) (.int .i64 (1)) (.int .i64 (((s.size : Nat) : Int) - 1)) (subS s hs _ _ _) ?_
      refine wl_b .lss 3 (.tmp 43) (.tmp 46) (.int .i64 ((k + 3 : Nat) : Int)) (.int .i64 (((s.size : Nat) : Int) - 1)) (.bool true) (ltS (by omega) hf24 _ _ _) ?_
      refine wl_pick (.tmp 41) (.tmp 47) (.const (.bool false)) true (.bool true) (fun _ => rfl) rfl rfl rfl ?_
      refine w_nil (xn_then (w_condT rfl (w_seq ?_)))
      refine w_any 11 [.inl (.string s), .inl (.int .i64 ((k : Nat) : Int)), .inl (.int .i64 ((k + 2 : Nat) : Int)), .inl (.int .u8 (bt s (k + 2))), .inl (.int .u8 (dhx (bt s (k + 2)))), .inl (.int .u8 (16 * dhx (bt s (k + 2)) % 256)), .inl (.string s), .inl (.int .i64 ((k : Nat) : Int)), .inl (.int .i64 ((k + 3 : Nat) : Int)), .inl (.int .u8 (bt s (k + 3))), .inl (.int .u8 (dhx (bt s (k + 3))))] [] (by kernel_rfl) (by kernel_rfl) (by kernel_rfl) (by kernel_rfl) rfl (by kernel_rfl) (by kernel_rfl) late_nil ?_ ?_ ?_
      ·exact Ds.none rfl
      ·refine ea_cons ?_ (ea_cons ?_ (ea_cons ?_ (ea_cons ?_ (ea_cons ?_ (ea_cons ?_ (ea_cons ?_ (ea_cons ?_ (ea_cons ?_ (ea_cons ?_ (ea_cons ?_ (ea_nil)))))))))))
       ·exact og_eq _ rfl (fun f wf hq hd K hK => go_run rfl (wo_mv (.tmp 0) (.string s) (fun _ => rfl) e0 (hK _ (Mw.refl _))))
       ·exact og_eq _ rfl (fun f wf hq hd K hK => go_run rfl (wo_mv (.tmp 5) (.int .i64 ((k : Nat) : Int)) (fun _ => rfl) e5 (hK _ (Mw.refl _))))
       ·exact og_eq _ rfl (fun f wf hq hd K hK => go_run rfl (wo_bin (fun x y => do eqGuard .add 3 (.tmp 50) (.const (.int .i64 (2))) x y; binOp .add 3 x y) (.tmp 50) (.const (.int .i64 (2))) (.int .i64 ((k : Nat) : Int)) (.int .i64 (2)) (.int .i64 ((k + 2 : Nat) : Int)) (fun _ => rfl) (hd 1 rfl) rfl (addk (a := k) (b := 2) rfl (by omega) _ _ _) (hK _ (Mw.refl _))))
       ·exact og_eq _ rfl (fun f wf hq hd K hK => go_run rfl (wo_bin (fun x y => Instr.index 9 x y) (.tmp 49) (.tmp 51) (.string s) (.int .i64 ((k + 2 : Nat) : Int)) (.int .u8 (bt s (k + 2))) (fun _ => rfl) (hd 0 rfl) (hd 2 rfl) (idx_b (k := k + 2) (by omega) _) (hK _ (Mw.refl _))))
       ·exact og_eq _ rfl (fun f wf hq hd K hK => go_run rfl (wo_call 42 [(.tmp 52)] _ [.int .u8 (bt s (k + 2))] (.int .u8 (dhx (bt s (k + 2)))) rfl (li1 (hd 3 rfl)) (fun _ _ => by kernel_rfl) (rhex_n (bt s (k + 2)) _ (bt_rg s (k + 2))) hK))
       ·exact og_eq _ rfl (fun f wf hq hd K hK => go_run rfl (wo_bin (fun x y => do eqGuard .mul 5 (.const (.int .u8 (16))) (.tmp 53) x y; binOp .mul 5 x y) (.const (.int .u8 (16))) (.tmp 53) (.int .u8 (16)) (.int .u8 (dhx (bt s (k + 2)))) (.int .u8 (16 * dhx (bt s (k + 2)) % 256)) (fun _ => rfl) rfl (hd 4 rfl) (mul5 (by rw [IntKind.wrap_u8]) _ _ _) (hK _ (Mw.refl _))))
       ·exact og_eq _ rfl (fun f wf hq hd K hK => go_run rfl (wo_mv (.tmp 0) (.string s) (fun _ => rfl) e0 (hK _ (Mw.refl _))))
       ·exact og_eq _ rfl (fun f wf hq hd K hK => go_run rfl (wo_mv (.tmp 5) (.int .i64 ((k : Nat) : Int)) (fun _ => rfl) e5 (hK _ (Mw.refl _))))
       ·exact og_eq _ rfl (fun f wf hq hd K hK => go_run rfl (wo_bin (fun x y => do eqGuard .add 3 (.tmp 56) (.const (.int .i64 (3))) x y; binOp .add 3 x y) (.tmp 56) (.const (.int .i64 (3))) (.int .i64 ((k : Nat) : Int)) (.int .i64 (3)) (.int .i64 ((k + 3 : Nat) : Int)) (fun _ => rfl) (hd 7 rfl) rfl (addk (a := k) (b := 3) rfl (by omega) _ _ _) (hK _ (Mw.refl _))))
       ·exact og_eq _ rfl (fun f wf hq hd K hK => go_run rfl (wo_bin (fun x y => Instr.index 9 x y) (.tmp 55) (.tmp 57) (.string s) (.int .i64 ((k + 3 : Nat) : Int)) (.int .u8 (bt s (k + 3))) (fun _ => rfl) (hd 6 rfl) (hd 8 rfl) (idx_b (k := k + 3) (by omega) _) (hK _ (Mw.refl _))))
       ·exact og_eq _ rfl (fun f wf hq hd K hK => go_run rfl (wo_call 42 [(.tmp 58)] _ [.int .u8 (bt s (k + 3))] (.int .u8 (dhx (bt s (k + 3)))) rfl (li1 (hd 9 rfl)) (fun _ _ => by kernel_rfl) (rhex_n (bt s (k + 3)) _ (bt_rg s (k + 3))) hK))
      intro kf11 w11 hq hR hne
      replace hown := OB.mw hown hq
      replace M := M.trans hq
      clear hq hR hne
      refine wl_b .add 5 (.tmp 54) (.tmp 59) (.int .u8 (16 * dhx (bt s (k + 2)) % 256)) (.int .u8 (dhx (bt s (k + 3)))) (.int .u8 (dh2 (bt s (k + 2)) (bt s (k + 3)))) (add5 (by rw [IntKind.wrap_u8]; rfl) _ _ _) ?_
      refine wl_m (.tmp 60) (.int .u8 (dh2 (bt s (k + 2)) (bt s (k + 3)))) ?_
      refine w_nil (xn_then (w_reg ?_))
      refine wl_mv (.tmp 5) (.int .i64 ((k : Nat) : Int)) (fun _ => rfl) e5 rfl ?_
      refine wl_b .add 3 (.tmp 61) (.const (.int .i64 (3))) (.int .i64 ((k : Nat) : Int)) (.int .i64 (3)) (.int .i64 ((k + 3 : Nat) : Int)) (addk (a := k) (b := 3) rfl (by omega) _ _ _) ?_
      refine wl_m (.tmp 62) (.int .i64 ((k + 3 : Nat) : Int)) ?_
      refine w_nil (xn_then (w_reg ?_))
      refine wl_mv (.tmp 4) (v) (fun _ => rfl) e4 rfl ?_
      refine wl_m (.tmp 6) (.int .u8 (dh2 (bt s (k + 2)) (bt s (k + 3)))) ?_
      refine wl_put1 _ (.tmp 64) (.tmp 63) 65 ((dh2 (bt s (k + 2)) (bt s (k + 3)))) w.heap.size v (L) rfl rfl rfl rfl rfl rfl rfl rfl hown (dh2_rg _ _) (by omega) M.size ?_
      intro vo12 w12 hOn hMn hAn
      replace M := hMn w rfl M
      replace hown := hOn
      clear hOn hMn hAn
      refine wl_m (.tmp 66) (vo12) ?_
      refine w_nil (xn_blk (xn_then (w_reg ?_)))
      refine wl_m (.tmp 5) (.int .i64 ((k + 3 : Nat) : Int)) ?_
      refine wl_b .add 3 (.tmp 12) (.const (.int .i64 (1))) (.int .i64 ((k + 3 : Nat) : Int)) (.int .i64 (1)) (.int .i64 ((k + 4 : Nat) : Int)) (addk (a := k + 3) (b := 1) (c := k + 4) rfl (by omega) _ _ _) ?_
      refine wl_m (.tmp 13) (.int .i64 ((k + 4 : Nat) : Int)) ?_
      refine w_nil ?_
      rw [du_2 hf20p (fun h => by rw [hf23] at h; cases h.2.2) ⟨hf21, hf24p⟩] at hdu
      exact xn_loop (s.size + 8 - (k + 4)) (by omega) ⟨k + 4, _, _, rfl, e0, rfl, rfl, by omega, by omega, by rw [List.length_append]; simp only [List.length_singleton]; omega, hown, by rw [List.append_assoc]; exact hdu, M⟩
     | false =>
      have hf24p := of_decide_eq_false hf24
      refine w_reg ?_
      refine wl_m (.tmp 6) (.int .u8 (bt s (k))) ?_
      refine wl_b .eql 5 (.tmp 39) (.const (.int .u8 (92))) (.int .u8 (bt s (k))) (.int .u8 (92)) (.bool true) (eq5r hf21 _ _ _) ?_
      refine wl_m (.tmp 40) (.bool true) ?_
      refine wl_mv (.tmp 5) (.int .i64 ((k : Nat) : Int)) (fun _ => rfl) e5 rfl ?_
      refine wl_b .add 3 (.tmp 42) (.const (.int .i64 (3))) (.int .i64 ((k : Nat) : Int)) (.int .i64 (3)) (.int .i64 ((k + 3 : Nat) : Int)) (addk (a := k) (b := 3) rfl (by omega) _ _ _) ?_
      refine wl_mv (.tmp 0) (.string s) (fun _ => rfl) e0 rfl ?_
      refine wl_val (.int .i64 ((s.size : Nat) : Int)) (len_s _ _ s (by exact rfl) _ _ _ _ _ _) rfl ?_
      refine wl_b .sub 3 (.tmp 45) (.const (.int .i64 (1))) (.int .i64 ((s.size : Nat) : Int)) (.int .i64 (1)) (.int .i64 (((s.size : Nat) : Int) - 1)) (subS s hs _ _ _) ?_
      refine wl_b .lss 3 (.tmp 43) (.tmp 46) (.int .i64 ((k + 3 : Nat) : Int)) (.int .i64 (((s.size : Nat) : Int) - 1)) (.bool false) (ltS (by omega) hf24 _ _ _) ?_
      refine wl_pick (.tmp 41) (.tmp 47) (.const (.bool false)) true (.bool false) (fun _ => rfl) rfl rfl rfl ?_
      refine w_nil (xn_then (w_condF rfl (w_skip (xn_then (w_reg ?_)))))
      refine wl_mv (.tmp 4) (v) (fun _ => rfl) e4 rfl ?_
      refine wl_m (.tmp 6) (.int .u8 (bt s (k))) ?_
      refine wl_put1 _ (.tmp 64) (.tmp 63) 65 ((bt s (k))) w.heap.size v (L) rfl rfl rfl rfl rfl rfl rfl rfl hown (bt_rg _ _) (by omega) M.size ?_
      intro vo11 w11 hOn hMn hAn
      replace M := hMn w rfl M
      replace hown := hOn
      clear hOn hMn hAn
      refine wl_m (.tmp 66) (vo11) ?_
      refine w_nil (xn_blk (xn_then (w_reg ?_)))
      refine wl_mv (.tmp 5) (.int .i64 ((k : Nat) : Int)) (fun _ => rfl) e5 rfl ?_
      refine wl_b .add 3 (.tmp 12) (.const (.int .i64 (1))) (.int .i64 ((k : Nat) : Int)) (.int .i64 (1)) (.int .i64 ((k + 1 : Nat) : Int)) (addk (a := k) (b := 1) rfl (by omega) _ _ _) ?_
      refine wl_m (.tmp 13) (.int .i64 ((k + 1 : Nat) : Int)) ?_
      refine w_nil ?_
      rw [du_3 hf20p (fun h => by rw [hf23] at h; cases h.2.2) (fun h => hf24p h.2)] at hdu
      exact xn_loop (s.size + 8 - (k + 1)) (by omega) ⟨k + 1, _, _, rfl, e0, rfl, rfl, by omega, by omega, by rw [List.length_append]; simp only [List.length_singleton]; omega, hown, by rw [List.append_assoc]; exact hdu, M⟩
    | false =>
     refine w_reg ?_
     refine wl_m (.tmp 6) (.int .u8 (bt s (k))) ?_
     refine wl_b .eql 5 (.tmp 17) (.const (.int .u8 (92))) (.int .u8 (bt s (k))) (.int .u8 (92)) (.bool true) (eq5r hf21 _ _ _) ?_
     refine wl_m (.tmp 18) (.bool true) ?_
     refine wl_mv (.tmp 5) (.int .i64 ((k : Nat) : Int)) (fun _ => rfl) e5 rfl ?_
     refine wl_b .add 3 (.tmp 20) (.const (.int .i64 (1))) (.int .i64 ((k : Nat) : Int)) (.int .i64 (1)) (.int .i64 ((k + 1 : Nat) : Int)) (addk (a := k) (b := 1) rfl (by omega) _ _ _) ?_
     refine wl_mv (.tmp 0) (.string s) (fun _ => rfl) e0 rfl ?_
     refine wl_val (.int .i64 ((s.size : Nat) : Int)) (len_s _ _ s (by exact rfl) _ _ _ _ _ _) rfl ?_
     refine wl_b .sub 3 (.tmp 23) (.const (.int .i64 (1))) (.int .i64 ((s.size : Nat) : Int)) (.int .i64 (1)) (.int .i64 (((s.size : Nat) : Int) - 1)) (subS s hs _ _ _) ?_
     refine wl_b .lss 3 (.tmp 21) (.tmp 24) (.int .i64 ((k + 1 : Nat) : Int)) (.int .i64 (((s.size : Nat) : Int) - 1)) (.bool true) (ltS (by omega) hf22 _ _ _) ?_
     refine wl_pick (.tmp 19) (.tmp 25) (.const (.bool false)) true (.bool true) (fun _ => rfl) rfl rfl rfl ?_
     refine wl_m (.tmp 26) (.bool true) ?_
     refine wl_mv (.tmp 0) (.string s) (fun _ => rfl) e0 rfl ?_
     refine wl_mv (.tmp 5) (.int .i64 ((k : Nat) : Int)) (fun _ => rfl) e5 rfl ?_
     refine wl_b .add 3 (.tmp 29) (.const (.int .i64 (1))) (.int .i64 ((k : Nat) : Int)) (.int .i64 (1)) (.int .i64 ((k + 1 : Nat) : Int)) (addk (a := k) (b := 1) rfl (by omega) _ _ _) ?_
     refine wl_bin (fun x y => Instr.index 9 x y) (.tmp 28) (.tmp 30) (.string s) (.int .i64 ((k + 1 : Nat) : Int)) (.int .u8 (bt s (k + 1))) (fun _ => rfl) rfl rfl (idx_b (k := k + 1) (by omega) _) rfl ?_
     refine wl_b .neq 5 (.tmp 31) (.const (.int .u8 (120))) (.int .u8 (bt s (k + 1))) (.int .u8 (120)) (.bool true) (ne5r hf23 _ _ _) ?_
     refine wl_pick (.tmp 27) (.tmp 32) (.const (.bool false)) true (.bool true) (fun _ => rfl) rfl rfl rfl ?_
     refine w_nil (xn_then (w_condT rfl (w_seq (w_reg ?_))))
     refine wl_mv (.tmp 5) (.int .i64 ((k : Nat) : Int)) (fun _ => rfl) e5 rfl ?_
     refine wl_b .add 3 (.tmp 34) (.const (.int .i64 (1))) (.int .i64 ((k : Nat) : Int)) (.int .i64 (1)) (.int .i64 ((k + 1 : Nat) : Int)) (addk (a := k) (b := 1) rfl (by omega) _ _ _) ?_
     refine wl_m (.tmp 35) (.int .i64 ((k + 1 : Nat) : Int)) ?_
     refine w_nil (xn_then (w_reg ?_))
     refine wl_mv (.tmp 0) (.string s) (fun _ => rfl) e0 rfl ?_
     refine wl_m (.tmp 5) (.int .i64 ((k + 1 : Nat) : Int)) ?_
     refine wl_bin (fun x y => Instr.index 9 x y) (.tmp 36) (.tmp 37) (.string s) (.int .i64 ((k + 1 : Nat) : Int)) (.int .u8 (bt s (k + 1))) (fun _ => rfl) rfl rfl (idx_b (k := k + 1) (by omega) _) rfl ?_
     refine wl_m (.tmp 38) (.int .u8 (bt s (k + 1))) ?_
     refine w_nil (xn_then (w_reg ?_))
     refine wl_mv (.tmp 4) (v) (fun _ => rfl) e4 rfl ?_
     refine wl_m (.tmp 6) (.int .u8 (bt s (k + 1))) ?_
     refine wl_put1 _ (.tmp 64) (.tmp 63) 65 ((bt s (k + 1))) w.heap.size v (L) rfl rfl rfl rfl rfl rfl rfl rfl hown (bt_rg _ _) (by omega) M.size ?_
     intro vo11 w11 hOn hMn hAn
     replace M := hMn w rfl M
     replace hown := hOn
     clear hOn hMn hAn
     refine wl_m (.tmp 66) (vo11) ?_
     refine w_nil (xn_blk (xn_then (w_reg ?_)))
     refine wl_m (.tmp 5) (.int .i64 ((k + 1 : Nat) : Int)) ?_
     refine wl_b .add 3 (.tmp 12) (.const (.int .i64 (1))) (.int .i64 ((k + 1 : Nat) : Int)) (.int .i64 (1)) (.int .i64 ((k + 2 : Nat) : Int)) (addk (a := k + 1) (b := 1) (c := k + 2) rfl (by omega) _ _ _) ?_
     refine wl_m (.tmp 13) (.int .i64 ((k + 2 : Nat) : Int)) ?_
     refine w_nil ?_
     rw [du_1 hf20p ⟨hf21, hf22p, hf23⟩] at hdu
     exact xn_loop (s.size + 8 - (k + 2)) (by omega) ⟨k + 2, _, _, rfl, e0, rfl, rfl, by omega, by omega, by rw [List.length_append]; simp only [List.length_singleton]; omega, hown, by rw [List.append_assoc]; exact hdu, M⟩
   | false =>
    have hf22p := of_decide_eq_false hf22
    refine w_reg ?_
    refine wl_m (.tmp 6) (.int .u8 (bt s (k))) ?_
    refine wl_b .eql 5 (.tmp 17) (.const (.int .u8 (92))) (.int .u8 (bt s (k))) (.int .u8 (92)) (.bool true) (eq5r hf21 _ _ _) ?_
    refine wl_m (.tmp 18) (.bool true) ?_
    refine wl_mv (.tmp 5) (.int .i64 ((k : Nat) : Int)) (fun _ => rfl) e5 rfl ?_
    refine wl_b .add 3 (.tmp 20) (.const (.int .i64 (1))) (.int .i64 ((k : Nat) : Int)) (.int .i64 (1)) (.int .i64 ((k + 1 : Nat) : Int)) (addk (a := k) (b := 1) rfl (by omega) _ _ _) ?_
    refine wl_mv (.tmp 0) (.string s) (fun _ => rfl) e0 rfl ?_
    refine wl_val (.int .i64 ((s.size : Nat) : Int)) (len_s _ _ s (by exact rfl) _ _ _ _ _ _) rfl ?_
    refine wl_b .sub 3 (.tmp 23) (.const (.int .i64 (1))) (.int .i64 ((s.size : Nat) : Int)) (.int .i64 (1)) (.int .i64 (((s.size : Nat) : Int) - 1)) (subS s hs _ _ _) ?_
    refine wl_b .lss 3 (.tmp 21) (.tmp 24) (.int .i64 ((k + 1 : Nat) : Int)) (.int .i64 (((s.size : Nat) : Int) - 1)) (.bool false) (ltS (by omega) hf22 _ _ _) ?_
    refine wl_pick (.tmp 19) (.tmp 25) (.const (.bool false)) true (.bool false) (fun _ => rfl) rfl rfl rfl ?_
    refine wl_m (.tmp 26) (.bool false) ?_
    refine wl_skip rfl (wl_skip rfl (wl_skip rfl (wl_skip rfl (wl_skip rfl ?_))))
    refine wl_pick (.tmp 27) (.tmp 32) (.const (.bool false)) false (.bool false) (fun _ => rfl) rfl rfl rfl ?_
    refine w_nil (xn_then (w_condF rfl (w_seq ?_)))
    cases hf23 : decide (k + 3 < s.size - 1) with
    | true =>
     have hf23p := of_decide_eq_true hf23
     refine w_reg ?_
     refine wl_m (.tmp 6) (.int .u8 (bt s (k))) ?_
     refine wl_b .eql 5 (.tmp 39) (.const (.int .u8 (92))) (.int .u8 (bt s (k))) (.int .u8 (92)) (.bool true) (eq5r hf21 _ _ _) ?_
     refine wl_m (.tmp 40) (.bool true) ?_
     refine wl_mv (.tmp 5) (.int .i64 ((k : Nat) : Int)) (fun _ => rfl) e5 rfl ?_
     refine wl_b .add 3 (.tmp 42) (.const (.int .i64 (3))) (.int .i64 ((k : Nat) : Int)) (.int .i64 (3)) (.int .i64 ((k + 3 : Nat) : Int)) (addk (a := k) (b := 3) rfl (by omega) _ _ _) ?_
     refine wl_mv (.tmp 0) (.string s) (fun _ => rfl) e0 rfl ?_
     refine wl_val (.int .i64 ((s.size : Nat) : Int)) (len_s _ _ s (by exact rfl) _ _ _ _ _ _) rfl ?_
     refine wl_b .sub 3 (.tmp 45) (.const (.int .i64 (1))) (.int .i64 ((s.size : Nat) : Int)) (.int .i64 (1)) (.int .i64 (((s.size : Nat) : Int) - 1)) (subS s hs _ _ _) ?_
     refine wl_b .lss 3 (.tmp 43) (.tmp 46) (.int .i64 ((k + 3 : Nat) : Int)) (.int .i64 (((s.size : Nat) : Int) - 1)) (.bool true) (ltS (by omega) hf23 _ _ _) ?_
     refine wl_pick (.tmp 41) (.tmp 47) (.const (.bool false)) true (.bool true) (fun _ => rfl) rfl rfl rfl ?_
     refine w_nil (xn_then (w_condT rfl (w_seq ?_)))
     refine w_any 11 [.inl (.string s), .inl (.int .i64 ((k : Nat) : Int)), .inl (.int .i64 ((k + 2 : Nat) : Int)), .inl (.int .u8 (bt s (k + 2))), .inl (.int .u8 (dhx (bt s (k + 2)))), .inl (.int .u8 (16 * dhx (bt s (k + 2)) % 256)), .inl (.string s), .inl (.int .i64 ((k : Nat) : Int)), .inl (.int .i64 ((k + 3 : Nat) : Int)), .inl (.int .u8 (bt s (k + 3))), .inl (.int .u8 (dhx (bt s (k + 3))))] [] (by kernel_rfl) (by kernel_rfl) (by kernel_rfl) (by kernel_rfl) rfl (by kernel_rfl) (by kernel_rfl) late_nil ?_ ?_ ?_
     ·exact Ds.none rfl
     ·refine ea_cons ?_ (ea_cons ?_ (ea_cons ?_ (ea_cons ?_ (ea_cons ?_ (ea_cons ?_ (ea_cons ?_ (ea_cons ?_ (ea_cons ?_ (ea_cons ?_ (ea_cons ?_ (ea_nil)))))))))))
      ·exact og_eq _ rfl (fun f wf hq hd K hK => go_run rfl (wo_mv (.tmp 0) (.string s) (fun _ => rfl) e0 (hK _ (Mw.refl _))))
      ·exact og_eq _ rfl (fun f wf hq hd K hK => go_run rfl (wo_mv (.tmp 5) (.int .i64 ((k : Nat) : Int)) (fun _ => rfl) e5 (hK _ (Mw.refl _))))
      ·exact og_eq _ rfl (fun f wf hq hd K hK => go_run rfl (wo_bin (fun x y => do eqGuard .add 3 (.tmp 50) (.const (.int .i64 (2))) x y; binOp .add 3 x y) (.tmp 50) (.const (.int .i64 (2))) (.int .i64 ((k : Nat) : Int)) (.int .i64 (2)) (.int .i64 ((k + 2 : Nat) : Int)) (fun _ => rfl) (hd 1 rfl) rfl (addk (a := k) (b := 2) rfl (by omega) _ _ _) (hK _ (Mw.refl _))))
      ·exact og_eq _ rfl (fun f wf hq hd K hK => go_run rfl (wo_bin (fun x y => Instr.index 9 x y) (.tmp 49) (.tmp 51) (.string s) (.int .i64 ((k + 2 : Nat) : Int)) (.int .u8 (bt s (k + 2))) (fun _ => rfl) (hd 0 rfl) (hd 2 rfl) (idx_b (k := k + 2) (by omega) _) (hK _ (Mw.refl _))))
      ·exact og_eq _ rfl (fun f wf hq hd K hK => go_run rfl (wo_call 42 [(.tmp 52)] _ [.int .u8 (bt s (k + 2))] (.int .u8 (dhx (bt s (k + 2)))) rfl (li1 (hd 3 rfl)) (fun _ _ => by kernel_rfl) (rhex_n (bt s (k + 2)) _ (bt_rg s (k + 2))) hK))
      ·exact og_eq _ rfl (fun f wf hq hd K hK => go_run rfl (wo_bin (fun x y => do eqGuard .mul 5 (.const (.int .u8 (16))) (.tmp 53) x y; binOp .mul 5 x y) (.const (.int .u8 (16))) (.tmp 53) (.int .u8 (16)) (.int .u8 (dhx (bt s (k + 2)))) (.int .u8 (16 * dhx (bt s (k + 2)) % 256)) (fun _ => rfl) rfl (hd 4 rfl) (mul5 (by rw [IntKind.wrap_u8]) _ _ _) (hK _ (Mw.refl _))))
      ·exact og_eq _ rfl (fun f wf hq hd K hK => go_run rfl (wo_mv (.tmp 0) (.string s) (fun _ => rfl) e0 (hK _ (Mw.refl _))))
      ·exact og_eq _ rfl (fun f wf hq hd K hK => go_run rfl (wo_mv (.tmp 5) (.int .i64 ((k : Nat) : Int)) (fun _ => rfl) e5 (hK _ (Mw.refl _))))
      ·exact og_eq _ rfl (fun f wf hq hd K hK => go_run rfl (wo_bin (fun x y => do eqGuard .add 3 (.tmp 56) (.const (.int .i64 (3))) x y; binOp .add 3 x y) (.tmp 56) (.const (.int .i64 (3))) (.int .i64 ((k : Nat) : Int)) (.int .i64 (3)) (.int .i64 ((k + 3 : Nat) : Int)) (fun _ => rfl) (hd 7 rfl) rfl (addk (a := k) (b := 3) rfl (by omega) _ _ _) (hK _ (Mw.refl _))))
      ·exact og_eq _ rfl (fun f wf hq hd K hK => go_run rfl (wo_bin (fun x y => Instr.index 9 x y) (.tmp 55) (.tmp 57) (.string s) (.int .i64 ((k + 3 : Nat) : Int)) (.int .u8 (bt s (k + 3))) (fun _ => rfl) (hd 6 rfl) (hd 8 rfl) (idx_b (k := k + 3) (by omega) _) (hK _ (Mw.refl _))))
      ·exact og_eq _ rfl (fun f wf hq hd K hK => go_run rfl (wo_call 42 [(.tmp 58)] _ [.int .u8 (bt s (k + 3))] (.int .u8 (dhx (bt s (k + 3)))) rfl (li1 (hd 9 rfl)) (fun _ _ => by kernel_rfl) (rhex_n (bt s (k + 3)) _ (bt_rg s (k + 3))) hK))
     intro kf11 w11 hq hR hne
     replace hown := OB.mw hown hq
     replace M := M.trans hq
     clear hq hR hne
     refine wl_b .add 5 (.tmp 54) (.tmp 59) (.int .u8 (16 * dhx (bt s (k + 2)) % 256)) (.int .u8 (dhx (bt s (k + 3)))) (.int .u8 (dh2 (bt s (k + 2)) (bt s (k + 3)))) (add5 (by rw [IntKind.wrap_u8]; rfl) _ _ _) ?_
     refine wl_m (.tmp 60) (.int .u8 (dh2 (bt s (k + 2)) (bt s (k + 3)))) ?_
     refine w_nil (xn_then (w_reg ?_))
     refine wl_mv (.tmp 5) (.int .i64 ((k : Nat) : Int)) (fun _ => rfl) e5 rfl ?_
     refine wl_b .add 3 (.tmp 61) (.const (.int .i64 (3))) (.int .i64 ((k : Nat) : Int)) (.int .i64 (3)) (.int .i64 ((k + 3 : Nat) : Int)) (addk (a := k) (b := 3) rfl (by omega) _ _ _) ?_
     refine wl_m (.tmp 62) (.int .i64 ((k + 3 : Nat) : Int)) ?_
     refine w_nil (xn_then (w_reg ?_))
     refine wl_mv (.tmp 4) (v) (fun _ => rfl) e4 rfl ?_
     refine wl_m (.tmp 6) (.int .u8 (dh2 (bt s (k + 2)) (bt s (k + 3)))) ?_
     refine wl_put1 _ (.tmp 64) (.tmp 63) 65 ((dh2 (bt s (k + 2)) (bt s (k + 3)))) w.heap.size v (L) rfl rfl rfl rfl rfl rfl rfl rfl hown (dh2_rg _ _) (by omega) M.size ?_
     intro vo12 w12 hOn hMn hAn
     replace M := hMn w rfl M
     replace hown := hOn
     clear hOn hMn hAn
     refine wl_m (.tmp 66) (vo12) ?_
     refine w_nil (xn_blk (xn_then (w_reg ?_)))
     refine wl_m (.tmp 5) (.int .i64 ((k + 3 : Nat) : Int)) ?_
     refine wl_b .add 3 (.tmp 12) (.const (.int .i64 (1))) (.int .i64 ((k + 3 : Nat) : Int)) (.int .i64 (1)) (.int .i64 ((k + 4 : Nat) : Int)) (addk (a := k + 3) (b := 1) (c := k + 4) rfl (by omega) _ _ _) ?_
     refine wl_m (.tmp 13) (.int .i64 ((k + 4 : Nat) : Int)) ?_
     refine w_nil ?_
     rw [du_2 hf20p (fun h => hf22p h.2.1) ⟨hf21, hf23p⟩] at hdu
     exact xn_loop (s.size + 8 - (k + 4)) (by omega) ⟨k + 4, _, _, rfl, e0, rfl, rfl, by omega, by omega, by rw [List.length_append]; simp only [List.length_singleton]; omega, hown, by rw [List.append_assoc]; exact hdu, M⟩
    | false =>
     have hf23p := of_decide_eq_false hf23
     refine w_reg ?_
     refine wl_m (.tmp 6) (.int .u8 (bt s (k))) ?_
     refine wl_b .eql 5 (.tmp 39) (.const (.int .u8 (92))) (.int .u8 (bt s (k))) (.int .u8 (92)) (.bool true) (eq5r hf21 _ _ _) ?_
     refine wl_m (.tmp 40) (.bool true) ?_
     refine wl_mv (.tmp 5) (.int .i64 ((k : Nat) : Int)) (fun _ => rfl) e5 rfl ?_
     refine wl_b .add 3 (.tmp 42) (.const (.int .i64 (3))) (.int .i64 ((k : Nat) : Int)) (.int .i64 (3)) (.int .i64 ((k + 3 : Nat) : Int)) (addk (a := k) (b := 3) rfl (by omega) _ _ _) ?_
     refine wl_mv (.tmp 0) (.string s) (fun _ => rfl) e0 rfl ?_
     refine wl_val (.int .i64 ((s.size : Nat) : Int)) (len_s _ _ s (by exact rfl) _ _ _ _ _ _) rfl ?_
     refine wl_b .sub 3 (.tmp 45) (.const (.int .i64 (1))) (.int .i64 ((s.size : Nat) : Int)) (.int .i64 (1)) (.int .i64 (((s.size : Nat) : Int) - 1)) (subS s hs _ _ _) ?_
     refine wl_b .lss 3 (.tmp 43) (.tmp 46) (.int .i64 ((k + 3 : Nat) : Int)) (.int .i64 (((s.size : Nat) : Int) - 1)) (.bool false) (ltS (by omega) hf23 _ _ _) ?_
     refine wl_pick (.tmp 41) (.tmp 47) (.const (.bool false)) true (.bool false) (fun _ => rfl) rfl rfl rfl ?_
     refine w_nil (xn_then (w_condF rfl (w_skip (xn_then (w_reg ?_)))))
     refine wl_mv (.tmp 4) (v) (fun _ => rfl) e4 rfl ?_
     refine wl_m (.tmp 6) (.int .u8 (bt s (k))) ?_
     refine wl_put1 _ (.tmp 64) (.tmp 63) 65 ((bt s (k))) w.heap.size v (L) rfl rfl rfl rfl rfl rfl rfl rfl hown (bt_rg _ _) (by omega) M.size ?_
     intro vo11 w11 hOn hMn hAn
     replace M := hMn w rfl M
     replace hown := hOn
     clear hOn hMn hAn
     refine wl_m (.tmp 66) (vo11) ?_
     refine w_nil (xn_blk (xn_then (w_reg ?_)))
     refine wl_mv (.tmp 5) (.int .i64 ((k : Nat) : Int)) (fun _ => rfl) e5 rfl ?_
     refine wl_b .add 3 (.tmp 12) (.const (.int .i64 (1))) (.int .i64 ((k : Nat) : Int)) (.int .i64 (1)) (.int .i64 ((k + 1 : Nat) : Int)) (addk (a := k) (b := 1) rfl (by omega) _ _ _) ?_
     refine wl_m (.tmp 13) (.int .i64 ((k + 1 : Nat) : Int)) ?_
     refine w_nil ?_
     rw [du_3 hf20p (fun h => hf22p h.2.1) (fun h => hf23p h.2)] at hdu
     exact xn_loop (s.size + 8 - (k + 1)) (by omega) ⟨k + 1, _, _, rfl, e0, rfl, rfl, by omega, by omega, by rw [List.length_append]; simp only [List.length_singleton]; omega, hown, by rw [List.append_assoc]; exact hdu, M⟩
  | false =>
   refine w_reg ?_
   refine wl_m (.tmp 6) (.int .u8 (bt s (k))) ?_
   refine wl_b .eql 5 (.tmp 17) (.const (.int .u8 (92))) (.int .u8 (bt s (k))) (.int .u8 (92)) (.bool false) (eq5r hf21 _ _ _) ?_
   refine wl_m (.tmp 18) (.bool false) ?_
   refine wl_skip rfl (wl_skip rfl (wl_skip rfl (wl_skip rfl (wl_skip rfl (wl_skip rfl ?_)))))
   refine wl_pick (.tmp 19) (.tmp 25) (.const (.bool false)) false (.bool false) (fun _ => rfl) rfl rfl rfl ?_
   refine wl_m (.tmp 26) (.bool false) ?_
   refine wl_skip rfl (wl_skip rfl (wl_skip rfl (wl_skip rfl (wl_skip rfl ?_))))
   refine wl_pick (.tmp 27) (.tmp 32) (.const (.bool false)) false (.bool false) (fun _ => rfl) rfl rfl rfl ?_
   refine w_nil (xn_then (w_condF rfl (w_seq (w_reg ?_))))
   refine wl_m (.tmp 6) (.int .u8 (bt s (k))) ?_
   refine wl_b .eql 5 (.tmp 39) (.const (.int .u8 (92))) (.int .u8 (bt s (k))) (.int .u8 (92)) (.bool false) (eq5r hf21 _ _ _) ?_
   refine wl_m (.tmp 40) (.bool false) ?_
   refine wl_skip rfl (wl_skip rfl (wl_skip rfl (wl_skip rfl (wl_skip rfl (wl_skip rfl ?_)))))
   refine wl_pick (.tmp 41) (.tmp 47) (.const (.bool false)) false (.bool false) (fun _ => rfl) rfl rfl rfl ?_
   refine w_nil (xn_then (w_condF rfl (w_skip (xn_then (w_reg ?_)))))
   refine wl_mv (.tmp 4) (v) (fun _ => rfl) e4 rfl ?_
   refine wl_m (.tmp 6) (.int .u8 (bt s (k))) ?_
   refine wl_put1 _ (.tmp 64) (.tmp 63) 65 ((bt s (k))) w.heap.size v (L) rfl rfl rfl rfl rfl rfl rfl rfl hown (bt_rg _ _) (by omega) M.size ?_
   intro vo11 w11 hOn hMn hAn
   replace M := hMn w rfl M
   replace hown := hOn
   clear hOn hMn hAn
   refine wl_m (.tmp 66) (vo11) ?_
   refine w_nil (xn_blk (xn_then (w_reg ?_)))
   refine wl_mv (.tmp 5) (.int .i64 ((k : Nat) : Int)) (fun _ => rfl) e5 rfl ?_
   refine wl_b .add 3 (.tmp 12) (.const (.int .i64 (1))) (.int .i64 ((k : Nat) : Int)) (.int .i64 (1)) (.int .i64 ((k + 1 : Nat) : Int)) (addk (a := k) (b := 1) rfl (by omega) _ _ _) ?_
   refine wl_m (.tmp 13) (.int .i64 ((k + 1 : Nat) : Int)) ?_
   refine w_nil ?_
   rw [du_3 hf20p (fun h => by rw [hf21] at h; cases h.1) (fun h => by rw [hf21] at h; cases h.1)] at hdu
   exact xn_loop (s.size + 8 - (k + 1)) (by omega) ⟨k + 1, _, _, rfl, e0, rfl, rfl, by omega, by omega, by rw [List.length_append]; simp only [List.length_singleton]; omega, hown, by rw [List.append_assoc]; exact hdu, M⟩
 | false =>
  have hf20p := of_decide_eq_false hf20
  refine w_reg ?_
  refine wl_mv (.tmp 5) (.int .i64 ((k : Nat) : Int)) (fun _ => rfl) e5 rfl ?_
  refine wl_mv (.tmp 0) (.string s) (fun _ => rfl) e0 rfl ?_
  refine wl_val (.int .i64 ((s.size : Nat) : Int)) (len_s _ _ s (by exact rfl) _ _ _ _ _ _) rfl ?_
  refine wl_b .sub 3 (.tmp 9) (.const (.int .i64 (1))) (.int .i64 ((s.size : Nat) : Int)) (.int .i64 (1)) (.int .i64 (((s.size : Nat) : Int) - 1)) (subS s hs _ _ _) ?_
  refine wl_b .lss 3 (.tmp 7) (.tmp 10) (.int .i64 ((k : Nat) : Int)) (.int .i64 (((s.size : Nat) : Int) - 1)) (.bool false) (ltS (by omega) hf20 _ _ _) ?_
  refine w_nil (xn_then (w_condF rfl (w_exit (xx_then (xx_then ?_)))))
  rw [du_end hf20p, List.append_nil] at hdu
  subst hdu
  refine xx_blk (xn_then (w_seq (w_seq ?_)))
  cases hf21 : decide (qt (du s 1) = by8 s) with
  | true =>
   have hf21p := of_decide_eq_true hf21
   refine w_reg ?_
   refine wl_mv (.tmp 4) (v) (fun _ => rfl) e4 rfl ?_
   refine wl_un (fun v => convert 62 9 v) (.tmp 67) (v) (.string ⟨(du s 1).toArray⟩) (fun _ => rfl) rfl (str_own hown) rfl ?_
   refine wl_call 23 [(.tmp 68)] _ [.string ⟨(du s 1).toArray⟩] (.string ⟨(qt (du s 1)).toArray⟩) rfl rfl (fun _ _ => by kernel_rfl) (hrq _) rfl ?_
   intro w11 hq
   replace hown := OB.mw hown hq
   replace M := M.trans hq
   clear hq
   refine wl_mv (.tmp 0) (.string s) (fun _ => rfl) e0 rfl ?_
   refine wl_b .neq 9 (.tmp 69) (.tmp 70) (.string ⟨(qt (du s 1)).toArray⟩) (.string s) (.bool false) (ne9q (a := ⟨(qt (du s 1)).toArray⟩) hf21 _ _ _) ?_
   refine w_nil (xn_then (w_condF rfl (w_skip (xn_then (w_seq (w_reg ?_))))))
   refine wl_mv (.tmp 4) (v) (fun _ => rfl) e4 rfl ?_
   refine wl_un (fun v => convert 62 9 v) (.tmp 72) (v) (.string ⟨(du s 1).toArray⟩) (fun _ => rfl) rfl (str_own hown) rfl ?_
   refine wl_m (.tmp 73) (.string ⟨(du s 1).toArray⟩) ?_
   refine wl_m (.const (.bool true)) (.bool true) ?_
   refine w_nil (xn_then (w_ret ?_))
   exact w_ret2 _ _ (.string ⟨(du s 1).toArray⟩) (.bool true) rfl rfl rfl ⟨by rw [unq_du, if_pos hf21p], M⟩
  | false =>
   have hf21p := of_decide_eq_false hf21
   refine w_reg ?_
   refine wl_mv (.tmp 4) (v) (fun _ => rfl) e4 rfl ?_
   refine wl_un (fun v => convert 62 9 v) (.tmp 67) (v) (.string ⟨(du s 1).toArray⟩) (fun _ => rfl) rfl (str_own hown) rfl ?_
   refine wl_call 23 [(.tmp 68)] _ [.string ⟨(du s 1).toArray⟩] (.string ⟨(qt (du s 1)).toArray⟩) rfl rfl (fun _ _ => by kernel_rfl) (hrq _) rfl ?_
   intro w11 hq
   replace hown := OB.mw hown hq
   replace M := M.trans hq
   clear hq
   refine wl_mv (.tmp 0) (.string s) (fun _ => rfl) e0 rfl ?_
   refine wl_b .neq 9 (.tmp 69) (.tmp 70) (.string ⟨(qt (du s 1)).toArray⟩) (.string s) (.bool true) (ne9q (a := ⟨(qt (du s 1)).toArray⟩) hf21 _ _ _) ?_
   refine w_nil (xn_then (w_condT rfl (w_seq (w_reg ?_))))
   refine wl_m (.const (.string ⟨#[]⟩)) (.string ⟨#[]⟩) ?_
   refine wl_m (.const (.bool false)) (.bool false) ?_
   refine w_nil (xn_then (w_ret (xr_then ?_)))
   exact w_ret2 _ _ (.string ⟨#[]⟩) (.bool false) rfl rfl rfl ⟨by rw [unq_du, if_neg hf21p], M⟩
end Go.Proofs.YthgknegocfhdbaaDoor.V
/-
 lex.Quote.
-/
namespace Go.Proofs.YthgknegocfhdbaaDoor.V
open Go.RowKit
theorem shr4 {b : Nat} (_h : b < 256) (x y : Operand) (w : World) : (do eqGuard .shr 5 x y (.int .u8 (b : Int)) (.int .u64 4); binOp .shr 5 (.int .u8 (b : Int)) (.int .u64 4)).run Tryd.prog w = .ok (.int .u8 ((b / 16 : Nat) : Int)) w := by
 simp [go_sem]
set_option maxRecDepth 100000 in
theorem and15f : ∀ a : Fin 256, bits BinOp.and IntKind.u8 ((a.val : Nat) : Int) 15 = ((a.val % 16 : Nat) : Int) := by decide +kernel
theorem and15 {b : Nat} (h : b < 256) (x y : Operand) (w : World) : (do eqGuard .and 5 x y (.int .u8 (b : Int)) (.int .u8 15); binOp .and 5 (.int .u8 (b : Int)) (.int .u8 15)).run Tryd.prog w = .ok (.int .u8 ((b % 16 : Nat) : Int)) w := by
 have h2 := and15f ⟨b, h⟩
 simp only at h2
 have e : (do eqGuard .and 5 x y (.int .u8 (b : Int)) (.int .u8 15); binOp .and 5 (.int .u8 (b : Int)) (.int .u8 15)).run Tryd.prog w = .ok (.int .u8 (bits BinOp.and IntKind.u8 (b : Int) 15)) w := by kernel_rfl
 rw [e, h2]
theorem prn_d {b : Nat} (h : prn ((b : Nat) : Int) = false) : b < 32 ∨ 126 < b := by
 unfold prn at h; simp at h; omega
theorem prn_e {b : Nat} (h : prn ((b : Nat) : Int) = true) : ¬ b < 32 ∧ ¬ 126 < b := by
 unfold prn at h; simp at h; omega
theorem bc_str (L : List UInt8) (s : ByteArray) : Lib.byteCells L ++ Lib.strCells s = Lib.byteCells (L ++ by8 s) := by
 rw [Lib.strCells_eq, Lib.byteCells_append]
def Bd (L : List UInt8) (n : Nat) : Prop := L.length ≤ 4000000000008 + n
theorem Bd.nil : Bd [] 0 := Nat.zero_le _
theorem Bd.base {s : ByteArray} {k : Nat} (hs : s.size ≤ 1000000000000) : Bd (34 :: qi ((by8 s).take k)) 0 := by
 have hql := qi_len ((by8 s).take k)
 unfold Bd
 rw [List.length_cons]
 rw [List.length_take, by8_len] at hql
 omega
theorem Bd.snoc {L : List UInt8} {n : Nat} (h : Bd L n) (x : UInt8) : Bd (L ++ [x]) (n + 1) := by
 unfold Bd at h ⊢; rw [List.length_append, List.length_singleton]; omega
theorem Bd.str {L : List UInt8} {n : Nat} (h : Bd L n) : Bd (L ++ by8 ⟨#[92, 120]⟩) (n + 2) := by
 unfold Bd at h ⊢; rw [List.length_append, show (by8 ⟨#[92, 120]⟩).length = 2 from rfl]; omega
theorem Bd.w {L : List UInt8} {n : Nat} (h : Bd L n) (hn : n ≤ 20) : (Lib.byteCells L).length + 1 ≤ 140737488355328 := by
 unfold Bd at h; rw [Lib.byteCells_length]; omega
theorem Bd.w2 {L : List UInt8} {n : Nat} (h : Bd L n) (hn : n ≤ 20) : (Lib.byteCells L).length + (⟨#[92, 120]⟩ : ByteArray).size ≤ 140737488355328 := by
 unfold Bd at h; rw [Lib.byteCells_length, show (⟨#[92, 120]⟩ : ByteArray).size = 2 from rfl]; omega
theorem prn_v {c : Int} {r : Bool} (h : prn c = r) (w : World) : Calls Tryd.prog 43 #[.int .u8 c] w fun e w' => e = .returned (.bool r) ∧ Mw w w' := wk (prn_c h w)
theorem quote_n (s : ByteArray) (w : World) (hs : s.size ≤ 1000000000000) : Calls Tryd.prog 22 #[.string s] w fun e w' => e = .returned (.string ⟨(qt (by8 s)).toArray⟩) ∧ Mw w w' := by
 refine w_enter 43 Tryd.func22 Tryd.ntmps22 rfl rfl ?_
 have M : Mw w w := Mw.refl _
 refine w_seq (w_reg ?_)
 refine wl_m (.const (.string ⟨#[]⟩)) (.string ⟨#[]⟩) ?_
 refine w_nil (xn_then (w_seq (w_reg ?_)))
 refine wl_new64 rfl rfl ?_
 intro kb wb hkb hq hIB
 replace hIB := hIB w.heap.size (by have := M.size; omega)
 replace M := M.trans hq
 clear hq
 refine w_nil (xn_then (w_seq (w_reg ?_)))
 refine wl_callx 40 [(.tmp 3), (.const (.int .u8 (34)))] _ [pt kb 0, .int .u8 (34)] rfl rfl (fun _ _ => by kernel_rfl) (Tryd.Builder_WriteByte w.heap.size kb (Lib.byteCells ([])) ((34)) _ hIB (Bd.w Bd.nil (by decide)) M.size) rfl ?_
 rintro _ w1 ⟨rfl, hBA, hq⟩
 refine ⟨_, rfl, ?_⟩
 rw [bc_snoc (by omega)] at hBA
 replace hIB : Lib.IsBuilder 64 5 w.heap.size kb (Lib.byteCells ([] ++ [((34) : Int).toNat.toUInt8])) w1 := Or.inr hBA
 clear hBA
 replace M := Below.trans M hq
 clear hq
 refine w_nil (xn_then (w_seq (w_seq (w_reg ?_))))
 refine wl_m (.tmp 0) (.string s) ?_
 refine wl_val (.int .i64 ((s.size : Nat) : Int)) (len_s _ _ s (by exact rfl) _ _ _ _ _ _) rfl ?_
 refine wl_m (.const (.int .i64 (0))) (.int .i64 (0)) ?_
 refine w_nil (xn_then (w_block ?_))
 refine w_loop (fun m l w1 => ∃ (k : Nat), m = s.size - k ∧ look l 0 = .string s ∧ look l 3 = pt kb 0 ∧ look l 8 = .int .i64 ((s.size : Nat) : Int) ∧ look l 9 = .int .i64 ((k : Nat) : Int) ∧ k ≤ s.size ∧ Lib.IsBuilder 64 5 w.heap.size kb (Lib.byteCells (34 :: qi ((by8 s).take k))) w1 ∧ Mw w w1) _ ⟨0, rfl, rfl, rfl, rfl, rfl, Nat.zero_le _, hIB, M⟩ ?_
 clear M hIB
 rintro m l wl ⟨k, rfl, e0, e3, e8, e9, hk, hIB, M⟩
 obtain ⟨b, hb, hb2⟩ := bt_nat s k
 refine w_seq ?_
 cases hf20 : decide (k < s.size) with
 | true =>
  have hf20p := of_decide_eq_true hf20
  refine w_reg ?_
  refine wl_bin (fun x y => do eqGuard .lss 3 (.tmp 9) (.tmp 8) x y; binOp .lss 3 x y) (.tmp 9) (.tmp 8) (.int .i64 ((k : Nat) : Int)) (.int .i64 ((s.size : Nat) : Int)) (.bool true) (fun _ => rfl) e9 e8 (ltN hf20 _ _ _) rfl ?_
  refine w_nil (xn_then (w_seq (w_condT rfl (w_skip (xn_then (w_seq (w_block (w_seq (w_reg ?_)))))))))
  refine wl_mv (.tmp 9) (.int .i64 ((k : Nat) : Int)) (fun _ => rfl) e9 rfl ?_
  refine wl_m (.tmp 11) (.int .i64 ((k : Nat) : Int)) ?_
  refine w_nil (xn_then (w_seq (w_reg ?_)))
  refine wl_mv (.tmp 0) (.string s) (fun _ => rfl) e0 rfl ?_
  refine wl_m (.tmp 4) (.int .i64 ((k : Nat) : Int)) ?_
  refine wl_bin (fun x y => Instr.index 9 x y) (.tmp 12) (.tmp 13) (.string s) (.int .i64 ((k : Nat) : Int)) (.int .u8 (b : Int)) (fun _ => rfl) rfl rfl (idx_bb hb (by omega) _) rfl ?_
  refine wl_m (.tmp 14) (.int .u8 (b : Int)) ?_
  refine w_nil (xn_then (w_block (w_seq ?_)))
  cases hf21 : prn ((b : Nat) : Int) with
  | true =>
   refine w_reg ?_
   refine wl_m (.tmp 5) (.int .u8 (b : Int)) ?_
   refine wl_call 43 [(.tmp 18)] _ [.int .u8 (b : Int)] (.bool true) rfl rfl (fun _ _ => by kernel_rfl) (prn_v hf21 _) rfl ?_
   intro w11 hq
   replace hIB := IB.mw hIB hq
   replace M := M.trans hq
   clear hq
   refine wl_un (fun v => Op.unary .not v) (.tmp 19) (.bool true) (.bool false) (fun _ => rfl) rfl (by kernel_rfl) rfl ?_
   refine wl_m (.tmp 20) (.bool false) ?_
   refine w_nil (xn_then (w_condF rfl (w_seq ?_)))
   cases hf22 : decide (b = 34) with
   | true =>
    have hf22p := of_decide_eq_true hf22
    refine w_reg ?_
    refine wl_m (.tmp 5) (.int .u8 (b : Int)) ?_
    refine wl_b .eql 5 (.tmp 31) (.const (.int .u8 (34))) (.int .u8 (b : Int)) (.int .u8 (34)) (.bool true) (eq5d hf22 _ _ _) ?_
    refine wl_m (.tmp 32) (.bool true) ?_
    refine wl_skip rfl (wl_skip rfl ?_)
    refine wl_pick (.tmp 33) (.const (.bool true)) (.tmp 35) true (.bool true) (fun _ => rfl) rfl rfl rfl ?_
    refine wl_m (.tmp 36) (.bool true) ?_
    refine w_nil (xn_then (w_condT rfl (w_seq (w_reg ?_))))
    refine wl_callx 40 [(.tmp 3), (.const (.int .u8 (92)))] _ [pt kb 0, .int .u8 (92)] rfl (li2 e3 rfl) (fun _ _ => by kernel_rfl) (Tryd.Builder_WriteByte w.heap.size kb (Lib.byteCells (34 :: qi ((by8 s).take k))) ((92)) _ hIB (Bd.w (Bd.base hs) (by decide)) M.size) rfl ?_
    rintro _ w12 ⟨rfl, hBA, hq⟩
    refine ⟨_, rfl, ?_⟩
    rw [bc_snoc (by omega)] at hBA
    replace hIB : Lib.IsBuilder 64 5 w.heap.size kb (Lib.byteCells (34 :: qi ((by8 s).take k) ++ [((92) : Int).toNat.toUInt8])) w12 := Or.inr hBA
    clear hBA
    replace M := Below.trans M hq
    clear hq
    refine w_nil (xn_then (w_reg ?_))
    refine wl_m (.tmp 5) (.int .u8 (b : Int)) ?_
    refine wl_callx 40 [(.tmp 3), (.tmp 38)] _ [pt kb 0, .int .u8 (b : Int)] rfl (li2 e3 rfl) (fun _ _ => by kernel_rfl) (Tryd.Builder_WriteByte w.heap.size kb (Lib.byteCells (34 :: qi ((by8 s).take k) ++ [((92) : Int).toNat.toUInt8])) ((b : Int)) _ hIB (Bd.w (Bd.snoc (Bd.base hs) _) (by decide)) M.size) rfl ?_
    rintro _ w13 ⟨rfl, hBA, hq⟩
    refine ⟨_, rfl, ?_⟩
    rw [bc_snoc (by omega)] at hBA
    replace hIB : Lib.IsBuilder 64 5 w.heap.size kb (Lib.byteCells (34 :: qi ((by8 s).take k) ++ [((92) : Int).toNat.toUInt8] ++ [((b : Int) : Int).toNat.toUInt8])) w13 := Or.inr hBA
    clear hBA
    replace M := Below.trans M hq
    clear hq
    refine w_nil (xn_blk (xn_blk (xn_then (w_reg ?_))))
    refine wl_bin (fun x y => do eqGuard .add 3 (.tmp 9) (.const (.int .i64 (1))) x y; binOp .add 3 x y) (.tmp 9) (.const (.int .i64 (1))) (.int .i64 ((k : Nat) : Int)) (.int .i64 (1)) (.int .i64 ((k + 1 : Nat) : Int)) (fun _ => rfl) e9 rfl (addk (a := k) (b := 1) rfl (by omega) _ _ _) rfl ?_
    refine wl_m (.tmp 40) (.int .i64 ((k + 1 : Nat) : Int)) ?_
    refine w_nil ?_
    simp only [List.append_assoc] at hIB
    exact xn_loop (s.size - (k + 1)) (by omega) ⟨k + 1, rfl, e0, e3, e8, rfl, by omega, by rw [← qi_step (by omega) hb (qb_1 (Or.inl hf22p))]; exact hIB, M⟩
   | false =>
    have hf22p := of_decide_eq_false hf22
    cases hf23 : decide (b = 92) with
    | true =>
     have hf23p := of_decide_eq_true hf23
     refine w_reg ?_
     refine wl_m (.tmp 5) (.int .u8 (b : Int)) ?_
     refine wl_b .eql 5 (.tmp 31) (.const (.int .u8 (34))) (.int .u8 (b : Int)) (.int .u8 (34)) (.bool false) (eq5d hf22 _ _ _) ?_
     refine wl_m (.tmp 32) (.bool false) ?_
     refine wl_m (.tmp 5) (.int .u8 (b : Int)) ?_
     refine wl_b .eql 5 (.tmp 34) (.const (.int .u8 (92))) (.int .u8 (b : Int)) (.int .u8 (92)) (.bool true) (eq5d hf23 _ _ _) ?_
     refine wl_pick (.tmp 33) (.const (.bool true)) (.tmp 35) false (.bool true) (fun _ => rfl) rfl rfl rfl ?_
     refine wl_m (.tmp 36) (.bool true) ?_
     refine w_nil (xn_then (w_condT rfl (w_seq (w_reg ?_))))
     refine wl_callx 40 [(.tmp 3), (.const (.int .u8 (92)))] _ [pt kb 0, .int .u8 (92)] rfl (li2 e3 rfl) (fun _ _ => by kernel_rfl) (Tryd.Builder_WriteByte w.heap.size kb (Lib.byteCells (34 :: qi ((by8 s).take k))) ((92)) _ hIB (Bd.w (Bd.base hs) (by decide)) M.size) rfl ?_
     rintro _ w12 ⟨rfl, hBA, hq⟩
     refine ⟨_, rfl, ?_⟩
     rw [bc_snoc (by omega)] at hBA
     replace hIB : Lib.IsBuilder 64 5 w.heap.size kb (Lib.byteCells (34 :: qi ((by8 s).take k) ++ [((92) : Int).toNat.toUInt8])) w12 := Or.inr hBA
     clear hBA
     replace M := Below.trans M hq
     clear hq
     refine w_nil (xn_then (w_reg ?_))
     refine wl_m (.tmp 5) (.int .u8 (b : Int)) ?_
     refine wl_callx 40 [(.tmp 3), (.tmp 38)] _ [pt kb 0, .int .u8 (b : Int)] rfl (li2 e3 rfl) (fun _ _ => by kernel_rfl) (Tryd.Builder_WriteByte w.heap.size kb (Lib.byteCells (34 :: qi ((by8 s).take k) ++ [((92) : Int).toNat.toUInt8])) ((b : Int)) _ hIB (Bd.w (Bd.snoc (Bd.base hs) _) (by decide)) M.size) rfl ?_
     rintro _ w13 ⟨rfl, hBA, hq⟩
     refine ⟨_, rfl, ?_⟩
     rw [bc_snoc (by omega)] at hBA
     replace hIB : Lib.IsBuilder 64 5 w.heap.size kb (Lib.byteCells (34 :: qi ((by8 s).take k) ++ [((92) : Int).toNat.toUInt8] ++ [((b : Int) : Int).toNat.toUInt8])) w13 := Or.inr hBA
     clear hBA
     replace M := Below.trans M hq
     clear hq
     refine w_nil (xn_blk (xn_blk (xn_then (w_reg ?_))))
     refine wl_bin (fun x y => do eqGuard .add 3 (.tmp 9) (.const (.int .i64 (1))) x y; binOp .add 3 x y) (.tmp 9) (.const (.int .i64 (1))) (.int .i64 ((k : Nat) : Int)) (.int .i64 (1)) (.int .i64 ((k + 1 : Nat) : Int)) (fun _ => rfl) e9 rfl (addk (a := k) (b := 1) rfl (by omega) _ _ _) rfl ?_
     refine wl_m (.tmp 40) (.int .i64 ((k + 1 : Nat) : Int)) ?_
     refine w_nil ?_
     simp only [List.append_assoc] at hIB
     exact xn_loop (s.size - (k + 1)) (by omega) ⟨k + 1, rfl, e0, e3, e8, rfl, by omega, by rw [← qi_step (by omega) hb (qb_1 (Or.inr hf23p))]; exact hIB, M⟩
    | false =>
     have hf23p := of_decide_eq_false hf23
     refine w_reg ?_
     refine wl_m (.tmp 5) (.int .u8 (b : Int)) ?_
     refine wl_b .eql 5 (.tmp 31) (.const (.int .u8 (34))) (.int .u8 (b : Int)) (.int .u8 (34)) (.bool false) (eq5d hf22 _ _ _) ?_
     refine wl_m (.tmp 32) (.bool false) ?_
     refine wl_m (.tmp 5) (.int .u8 (b : Int)) ?_
     refine wl_b .eql 5 (.tmp 34) (.const (.int .u8 (92))) (.int .u8 (b : Int)) (.int .u8 (92)) (.bool false) (eq5d hf23 _ _ _) ?_
     refine wl_pick (.tmp 33) (.const (.bool true)) (.tmp 35) false (.bool false) (fun _ => rfl) rfl rfl rfl ?_
     refine wl_m (.tmp 36) (.bool false) ?_
     refine w_nil (xn_then (w_condF rfl (w_reg ?_)))
     refine wl_m (.tmp 5) (.int .u8 (b : Int)) ?_
     refine wl_callx 40 [(.tmp 3), (.tmp 15)] _ [pt kb 0, .int .u8 (b : Int)] rfl (li2 e3 rfl) (fun _ _ => by kernel_rfl) (Tryd.Builder_WriteByte w.heap.size kb (Lib.byteCells (34 :: qi ((by8 s).take k))) ((b : Int)) _ hIB (Bd.w (Bd.base hs) (by decide)) M.size) rfl ?_
     rintro _ w12 ⟨rfl, hBA, hq⟩
     refine ⟨_, rfl, ?_⟩
     rw [bc_snoc (by omega)] at hBA
     replace hIB : Lib.IsBuilder 64 5 w.heap.size kb (Lib.byteCells (34 :: qi ((by8 s).take k) ++ [((b : Int) : Int).toNat.toUInt8])) w12 := Or.inr hBA
     clear hBA
     replace M := Below.trans M hq
     clear hq
     refine w_nil (xn_blk (xn_blk (xn_then (w_reg ?_))))
     refine wl_bin (fun x y => do eqGuard .add 3 (.tmp 9) (.const (.int .i64 (1))) x y; binOp .add 3 x y) (.tmp 9) (.const (.int .i64 (1))) (.int .i64 ((k : Nat) : Int)) (.int .i64 (1)) (.int .i64 ((k + 1 : Nat) : Int)) (fun _ => rfl) e9 rfl (addk (a := k) (b := 1) rfl (by omega) _ _ _) rfl ?_
     refine wl_m (.tmp 40) (.int .i64 ((k + 1 : Nat) : Int)) ?_
     refine w_nil ?_
     exact xn_loop (s.size - (k + 1)) (by omega) ⟨k + 1, rfl, e0, e3, e8, rfl, by omega, by rw [← qi_step (by omega) hb (qb_3 hb2 hf22p hf23p (prn_e hf21).1 (prn_e hf21).2)]; exact hIB, M⟩
  | false =>
   refine w_reg ?_
   refine wl_m (.tmp 5) (.int .u8 (b : Int)) ?_
   refine wl_call 43 [(.tmp 18)] _ [.int .u8 (b : Int)] (.bool false) rfl rfl (fun _ _ => by kernel_rfl) (prn_v hf21 _) rfl ?_
   intro w11 hq
   replace hIB := IB.mw hIB hq
   replace M := M.trans hq
   clear hq
   refine wl_un (fun v => Op.unary .not v) (.tmp 19) (.bool false) (.bool true) (fun _ => rfl) rfl (by kernel_rfl) rfl ?_
   refine wl_m (.tmp 20) (.bool true) ?_
   refine w_nil (xn_then (w_condT rfl (w_seq (w_reg ?_))))
   refine wl_callx 44 [(.tmp 3), (.const (.string ⟨#[92, 120]⟩))] _ [pt kb 0, .string ⟨#[92, 120]⟩] rfl (li2 e3 rfl) (fun _ _ => by kernel_rfl) (Tryd.Builder_WriteString w.heap.size kb (Lib.byteCells (34 :: qi ((by8 s).take k))) ⟨#[92, 120]⟩ _ hIB (Bd.w2 (Bd.base hs) (by decide)) M.size) rfl ?_
   rintro _ w12 ⟨rfl, hBA, hq⟩
   refine ⟨_, rfl, ?_⟩
   rw [bc_str] at hBA
   replace hIB : Lib.IsBuilder 64 5 w.heap.size kb (Lib.byteCells (34 :: qi ((by8 s).take k) ++ by8 ⟨#[92, 120]⟩)) w12 := Or.inr hBA
   clear hBA
   replace M := Below.trans M hq
   clear hq
   refine w_nil (xn_then (w_seq (w_reg ?_)))
   refine wl_m (.tmp 5) (.int .u8 (b : Int)) ?_
   refine wl_b .shr 5 (.tmp 22) (.const (.int .u64 (4))) (.int .u8 (b : Int)) (.int .u64 (4)) (.int .u8 ((b / 16 : Nat) : Int)) (shr4 hb2 _ _ _) ?_
   refine wl_bin (fun x y => Instr.index 9 x y) (.const (.string ⟨#[48, 49, 50, 51, 52, 53, 54, 55, 56, 57, 97, 98, 99, 100, 101, 102]⟩)) (.tmp 23) (.string ⟨#[48, 49, 50, 51, 52, 53, 54, 55, 56, 57, 97, 98, 99, 100, 101, 102]⟩) (.int .u8 ((b / 16 : Nat) : Int)) (.int .u8 (((hx (b / 16)).toNat : Nat) : Int)) (fun _ => rfl) rfl rfl (ixh (by omega) _) rfl ?_
   refine wl_callx 40 [(.tmp 3), (.tmp 24)] _ [pt kb 0, .int .u8 (((hx (b / 16)).toNat : Nat) : Int)] rfl (li2 e3 rfl) (fun _ _ => by kernel_rfl) (Tryd.Builder_WriteByte w.heap.size kb (Lib.byteCells (34 :: qi ((by8 s).take k) ++ by8 ⟨#[92, 120]⟩)) ((((hx (b / 16)).toNat : Nat) : Int)) _ hIB (Bd.w (Bd.str (Bd.base hs)) (by decide)) M.size) rfl ?_
   rintro _ w13 ⟨rfl, hBA, hq⟩
   refine ⟨_, rfl, ?_⟩
   rw [bc_snoc (by have := UInt8.toNat_lt (hx (b / 16)); omega)] at hBA
   replace hIB : Lib.IsBuilder 64 5 w.heap.size kb (Lib.byteCells (34 :: qi ((by8 s).take k) ++ by8 ⟨#[92, 120]⟩ ++ [((((hx (b / 16)).toNat : Nat) : Int) : Int).toNat.toUInt8])) w13 := Or.inr hBA
   clear hBA
   replace M := Below.trans M hq
   clear hq
   refine w_nil (xn_then (w_reg ?_))
   refine wl_m (.tmp 5) (.int .u8 (b : Int)) ?_
   refine wl_b .and 5 (.tmp 26) (.const (.int .u8 (15))) (.int .u8 (b : Int)) (.int .u8 (15)) (.int .u8 ((b % 16 : Nat) : Int)) (and15 hb2 _ _ _) ?_
   refine wl_bin (fun x y => Instr.index 9 x y) (.const (.string ⟨#[48, 49, 50, 51, 52, 53, 54, 55, 56, 57, 97, 98, 99, 100, 101, 102]⟩)) (.tmp 27) (.string ⟨#[48, 49, 50, 51, 52, 53, 54, 55, 56, 57, 97, 98, 99, 100, 101, 102]⟩) (.int .u8 ((b % 16 : Nat) : Int)) (.int .u8 (((hx (b % 16)).toNat : Nat) : Int)) (fun _ => rfl) rfl rfl (ixh (by omega) _) rfl ?_
   refine wl_callx 40 [(.tmp 3), (.tmp 28)] _ [pt kb 0, .int .u8 (((hx (b % 16)).toNat : Nat) : Int)] rfl (li2 e3 rfl) (fun _ _ => by kernel_rfl) (Tryd.Builder_WriteByte w.heap.size kb (Lib.byteCells (34 :: qi ((by8 s).take k) ++ by8 ⟨#[92, 120]⟩ ++ [((((hx (b / 16)).toNat : Nat) : Int) : Int).toNat.toUInt8])) ((((hx (b % 16)).toNat : Nat) : Int)) _ hIB (Bd.w (Bd.snoc (Bd.str (Bd.base hs)) _) (by decide)) M.size) rfl ?_
   rintro _ w14 ⟨rfl, hBA, hq⟩
   refine ⟨_, rfl, ?_⟩
   rw [bc_snoc (by have := UInt8.toNat_lt (hx (b % 16)); omega)] at hBA
   replace hIB : Lib.IsBuilder 64 5 w.heap.size kb (Lib.byteCells (34 :: qi ((by8 s).take k) ++ by8 ⟨#[92, 120]⟩ ++ [((((hx (b / 16)).toNat : Nat) : Int) : Int).toNat.toUInt8] ++ [((((hx (b % 16)).toNat : Nat) : Int) : Int).toNat.toUInt8])) w14 := Or.inr hBA
   clear hBA
   replace M := Below.trans M hq
   clear hq
   refine w_nil (xn_blk (xn_blk (xn_then (w_reg ?_))))
   refine wl_bin (fun x y => do eqGuard .add 3 (.tmp 9) (.const (.int .i64 (1))) x y; binOp .add 3 x y) (.tmp 9) (.const (.int .i64 (1))) (.int .i64 ((k : Nat) : Int)) (.int .i64 (1)) (.int .i64 ((k + 1 : Nat) : Int)) (fun _ => rfl) e9 rfl (addk (a := k) (b := 1) rfl (by omega) _ _ _) rfl ?_
   refine wl_m (.tmp 40) (.int .i64 ((k + 1 : Nat) : Int)) ?_
   refine w_nil ?_
   have hqq := qb_2 hb2 (prn_d hf21)
   rw [← u8_id (hx (b / 16)), ← u8_id (hx (b % 16))] at hqq
   simp only [List.append_assoc] at hIB
   exact xn_loop (s.size - (k + 1)) (by omega) ⟨k + 1, rfl, e0, e3, e8, rfl, by omega, by rw [← qi_step (by omega) hb (hqq)]; exact hIB, M⟩
 | false =>
  have hf20p := of_decide_eq_false hf20
  refine w_reg ?_
  refine wl_bin (fun x y => do eqGuard .lss 3 (.tmp 9) (.tmp 8) x y; binOp .lss 3 x y) (.tmp 9) (.tmp 8) (.int .i64 ((k : Nat) : Int)) (.int .i64 ((s.size : Nat) : Int)) (.bool false) (fun _ => rfl) e9 e8 (ltN hf20 _ _ _) rfl ?_
  refine w_nil (xn_then (w_seq (w_condF rfl (w_exit (xx_then (xx_then (xx_blk (xn_then (w_seq (w_reg ?_))))))))))
  refine wl_callx 40 [(.tmp 3), (.const (.int .u8 (34)))] _ [pt kb 0, .int .u8 (34)] rfl (li2 e3 rfl) (fun _ _ => by kernel_rfl) (Tryd.Builder_WriteByte w.heap.size kb (Lib.byteCells (34 :: qi ((by8 s).take k))) ((34)) _ hIB (Bd.w (Bd.base hs) (by decide)) M.size) rfl ?_
  rintro _ w11 ⟨rfl, hBA, hq⟩
  refine ⟨_, rfl, ?_⟩
  rw [bc_snoc (by omega)] at hBA
  replace hIB : Lib.IsBuilder 64 5 w.heap.size kb (Lib.byteCells (34 :: qi ((by8 s).take k) ++ [((34) : Int).toNat.toUInt8])) w11 := Or.inr hBA
  clear hBA
  replace M := Below.trans M hq
  clear hq
  refine w_nil (xn_then (w_seq (w_reg ?_)))
  refine wl_callx 41 [(.tmp 3)] _ [pt kb 0] rfl (li1 e3) (fun _ _ => by kernel_rfl) (Tryd.Builder_String_any w.heap.size kb (34 :: qi ((by8 s).take k) ++ [((34) : Int).toNat.toUInt8]) _ hIB M.size) rfl ?_
  rintro _ w12 ⟨rfl, hq⟩
  refine ⟨_, rfl, ?_⟩
  replace M := Below.trans M hq
  refine wl_m (.tmp 42) (.string ⟨(34 :: qi ((by8 s).take k) ++ [((34) : Int).toNat.toUInt8]).toArray⟩) ?_
  refine w_nil (xn_then (w_ret ?_))
  exact w_ret1 _ (.string ⟨(34 :: qi ((by8 s).take k) ++ [((34) : Int).toNat.toUInt8]).toArray⟩) rfl rfl ⟨by rw [show k = s.size by omega, List.take_of_length_le (by rw [by8_len]; omega)]; rfl, M⟩
end Go.Proofs.YthgknegocfhdbaaDoor.V
/-
 What Scan tells of the two texts that the law fixes.
-/
namespace Go.Proofs.YthgknegocfhdbaaDoor.V
open Go.RowKit
abbrev sa : ByteArray := ⟨#[97, 46, 98, 60, 61, 49, 46, 53, 48, 47, 47, 99]⟩
abbrev sb : ByteArray := ⟨#[32, 35]⟩
abbrev sn : ByteArray := ⟨#[49, 46, 53, 48, 47, 47, 99]⟩
theorem symb_d (s : ByteArray) : symb s = sys.any (fun x => by8 s == by8 x) := by
 unfold symb
 simp only [Lib.toList_data]
theorem blk_sb0 : blk sb 0 = 1 := by
 rw [blk_b (by decide) (by decide), blk_n (by decide) (by decide)]
theorem rch_sb : rch sb 1 = (4, 2) := by
 unfold rch
 rw [if_neg (by decide), if_neg (by decide), if_neg (by decide), if_neg (by decide)]
theorem ext_sb : sb.extract 1 2 = ⟨#[35]⟩ := by kernel_rfl
theorem sc_sb : Sc sb (blk sb 0) [] 1 70 := by
 rw [blk_sb0]
 refine Sc.err (by decide) (fun w => next_4f sb 1 2 w (by decide) (by decide) rch_sb (fun w => ?_))
 have h := meaning_4 (sb.extract 1 2) w
 have hs : symb (sb.extract 1 2) = false := by rw [ext_sb, symb_d]; decide
 rw [hs] at h
 exact h
theorem pfx_sn : pfx sn = 4 := by
 have b0 : bt sn 0 = 49 := rfl
 have b1 : bt sn 1 = 46 := rfl
 have b2 : bt sn 2 = 53 := rfl
 have b3 : bt sn 3 = 48 := rfl
 have b4 : bt sn 4 = 47 := rfl
 have r1 : re sn 1 = 1 := re_end (by rw [b1]; rfl)
 have r0 : re sn 0 = 1 := by rw [re_on (by rw [b0]; rfl), r1]
 have r4 : re sn 4 = 4 := re_end (by rw [b4]; rfl)
 have r3 : re sn 3 = 4 := by rw [re_on (by rw [b3]; rfl), r4]
 have r2 : re sn 2 = 4 := by rw [re_on (by rw [b2]; rfl), r3]
 unfold pfx fi
 rw [b0, r0]
 unfold ah
 rw [b1, b2, r2]
 rfl
theorem ext_sn : sa.extract 5 12 = sn := by kernel_rfl
theorem ext_0 : sa.extract 0 1 = ⟨#[97]⟩ := by kernel_rfl
theorem ext_1 : sa.extract 1 2 = ⟨#[46]⟩ := by kernel_rfl
theorem ext_1b : sa.extract 1 3 = ⟨#[46, 98]⟩ := by kernel_rfl
theorem ext_2 : sa.extract 2 3 = ⟨#[98]⟩ := by kernel_rfl
theorem ext_3 : sa.extract 3 5 = ⟨#[60, 61]⟩ := by kernel_rfl
theorem ext_5 : sa.extract 5 9 = ⟨#[49, 46, 53, 48]⟩ := by kernel_rfl
theorem nam_1 (c : UInt8) (h : ltr (bt ⟨#[c]⟩ 0) = true) : nam ⟨#[c]⟩ = true := by
 have h1 : nmA ⟨#[c]⟩ 0 = true := by rw [nmA_in (show 0 < 1 by decide), nmA_end (show ¬ 0 + 1 < 1 by decide), h]; rfl
 unfold nam
 rw [h, h1]; rfl
theorem rch_a0 : rch sa 0 = (1, 1) := by unfold rch; rw [if_pos (by decide), nme_end (by decide)]
theorem rch_a1 : rch sa 1 = (4, 2) := by unfold rch; rw [if_neg (by decide), if_neg (by decide), if_neg (by decide), if_neg (fun h => by have h2 := h.2; rw [ext_1b, symb_d] at h2; revert h2; decide)]
theorem rch_a2 : rch sa 2 = (1, 3) := by unfold rch; rw [if_pos (by decide), nme_end (by decide)]
theorem rch_a3 : rch sa 3 = (4, 5) := by unfold rch; rw [if_neg (by decide), if_neg (by decide), if_neg (by decide), if_pos ⟨by decide, by rw [ext_3, symb_d]; decide⟩]
theorem rch_a5 : rch sa 5 = (2, 9) := by unfold rch; rw [if_neg (by decide), if_pos (by decide), show sa.extract 5 sa.size = sn from ext_sn, pfx_sn]
theorem blk_a {k : Nat} (h1 : isb (bt sa k) = false) (h2 : ((bt sa k == 47) && (bt sa (k + 1) == 47)) = false) : blk sa k = k := blk_n h1 h2
theorem blk_a9 : blk sa 9 = 12 := by
 rw [blk_c (by decide) (by decide) (by decide)]
 rw [lnx_on (by decide) (by decide), lnx_on (by decide) (by decide), lnx_end (by decide), blk_end (by decide)]
theorem df_5 : Df (by8 ⟨#[49, 46, 53, 48]⟩) false [49] [53, 48] := ⟨rfl, by decide, by decide, by decide, by decide, fun h => by cases h⟩
theorem par_5 (w : World) : Calls Tryd.prog 48 #[.string (sa.extract 5 9)] w fun e w' => e = .returned (.tuple #[dc false 150 ((2 : Nat) : Int), .int .i64 0]) ∧ Mo w w' := by
 rw [ext_5]
 exact parse13_df df_5 (by decide) w
def La : List (List Value) := [[.int .i64 ((1 : Nat) : Int), .string (sa.extract 0 1), .int .i64 0, .bool false, .int .u64 0, .int .u64 0, .int .u64 0, .int .u64 0, .int .i64 0, .bool false, .string ⟨#[]⟩, .int .i64 0, .int .i64 ((0 : Nat) : Int)], [.int .i64 ((4 : Nat) : Int), .string (sa.extract 1 2), .int .i64 0, .bool false, .int .u64 0, .int .u64 0, .int .u64 0, .int .u64 0, .int .i64 0, .bool false, .string ⟨#[]⟩, .int .i64 0, .int .i64 ((1 : Nat) : Int)], [.int .i64 ((1 : Nat) : Int), .string (sa.extract 2 3), .int .i64 0, .bool false, .int .u64 0, .int .u64 0, .int .u64 0, .int .u64 0, .int .i64 0, .bool false, .string ⟨#[]⟩, .int .i64 0, .int .i64 ((2 : Nat) : Int)], [.int .i64 ((4 : Nat) : Int), .string (sa.extract 3 5), .int .i64 0, .bool false, .int .u64 0, .int .u64 0, .int .u64 0, .int .u64 0, .int .i64 0, .bool false, .string ⟨#[]⟩, .int .i64 0, .int .i64 ((3 : Nat) : Int)], [.int .i64 ((2 : Nat) : Int), .string (sa.extract 5 9), .int .i64 1, .bool false, .int .u64 (l0 (150)), .int .u64 (l1 (150)), .int .u64 (l2 (150)), .int .u64 (l3 (150)), .int .i64 (((2 : Nat) : Int)), .bool false, .string ⟨#[]⟩, .int .i64 0, .int .i64 ((5 : Nat) : Int)]]
theorem sc_sa : Sc sa (blk sa 0) La 0 0 := by
 rw [blk_a (by decide) (by decide)]
 have m0 : ∀ w, Calls Tryd.prog 28 #[.int .i64 ((1 : Nat) : Int), .string (sa.extract 0 1)] w fun e' w' => e' = .returned (.tuple #[.agg #[.int .i64 0, .bool false, .int .u64 0, .int .u64 0, .int .u64 0, .int .u64 0, .int .i64 0, .bool false, .string ⟨#[]⟩, .int .i64 0], .bool true]) ∧ Mw w w' := fun w => by
  have h := meaning_1 (sa.extract 0 1) w (by decide)
  rw [show nam (sa.extract 0 1) = true from by rw [ext_0]; exact nam_1 _ (by decide)] at h; exact h
 have m1 : ∀ w, Calls Tryd.prog 28 #[.int .i64 ((4 : Nat) : Int), .string (sa.extract 1 2)] w fun e' w' => e' = .returned (.tuple #[.agg #[.int .i64 0, .bool false, .int .u64 0, .int .u64 0, .int .u64 0, .int .u64 0, .int .i64 0, .bool false, .string ⟨#[]⟩, .int .i64 0], .bool true]) ∧ Mw w w' := fun w => by
  have h := meaning_4 (sa.extract 1 2) w
  rw [show symb (sa.extract 1 2) = true from by rw [ext_1, symb_d]; decide] at h; exact h
 have m2 : ∀ w, Calls Tryd.prog 28 #[.int .i64 ((1 : Nat) : Int), .string (sa.extract 2 3)] w fun e' w' => e' = .returned (.tuple #[.agg #[.int .i64 0, .bool false, .int .u64 0, .int .u64 0, .int .u64 0, .int .u64 0, .int .i64 0, .bool false, .string ⟨#[]⟩, .int .i64 0], .bool true]) ∧ Mw w w' := fun w => by
  have h := meaning_1 (sa.extract 2 3) w (by decide)
  rw [show nam (sa.extract 2 3) = true from by rw [ext_2]; exact nam_1 _ (by decide)] at h; exact h
 have m3 : ∀ w, Calls Tryd.prog 28 #[.int .i64 ((4 : Nat) : Int), .string (sa.extract 3 5)] w fun e' w' => e' = .returned (.tuple #[.agg #[.int .i64 0, .bool false, .int .u64 0, .int .u64 0, .int .u64 0, .int .u64 0, .int .i64 0, .bool false, .string ⟨#[]⟩, .int .i64 0], .bool true]) ∧ Mw w w' := fun w => by
  have h := meaning_4 (sa.extract 3 5) w
  rw [show symb (sa.extract 3 5) = true from by rw [ext_3, symb_d]; decide] at h; exact h
 have m5 : ∀ w, Calls Tryd.prog 28 #[.int .i64 ((2 : Nat) : Int), .string (sa.extract 5 9)] w fun e' w' => e' = .returned (.tuple #[.agg #[.int .i64 1, .bool false, .int .u64 (l0 (150)), .int .u64 (l1 (150)), .int .u64 (l2 (150)), .int .u64 (l3 (150)), .int .i64 (((2 : Nat) : Int)), .bool false, .string ⟨#[]⟩, .int .i64 0], .bool true]) ∧ Mw w w' := fun w => meaning_2 (sa.extract 5 9) w false 150 0 2 par_5
 refine Sc.tok (by decide) (by decide) (by decide) rfl (fun w => next_1t sa 0 1 w (by decide) (by decide) rch_a0 m0) ?_
 rw [blk_a (by decide) (by decide)]
 refine Sc.tok (by decide) (by decide) (by decide) rfl (fun w => next_4t sa 1 2 w (by decide) (by decide) rch_a1 m1) ?_
 rw [blk_a (by decide) (by decide)]
 refine Sc.tok (by decide) (by decide) (by decide) rfl (fun w => next_1t sa 2 3 w (by decide) (by decide) rch_a2 m2) ?_
 rw [blk_a (by decide) (by decide)]
 refine Sc.tok (by decide) (by decide) (by decide) rfl (fun w => next_4t sa 3 5 w (by decide) (by decide) rch_a3 m3) ?_
 rw [blk_a (by decide) (by decide)]
 refine Sc.tok (by decide) (by decide) (by decide) rfl (fun w => next_2t sa 5 9 false 150 2 w (by decide) (by decide) rch_a5 m5) ?_
 rw [blk_a9]
 exact Sc.done (by decide)
end Go.Proofs.YthgknegocfhdbaaDoor.V
/-
 exciselaw07.live.
-/
namespace Go.Proofs.YthgknegocfhdbaaDoor.V
open Go.RowKit
theorem own_at37 {w : World} {N g cap n : Nat} {xs : List Value} (h : w.ownsRow N 37 13 (.slice (some ⟨g, 0, none⟩) n cap) n xs) : At w g xs := by
 have hl := h.1
 refine ⟨fun j v hv => ?_, fun o => h.frozenAt o, (h.lt g rfl).2⟩
 have hj : j < xs.length := (List.getElem?_eq_some_iff.1 hv).1
 rw [Nat.zero_add, h.cellAt j (by omega)]; exact hv
theorem ix22t (g j n c : Nat) (h : j < n) (w : World) : (Instr.indexAt 22 (.slice (some ⟨g, 0, none⟩) n c) (.int .i64 (j : Int))).run Tryd.prog w = .ok (pt g (j * 13)) w := by
 have e : (Instr.indexAt 22 (.slice (some ⟨g, 0, none⟩) n c) (.int .i64 (j : Int))).run Tryd.prog w = .ok (.pointer (some ((⟨g, 0, none⟩ : Addr).add (j * 13)))) w := by simp [go_sem, h]
 rw [e, Addr.add_mid, Nat.zero_add]
theorem len22t (ρ : Operand → Value) (x : Operand) (p : Option Addr) (m c : Nat) (hx : ρ x = .slice p m c) (dst : Option Tmp) (type : TypeId) (pos : String) (after : Array Edge) (guard : Option (Nat × Bool)) (w : World) : (execOp ρ { dst, op := .call { callee := .builtin .len, args := #[x], argTypes := #[22] }, type, pos, after, guard }).run Tryd.prog w = .ok (.value (.int .i64 (m : Int))) w := by
 simp [go_sem, hx]
theorem live_n (w : World) : Calls Tryd.prog 10 #[] w fun e w' => e = .returned (.bool true) ∧ Mw w w' := by
 refine w_enter 53 Tryd.func10 Tryd.ntmps10 rfl rfl ?_
 have M : Mw w w := Mw.refl _
 refine w_seq (w_reg ?_)
 refine wl_m (.const (.bool false)) (.bool false) ?_
 refine w_nil (xn_then (w_seq (w_reg ?_)))
 refine wl_callx 8 [(.const (.string ⟨#[97, 46, 98, 60, 61, 49, 46, 53, 48, 47, 47, 99]⟩))] _ [.string ⟨#[97, 46, 98, 60, 61, 49, 46, 53, 48, 47, 47, 99]⟩] rfl rfl (fun _ _ => by kernel_rfl) (scan_n sa La 0 0 _ sc_sa (by decide)) rfl ?_
 rintro _ w1 ⟨va, rfl, hoa, _, hq⟩
 refine ⟨_, rfl, ?_⟩
 replace hoa := hoa rfl
 obtain ⟨ga, ca, hva, _⟩ := hoa.form (by decide)
 subst hva
 have QA := own_at37 hoa
 replace M := M.trans hq
 clear hq
 refine wl_m (.tmp 8) (.tuple #[.slice (some ⟨ga, 0, none⟩) La.length ca, .int .i64 ((0 : Nat) : Int), .int .i64 (0)]) ?_
 refine wl_un (fun v => Instr.extract v 0) (.tmp 7) (.tuple #[.slice (some ⟨ga, 0, none⟩) La.length ca, .int .i64 ((0 : Nat) : Int), .int .i64 (0)]) (.slice (some ⟨ga, 0, none⟩) La.length ca) (fun _ => rfl) rfl (by kernel_rfl) rfl ?_
 refine wl_un (fun v => Instr.extract v 1) (.tmp 7) (.tuple #[.slice (some ⟨ga, 0, none⟩) La.length ca, .int .i64 ((0 : Nat) : Int), .int .i64 (0)]) (.int .i64 ((0 : Nat) : Int)) (fun _ => rfl) rfl (by kernel_rfl) rfl ?_
 refine wl_un (fun v => Instr.extract v 2) (.tmp 7) (.tuple #[.slice (some ⟨ga, 0, none⟩) La.length ca, .int .i64 ((0 : Nat) : Int), .int .i64 (0)]) (.int .i64 (0)) (fun _ => rfl) rfl (by kernel_rfl) rfl ?_
 refine wl_m (.tmp 9) (.slice (some ⟨ga, 0, none⟩) La.length ca) ?_
 refine wl_m (.tmp 10) (.int .i64 ((0 : Nat) : Int)) ?_
 refine wl_m (.tmp 11) (.int .i64 (0)) ?_
 refine w_nil (xn_then (w_seq (w_reg ?_)))
 refine wl_callx 8 [(.const (.string ⟨#[32, 35]⟩))] _ [.string ⟨#[32, 35]⟩] rfl rfl (fun _ _ => by kernel_rfl) (scan_n sb [] 1 70 _ sc_sb (by decide)) rfl ?_
 rintro _ w2 ⟨vb, rfl, _, hvb, hq⟩
 refine ⟨_, rfl, ?_⟩
 obtain rfl := hvb (by decide)
 replace QA := QA.mo hq
 replace M := M.trans hq
 clear hq
 refine wl_m (.tmp 13) (.tuple #[.slice none 0 0, .int .i64 ((1 : Nat) : Int), .int .i64 (70)]) ?_
 refine wl_un (fun v => Instr.extract v 0) (.tmp 12) (.tuple #[.slice none 0 0, .int .i64 ((1 : Nat) : Int), .int .i64 (70)]) (.slice none 0 0) (fun _ => rfl) rfl (by kernel_rfl) rfl ?_
 refine wl_un (fun v => Instr.extract v 1) (.tmp 12) (.tuple #[.slice none 0 0, .int .i64 ((1 : Nat) : Int), .int .i64 (70)]) (.int .i64 ((1 : Nat) : Int)) (fun _ => rfl) rfl (by kernel_rfl) rfl ?_
 refine wl_un (fun v => Instr.extract v 2) (.tmp 12) (.tuple #[.slice none 0 0, .int .i64 ((1 : Nat) : Int), .int .i64 (70)]) (.int .i64 (70)) (fun _ => rfl) rfl (by kernel_rfl) rfl ?_
 refine wl_m (.tmp 14) (.slice none 0 0) ?_
 refine wl_m (.tmp 15) (.int .i64 ((1 : Nat) : Int)) ?_
 refine wl_m (.tmp 16) (.int .i64 (70)) ?_
 refine w_nil (xn_then (w_seq (w_reg ?_)))
 refine wl_m (.tmp 3) (.int .i64 (0)) ?_
 refine wl_b .eql 23 (.tmp 17) (.const (.int .i64 (0))) (.int .i64 (0)) (.int .i64 (0)) (.bool true) (by kernel_rfl) ?_
 refine wl_m (.tmp 18) (.bool true) ?_
 refine wl_m (.tmp 2) (.int .i64 ((0 : Nat) : Int)) ?_
 refine wl_b .eql 3 (.tmp 20) (.const (.int .i64 (0))) (.int .i64 ((0 : Nat) : Int)) (.int .i64 (0)) (.bool true) (by kernel_rfl) ?_
 refine wl_pick (.tmp 19) (.tmp 21) (.const (.bool false)) true (.bool true) (fun _ => rfl) rfl rfl rfl ?_
 refine wl_m (.tmp 22) (.bool true) ?_
 refine wl_m (.tmp 1) (.slice (some ⟨ga, 0, none⟩) La.length ca) ?_
 refine wl_val (.int .i64 ((La.length : Nat) : Int)) (len22t _ _ _ _ _ (by exact rfl) _ _ _ _ _ _) rfl ?_
 refine wl_b .eql 3 (.tmp 25) (.const (.int .i64 (5))) (.int .i64 ((La.length : Nat) : Int)) (.int .i64 (5)) (.bool true) (by kernel_rfl) ?_
 refine wl_pick (.tmp 23) (.tmp 26) (.const (.bool false)) true (.bool true) (fun _ => rfl) rfl rfl rfl ?_
 refine wl_m (.tmp 27) (.bool true) ?_
 refine wl_m (.tmp 1) (.slice (some ⟨ga, 0, none⟩) La.length ca) ?_
 refine wl_bin (fun x y => Instr.indexAt 22 x y) (.tmp 29) (.const (.int .i64 (3))) (.slice (some ⟨ga, 0, none⟩) La.length ca) (.int .i64 (3)) (pt ga 39) (fun _ => rfl) rfl rfl (ix22t ga 3 La.length ca (by decide) _) rfl ?_
 refine wl_f 37 1 (.tmp 30) (pt ga 39) (pt ga 40) ?_
 refine wl_l 9 (.tmp 31) (pt ga 40) (.string (sa.extract 3 5)) (run_one QA 9 40 rfl Tryd.underlying9 rfl) ?_
 refine wl_b .eql 9 (.tmp 32) (.const (.string ⟨#[60, 61]⟩)) (.string (sa.extract 3 5)) (.string ⟨#[60, 61]⟩) (.bool true) (eq9 (by rw [ext_3]; exact beq_self_eq_true _) _ _ _) ?_
 refine wl_pick (.tmp 28) (.tmp 33) (.const (.bool false)) true (.bool true) (fun _ => rfl) rfl rfl rfl ?_
 refine wl_m (.tmp 34) (.bool true) ?_
 refine wl_m (.tmp 1) (.slice (some ⟨ga, 0, none⟩) La.length ca) ?_
 refine wl_bin (fun x y => Instr.indexAt 22 x y) (.tmp 36) (.const (.int .i64 (4))) (.slice (some ⟨ga, 0, none⟩) La.length ca) (.int .i64 (4)) (pt ga 52) (fun _ => rfl) rfl rfl (ix22t ga 4 La.length ca (by decide) _) rfl ?_
 refine wl_f 37 2 (.tmp 37) (pt ga 52) (pt ga 54) ?_
 refine wl_f 35 1 (.tmp 38) (pt ga 54) (pt ga 55) ?_
 refine wl_l 33 (.tmp 39) (pt ga 55) (.agg #[.bool false, .int .u64 (l0 (150)), .int .u64 (l1 (150)), .int .u64 (l2 (150)), .int .u64 (l3 (150)), .int .i64 (((2 : Nat) : Int))]) (run_row QA 33 55 6 _ rfl Tryd.underlying33 rfl sz33) ?_
 refine wl_build 31 [(0, (.const (.int .u64 (150))))] [(0, .int .u64 (150))] (.agg #[.int .u64 (150), .int .u64 0, .int .u64 0, .int .u64 0]) rfl rfl (by kernel_rfl) rfl ?_
 refine wl_build 33 [(1, (.tmp 41)), (2, (.const (.int .i64 (2))))] [(1, .agg #[.int .u64 (150), .int .u64 0, .int .u64 0, .int .u64 0]), (2, .int .i64 (2))] (.agg #[.bool false, .int .u64 (150), .int .u64 0, .int .u64 0, .int .u64 0, .int .i64 (2)]) rfl rfl (by kernel_rfl) rfl ?_
 refine wl_b .eql 33 (.tmp 40) (.tmp 42) (.agg #[.bool false, .int .u64 (l0 (150)), .int .u64 (l1 (150)), .int .u64 (l2 (150)), .int .u64 (l3 (150)), .int .i64 (((2 : Nat) : Int))]) (.agg #[.bool false, .int .u64 (150), .int .u64 0, .int .u64 0, .int .u64 0, .int .i64 (2)]) (.bool true) (by kernel_rfl) ?_
 refine wl_pick (.tmp 35) (.tmp 43) (.const (.bool false)) true (.bool true) (fun _ => rfl) rfl rfl rfl ?_
 refine wl_m (.tmp 44) (.bool true) ?_
 refine wl_m (.tmp 6) (.int .i64 (70)) ?_
 refine wl_b .eql 23 (.tmp 46) (.const (.int .i64 (70))) (.int .i64 (70)) (.int .i64 (70)) (.bool true) (by kernel_rfl) ?_
 refine wl_pick (.tmp 45) (.tmp 47) (.const (.bool false)) true (.bool true) (fun _ => rfl) rfl rfl rfl ?_
 refine wl_m (.tmp 48) (.bool true) ?_
 refine wl_m (.tmp 5) (.int .i64 ((1 : Nat) : Int)) ?_
 refine wl_b .eql 3 (.tmp 50) (.const (.int .i64 (1))) (.int .i64 ((1 : Nat) : Int)) (.int .i64 (1)) (.bool true) (by kernel_rfl) ?_
 refine wl_pick (.tmp 49) (.tmp 51) (.const (.bool false)) true (.bool true) (fun _ => rfl) rfl rfl rfl ?_
 refine wl_m (.tmp 52) (.bool true) ?_
 refine w_nil (xn_then (w_ret ?_))
 exact w_ret1 _ _ rfl rfl ⟨rfl, M⟩
end Go.Proofs.YthgknegocfhdbaaDoor.V
/-
 exciselaw07.LexQuotes.
-/
namespace Go.Proofs.YthgknegocfhdbaaDoor.V
open Go.RowKit
theorem ne9s (s : ByteArray) (x y : Operand) (w : World) : (do eqGuard .neq 9 x y (.string s) (.string s); binOp .neq 9 (.string s) (.string s)).run Tryd.prog w = .ok (.bool false) w := ne9g (r := true) (beq_self_eq_true _) _ _ _
theorem ne4s (a : Bool) (x y : Operand) (w : World) : (do eqGuard .neq 4 x y (.bool a) (.bool a); binOp .neq 4 (.bool a) (.bool a)).run Tryd.prog w = .ok (.bool false) w := by
 have e : (do eqGuard .neq 4 x y (.bool a) (.bool a); binOp .neq 4 (.bool a) (.bool a)).run Tryd.prog w = .ok (.bool (!(a == a))) w := by kernel_rfl
 rw [e, beq_self_eq_true]; rfl
theorem qi_ge (l : List UInt8) : l.length ≤ (qi l).length := by
 induction l with
 | nil => exact Nat.le_refl _
 | cons c l ih => rw [qi_cons, List.length_append, List.length_cons]; have := qb_pos c; omega
theorem unq_sz {s : ByteArray} (h : (unq s).2 = true) : (unq s).1.size ≤ s.size := by
 have h1 := congrArg List.length (unq_of h)
 have h2 := qi_ge (by8 (unq s).1)
 unfold qt at h1
 rw [by8_len, List.length_cons, List.length_append] at h1
 rw [by8_len] at h2
 omega
theorem ruq_c {s : ByteArray} {r : Bool} (h : (unq s).2 = r) (w : World) (hs : s.size ≤ 1000000000000) : Calls Tryd.prog 21 #[.string s] w fun e w' => e = .returned (.tuple #[.string (unq s).1, .bool r]) ∧ Mw w w' := h ▸ runquote_n s w hs
theorem uqt_c (s : ByteArray) (w : World) (hs : s.size ≤ 1000000000000) : Calls Tryd.prog 20 #[.string ⟨(qt (by8 s)).toArray⟩] w fun e w' => e = .returned (.tuple #[.string s, .bool true]) ∧ Mw w w' := by
 have h := unquote_n ⟨(qt (by8 s)).toArray⟩ w (by
  have := qi_len (by8 s)
  rw [by8_len] at this
  rw [sz_l]; unfold qt
  rw [List.length_cons, List.length_append, List.length_singleton]; omega)
 rw [unq_qt, ba_eta] at h
 exact h
theorem quotes_n (s : ByteArray) (w : World) (hs : s.size ≤ 1000000000000) : Calls Tryd.prog 5 #[.string s] w fun e w' => e = .returned (.bool true) ∧ Mw w w' := by
 refine w_enter 59 Tryd.func5 Tryd.ntmps5 rfl rfl ?_
 have M : Mw w w := Mw.refl _
 refine w_seq (w_reg ?_)
 refine wl_m (.const (.bool false)) (.bool false) ?_
 refine w_nil (xn_then (w_seq ?_))
 cases hf0 : (unq s).2 with
 | true =>
  refine w_reg ?_
  refine wl_m (.tmp 0) (.string s) ?_
  refine wl_call 20 [(.tmp 10)] _ [.string s] (.tuple #[.string (unq s).1, .bool true]) rfl rfl (fun _ _ => by kernel_rfl) (unq_c hf0 _ (by omega)) rfl ?_
  intro w1 hq
  replace M := M.trans hq
  clear hq
  refine wl_m (.tmp 11) (.tuple #[.string (unq s).1, .bool true]) ?_
  refine wl_un (fun v => Instr.extract v 0) (.tmp 9) (.tuple #[.string (unq s).1, .bool true]) (.string (unq s).1) (fun _ => rfl) rfl (by kernel_rfl) rfl ?_
  refine wl_un (fun v => Instr.extract v 1) (.tmp 9) (.tuple #[.string (unq s).1, .bool true]) (.bool true) (fun _ => rfl) rfl (by kernel_rfl) rfl ?_
  refine wl_m (.tmp 12) (.string (unq s).1) ?_
  refine wl_m (.tmp 13) (.bool true) ?_
  refine w_nil (xn_then (w_seq (w_reg ?_)))
  refine wl_m (.tmp 0) (.string s) ?_
  refine wl_call 21 [(.tmp 15)] _ [.string s] (.tuple #[.string (unq s).1, .bool true]) rfl rfl (fun _ _ => by kernel_rfl) (ruq_c hf0 _ (by omega)) rfl ?_
  intro w2 hq
  replace M := M.trans hq
  clear hq
  refine wl_m (.tmp 16) (.tuple #[.string (unq s).1, .bool true]) ?_
  refine wl_un (fun v => Instr.extract v 0) (.tmp 14) (.tuple #[.string (unq s).1, .bool true]) (.string (unq s).1) (fun _ => rfl) rfl (by kernel_rfl) rfl ?_
  refine wl_un (fun v => Instr.extract v 1) (.tmp 14) (.tuple #[.string (unq s).1, .bool true]) (.bool true) (fun _ => rfl) rfl (by kernel_rfl) rfl ?_
  refine wl_m (.tmp 17) (.string (unq s).1) ?_
  refine wl_m (.tmp 18) (.bool true) ?_
  refine w_nil (xn_then (w_seq (w_seq (w_reg ?_))))
  refine wl_call 10 [] _ [] (.bool true) rfl rfl (fun _ _ => by kernel_rfl) (live_n _) rfl ?_
  intro w3 hq
  replace M := M.trans hq
  clear hq
  refine wl_un (fun v => Op.unary .not v) (.tmp 19) (.bool true) (.bool false) (fun _ => rfl) rfl (by kernel_rfl) rfl ?_
  refine wl_m (.tmp 20) (.bool false) ?_
  refine wl_m (.tmp 0) (.string s) ?_
  refine wl_call 22 [(.tmp 22)] _ [.string s] (.string ⟨(qt (by8 s)).toArray⟩) rfl rfl (fun _ _ => by kernel_rfl) (quote_n s _ (by omega)) rfl ?_
  intro w4 hq
  replace M := M.trans hq
  clear hq
  refine wl_m (.tmp 0) (.string s) ?_
  refine wl_call 23 [(.tmp 24)] _ [.string s] (.string ⟨(qt (by8 s)).toArray⟩) rfl rfl (fun _ _ => by kernel_rfl) (rquote_n s _ (by omega)) rfl ?_
  intro w5 hq
  replace M := M.trans hq
  clear hq
  refine wl_b .neq 9 (.tmp 23) (.tmp 25) (.string ⟨(qt (by8 s)).toArray⟩) (.string ⟨(qt (by8 s)).toArray⟩) (.bool false) (ne9s _ _ _ _) ?_
  refine wl_pick (.tmp 21) (.const (.bool true)) (.tmp 26) false (.bool false) (fun _ => rfl) rfl rfl rfl ?_
  refine wl_m (.tmp 27) (.bool false) ?_
  refine wl_m (.tmp 3) (.string (unq s).1) ?_
  refine wl_m (.tmp 5) (.string (unq s).1) ?_
  refine wl_b .neq 9 (.tmp 29) (.tmp 30) (.string (unq s).1) (.string (unq s).1) (.bool false) (ne9s _ _ _ _) ?_
  refine wl_pick (.tmp 28) (.const (.bool true)) (.tmp 31) false (.bool false) (fun _ => rfl) rfl rfl rfl ?_
  refine wl_m (.tmp 32) (.bool false) ?_
  refine wl_m (.tmp 4) (.bool true) ?_
  refine wl_m (.tmp 6) (.bool true) ?_
  refine wl_b .neq 4 (.tmp 34) (.tmp 35) (.bool true) (.bool true) (.bool false) (ne4s _ _ _ _) ?_
  refine wl_pick (.tmp 33) (.const (.bool true)) (.tmp 36) false (.bool false) (fun _ => rfl) rfl rfl rfl ?_
  refine wl_m (.tmp 37) (.bool false) ?_
  refine wl_m (.tmp 4) (.bool true) ?_
  refine wl_m (.tmp 39) (.bool true) ?_
  refine wl_m (.tmp 3) (.string (unq s).1) ?_
  refine wl_call 22 [(.tmp 41)] _ [.string (unq s).1] (.string ⟨(qt (by8 (unq s).1)).toArray⟩) rfl rfl (fun _ _ => by kernel_rfl) (quote_n (unq s).1 _ (by have := unq_sz hf0; omega)) rfl ?_
  intro w6 hq
  replace M := M.trans hq
  clear hq
  refine wl_m (.tmp 0) (.string s) ?_
  refine wl_b .neq 9 (.tmp 42) (.tmp 43) (.string ⟨(qt (by8 (unq s).1)).toArray⟩) (.string s) (.bool false) (ne9q (r := true) (decide_eq_true (unq_of hf0).symm) _ _ _) ?_
  refine wl_pick (.tmp 40) (.tmp 44) (.const (.bool false)) true (.bool false) (fun _ => rfl) rfl rfl rfl ?_
  refine wl_pick (.tmp 38) (.const (.bool true)) (.tmp 45) false (.bool false) (fun _ => rfl) rfl rfl rfl ?_
  refine w_nil (xn_then (w_condF rfl (w_skip (xn_then (w_seq (w_reg ?_))))))
  refine wl_m (.tmp 0) (.string s) ?_
  refine wl_call 22 [(.tmp 48)] _ [.string s] (.string ⟨(qt (by8 s)).toArray⟩) rfl rfl (fun _ _ => by kernel_rfl) (quote_n s _ (by omega)) rfl ?_
  intro w7 hq
  replace M := M.trans hq
  clear hq
  refine wl_call 20 [(.tmp 49)] _ [.string ⟨(qt (by8 s)).toArray⟩] (.tuple #[.string s, .bool true]) rfl rfl (fun _ _ => by kernel_rfl) (uqt_c s _ (by omega)) rfl ?_
  intro w8 hq
  replace M := M.trans hq
  clear hq
  refine wl_m (.tmp 50) (.tuple #[.string s, .bool true]) ?_
  refine wl_un (fun v => Instr.extract v 0) (.tmp 47) (.tuple #[.string s, .bool true]) (.string s) (fun _ => rfl) rfl (by kernel_rfl) rfl ?_
  refine wl_un (fun v => Instr.extract v 1) (.tmp 47) (.tuple #[.string s, .bool true]) (.bool true) (fun _ => rfl) rfl (by kernel_rfl) rfl ?_
  refine wl_m (.tmp 51) (.string s) ?_
  refine wl_m (.tmp 52) (.bool true) ?_
  refine w_nil (xn_then (w_seq (w_reg ?_)))
  refine wl_m (.tmp 8) (.bool true) ?_
  refine wl_m (.tmp 53) (.bool true) ?_
  refine wl_m (.tmp 7) (.string s) ?_
  refine wl_m (.tmp 0) (.string s) ?_
  refine wl_b .eql 9 (.tmp 55) (.tmp 56) (.string s) (.string s) (.bool true) (eq9 (beq_self_eq_true _) _ _ _) ?_
  refine wl_pick (.tmp 54) (.tmp 57) (.const (.bool false)) true (.bool true) (fun _ => rfl) rfl rfl rfl ?_
  refine wl_m (.tmp 58) (.bool true) ?_
  refine w_nil (xn_then (w_ret ?_))
  exact w_ret1 _ _ rfl rfl ⟨rfl, M⟩
 | false =>
  refine w_reg ?_
  refine wl_m (.tmp 0) (.string s) ?_
  refine wl_call 20 [(.tmp 10)] _ [.string s] (.tuple #[.string (unq s).1, .bool false]) rfl rfl (fun _ _ => by kernel_rfl) (unq_c hf0 _ (by omega)) rfl ?_
  intro w1 hq
  replace M := M.trans hq
  clear hq
  refine wl_m (.tmp 11) (.tuple #[.string (unq s).1, .bool false]) ?_
  refine wl_un (fun v => Instr.extract v 0) (.tmp 9) (.tuple #[.string (unq s).1, .bool false]) (.string (unq s).1) (fun _ => rfl) rfl (by kernel_rfl) rfl ?_
  refine wl_un (fun v => Instr.extract v 1) (.tmp 9) (.tuple #[.string (unq s).1, .bool false]) (.bool false) (fun _ => rfl) rfl (by kernel_rfl) rfl ?_
  refine wl_m (.tmp 12) (.string (unq s).1) ?_
  refine wl_m (.tmp 13) (.bool false) ?_
  refine w_nil (xn_then (w_seq (w_reg ?_)))
  refine wl_m (.tmp 0) (.string s) ?_
  refine wl_call 21 [(.tmp 15)] _ [.string s] (.tuple #[.string (unq s).1, .bool false]) rfl rfl (fun _ _ => by kernel_rfl) (ruq_c hf0 _ (by omega)) rfl ?_
  intro w2 hq
  replace M := M.trans hq
  clear hq
  refine wl_m (.tmp 16) (.tuple #[.string (unq s).1, .bool false]) ?_
  refine wl_un (fun v => Instr.extract v 0) (.tmp 14) (.tuple #[.string (unq s).1, .bool false]) (.string (unq s).1) (fun _ => rfl) rfl (by kernel_rfl) rfl ?_
  refine wl_un (fun v => Instr.extract v 1) (.tmp 14) (.tuple #[.string (unq s).1, .bool false]) (.bool false) (fun _ => rfl) rfl (by kernel_rfl) rfl ?_
  refine wl_m (.tmp 17) (.string (unq s).1) ?_
  refine wl_m (.tmp 18) (.bool false) ?_
  refine w_nil (xn_then (w_seq (w_seq (w_reg ?_))))
  refine wl_call 10 [] _ [] (.bool true) rfl rfl (fun _ _ => by kernel_rfl) (live_n _) rfl ?_
  intro w3 hq
  replace M := M.trans hq
  clear hq
  refine wl_un (fun v => Op.unary .not v) (.tmp 19) (.bool true) (.bool false) (fun _ => rfl) rfl (by kernel_rfl) rfl ?_
  refine wl_m (.tmp 20) (.bool false) ?_
  refine wl_m (.tmp 0) (.string s) ?_
  refine wl_call 22 [(.tmp 22)] _ [.string s] (.string ⟨(qt (by8 s)).toArray⟩) rfl rfl (fun _ _ => by kernel_rfl) (quote_n s _ (by omega)) rfl ?_
  intro w4 hq
  replace M := M.trans hq
  clear hq
  refine wl_m (.tmp 0) (.string s) ?_
  refine wl_call 23 [(.tmp 24)] _ [.string s] (.string ⟨(qt (by8 s)).toArray⟩) rfl rfl (fun _ _ => by kernel_rfl) (rquote_n s _ (by omega)) rfl ?_
  intro w5 hq
  replace M := M.trans hq
  clear hq
  refine wl_b .neq 9 (.tmp 23) (.tmp 25) (.string ⟨(qt (by8 s)).toArray⟩) (.string ⟨(qt (by8 s)).toArray⟩) (.bool false) (ne9s _ _ _ _) ?_
  refine wl_pick (.tmp 21) (.const (.bool true)) (.tmp 26) false (.bool false) (fun _ => rfl) rfl rfl rfl ?_
  refine wl_m (.tmp 27) (.bool false) ?_
  refine wl_m (.tmp 3) (.string (unq s).1) ?_
  refine wl_m (.tmp 5) (.string (unq s).1) ?_
  refine wl_b .neq 9 (.tmp 29) (.tmp 30) (.string (unq s).1) (.string (unq s).1) (.bool false) (ne9s _ _ _ _) ?_
  refine wl_pick (.tmp 28) (.const (.bool true)) (.tmp 31) false (.bool false) (fun _ => rfl) rfl rfl rfl ?_
  refine wl_m (.tmp 32) (.bool false) ?_
  refine wl_m (.tmp 4) (.bool false) ?_
  refine wl_m (.tmp 6) (.bool false) ?_
  refine wl_b .neq 4 (.tmp 34) (.tmp 35) (.bool false) (.bool false) (.bool false) (ne4s _ _ _ _) ?_
  refine wl_pick (.tmp 33) (.const (.bool true)) (.tmp 36) false (.bool false) (fun _ => rfl) rfl rfl rfl ?_
  refine wl_m (.tmp 37) (.bool false) ?_
  refine wl_m (.tmp 4) (.bool false) ?_
  refine wl_m (.tmp 39) (.bool false) ?_
  refine wl_skip rfl (wl_skip rfl (wl_skip rfl (wl_skip rfl ?_)))
  refine wl_pick (.tmp 40) (.tmp 44) (.const (.bool false)) false (.bool false) (fun _ => rfl) rfl rfl rfl ?_
  refine wl_pick (.tmp 38) (.const (.bool true)) (.tmp 45) false (.bool false) (fun _ => rfl) rfl rfl rfl ?_
  refine w_nil (xn_then (w_condF rfl (w_skip (xn_then (w_seq (w_reg ?_))))))
  refine wl_m (.tmp 0) (.string s) ?_
  refine wl_call 22 [(.tmp 48)] _ [.string s] (.string ⟨(qt (by8 s)).toArray⟩) rfl rfl (fun _ _ => by kernel_rfl) (quote_n s _ (by omega)) rfl ?_
  intro w6 hq
  replace M := M.trans hq
  clear hq
  refine wl_call 20 [(.tmp 49)] _ [.string ⟨(qt (by8 s)).toArray⟩] (.tuple #[.string s, .bool true]) rfl rfl (fun _ _ => by kernel_rfl) (uqt_c s _ (by omega)) rfl ?_
  intro w7 hq
  replace M := M.trans hq
  clear hq
  refine wl_m (.tmp 50) (.tuple #[.string s, .bool true]) ?_
  refine wl_un (fun v => Instr.extract v 0) (.tmp 47) (.tuple #[.string s, .bool true]) (.string s) (fun _ => rfl) rfl (by kernel_rfl) rfl ?_
  refine wl_un (fun v => Instr.extract v 1) (.tmp 47) (.tuple #[.string s, .bool true]) (.bool true) (fun _ => rfl) rfl (by kernel_rfl) rfl ?_
  refine wl_m (.tmp 51) (.string s) ?_
  refine wl_m (.tmp 52) (.bool true) ?_
  refine w_nil (xn_then (w_seq (w_reg ?_)))
  refine wl_m (.tmp 8) (.bool true) ?_
  refine wl_m (.tmp 53) (.bool true) ?_
  refine wl_m (.tmp 7) (.string s) ?_
  refine wl_m (.tmp 0) (.string s) ?_
  refine wl_b .eql 9 (.tmp 55) (.tmp 56) (.string s) (.string s) (.bool true) (eq9 (beq_self_eq_true _) _ _ _) ?_
  refine wl_pick (.tmp 54) (.tmp 57) (.const (.bool false)) true (.bool true) (fun _ => rfl) rfl rfl rfl ?_
  refine wl_m (.tmp 58) (.bool true) ?_
  refine w_nil (xn_then (w_ret ?_))
  exact w_ret1 _ _ rfl rfl ⟨rfl, M⟩
end Go.Proofs.YthgknegocfhdbaaDoor.V
