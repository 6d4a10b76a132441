/-
  A part of the proof.
-/
import Derived.Maps.AppendAt
import Derived.Deep.AppendLies
import Derived.Laws.BytesString
import Derived.Test.YtdcojpbgijkmgaaDoorHalf
import Derived.Test.YtdcojpbgijkmgaaDoorU3
/-
  Runs of digits; when a text is a decimal one, in closed form.
-/
namespace Go.Proofs.YtdcojpbgijkmgaaDoor
open Go.RowKit
theorem re_ge (s : ByteArray) (k : Nat) : k ≤ re s k := by
  by_cases h : dgt (bt s k) = true
  · have h9 := dgt_in h; rw [re_on h]; have := re_ge s (k + 1); omega
  · rw [re_end (by simpa using h)]; omega
theorem re_lt {s : ByteArray} {k : Nat} (h : dgt (bt s k) = true) : k < re s k := by
  rw [re_on h]; have := re_ge s (k + 1); omega
theorem re_le {s : ByteArray} {k : Nat} (hk : k ≤ s.size) : re s k ≤ s.size := by
  by_cases h : dgt (bt s k) = true
  · rw [re_on h]; have := dgt_in h; exact re_le (by omega)
  · rw [re_end (by simpa using h)]; omega
theorem re_stop (s : ByteArray) (k : Nat) : dgt (bt s (re s k)) = false := by
  by_cases h : dgt (bt s k) = true
  · have h9 := dgt_in h; rw [re_on h]; exact re_stop s (k + 1)
  · rw [re_end (by simpa using h)]; simpa using h
theorem re_in {s : ByteArray} {k j : Nat} (h1 : k ≤ j) (h2 : j < re s k) : dgt (bt s j) = true := by
  by_cases h : dgt (bt s k) = true
  · by_cases e : k = j
    · subst e; exact h
    · have h9 := dgt_in h; rw [re_on h] at h2; exact re_in (k := k + 1) (by omega) h2
  · rw [re_end (by simpa using h)] at h2; omega
theorem re_eq {s : ByteArray} {k e : Nat} (h1 : k ≤ e) (h2 : ∀ j, k ≤ j → j < e → dgt (bt s j) = true) (h3 : dgt (bt s e) = false) : re s k = e := by
  by_cases hk : k = e
  · subst hk; exact re_end h3
  · have hd := h2 k (Nat.le_refl _) (by omega)
    have h9 : k < e := by omega
    rw [re_on hd]
    exact re_eq (by omega) (fun j a b => h2 j (by omega) b) h3
theorem az_iff {s : ByteArray} {k : Nat} : az s k = true ↔ ∀ j, k ≤ j → j < re s k → bt s j = 48 := by
  by_cases h : dgt (bt s k) = true
  · have h9 := dgt_in h
    rw [az_on h, Bool.and_eq_true, az_iff (s := s) (k := k + 1), re_on h]
    constructor
    · rintro ⟨a, b⟩ j h1 h2
      by_cases e : k = j
      · subst e; exact eq_of_beq a
      · exact b j (by omega) h2
    · intro a
      have := re_ge s (k + 1)
      exact ⟨by rw [a k (Nat.le_refl _) (by omega)]; rfl, fun j h1 h2 => a j (by omega) h2⟩
  · have h' : dgt (bt s k) = false := by simpa using h
    rw [az_end h', re_end h']
    exact ⟨fun _ j a b => by omega, fun _ => rfl⟩
theorem dgt48 : dgt 48 = true := rfl
theorem dgt46 : dgt 46 = false := rfl
/-- Is a text, from the first digit's place on, a decimal one? -/
def whp (s : ByteArray) (p : Nat) (b : Bool) : Bool :=
  decide (re s p ≠ p) && !((bt s p == 48) && decide (re s p > p + 1)) &&
    (if re s p < s.size then (bt s (re s p) == 46) && decide (re s p + 1 ≠ s.size) && decide (re s (re s p + 1) = s.size) && (!az s p || !az s (re s p + 1) || !b) else (!az s p || !b))
def whl (s : ByteArray) : Bool := if bt s 0 == 45 then whp s 1 true else whp s 0 false
theorem ah_of {s : ByteArray} {e : Nat} {b : Bool} (hs : 0 < s.size) (hel : e ≤ s.size) :
    (ah s e b 0 = s.size) ↔ (if e < s.size then bt s e = 46 ∧ e + 1 ≠ s.size ∧ re s (e + 1) = s.size ∧ (az s (e + 1) = false ∨ b = false) else b = false) := by
  unfold ah
  by_cases he : e < s.size
  · rw [if_pos he]
    by_cases h46 : bt s e = 46
    · rw [h46]
      by_cases hd : dgt (bt s (e + 1)) = true
      · have := re_lt hd; have := dgt_in hd
        rw [hd]
        cases hb : b <;> cases ha : az s (e + 1) <;> simp <;> omega
      · have hd' : dgt (bt s (e + 1)) = false := by simpa using hd
        rw [hd', re_end hd']
        cases hb : b <;> simp <;> omega
    · have : (bt s e == 46) = false := beq_eq_false_iff_ne.2 h46
      rw [this]
      cases hb : b <;> simp [h46] <;> omega
  · rw [if_neg he]
    have e1 : e = s.size := by omega
    have : bt s e = 0 := bt_out he
    rw [this]
    cases hb : b <;> simp <;> omega
theorem fi_whp {s : ByteArray} {p : Nat} {b : Bool} (hs : 0 < s.size) (hp : p ≤ s.size) : decide (fi s p b = s.size) = whp s p b := by
  rw [Bool.eq_iff_iff, decide_eq_true_iff]
  unfold fi whp
  by_cases h48 : bt s p = 48
  · have hd : dgt (bt s p) = true := by rw [h48]; rfl
    have hin := dgt_in hd
    rw [h48, re_on hd, az_on hd, h48]
    simp only [beq_self_eq_true, if_true, Bool.true_and]
    have hge := re_ge s (p + 1)
    by_cases hd2 : dgt (bt s (p + 1)) = true
    · have hl := re_lt hd2; have := dgt_in hd2
      have h46 : (bt s (p + 1) == 46) = false := by
        cases h : (bt s (p + 1) == 46) with
        | false => rfl
        | true => rw [eq_of_beq h] at hd2; cases hd2
      unfold ah
      rw [h46]
      cases b <;> simp <;> omega
    · have hd2' : dgt (bt s (p + 1)) = false := by simpa using hd2
      rw [ah_of hs (by omega), re_end hd2', az_end hd2']
      by_cases he : p + 1 < s.size
      · rw [if_pos he, if_pos he]
        cases b <;> simp [and_assoc]
      · rw [if_neg he, if_neg he]
        cases b <;> simp
  · have e48 : (bt s p == 48) = false := beq_eq_false_iff_ne.2 h48
    rw [e48]
    simp only [Bool.false_eq_true, if_false, Bool.false_and, Bool.not_false, Bool.and_true]
    by_cases hd : dgt (bt s p) = true
    · have hl := re_lt hd
      rw [if_pos hd, ah_of hs (re_le hp), az_on hd, e48]
      have : re s p ≠ p := by omega
      simp only [this, ne_eq, not_false_eq_true, decide_true, Bool.true_and, Bool.false_and, Bool.not_false, Bool.true_or, Bool.and_true]
      by_cases he : re s p < s.size
      · rw [if_pos he, if_pos he]; simp [and_assoc]
      · rw [if_neg he, if_neg he]; simp
    · have hd' : dgt (bt s p) = false := by simpa using hd
      rw [if_neg (by simpa using hd), re_end hd']
      simp; omega
theorem whl_dec (s : ByteArray) : whl s = isDec s := by
  unfold isDec whl pfx
  rw [emp_iff]
  by_cases hs : s.size = 0
  · have h0 : bt s 0 = 0 := bt_out (by omega)
    have hd : dgt (bt s 0) = false := by rw [h0]; rfl
    rw [decide_eq_true hs, h0]
    unfold whp
    rw [re_end hd]
    simp
  · rw [decide_eq_false hs]
    have hb : ∀ n : Nat, ((n : Int) == (s.size : Int)) = decide (n = s.size) := fun n => by
      rw [Bool.eq_iff_iff, beq_iff_eq, decide_eq_true_iff]; omega
    rw [hb]
    cases h : (bt s 0 == 45) with
    | true =>
      rw [if_pos rfl, if_pos rfl, fi_whp (by omega) (by omega)]; rfl
    | false =>
      rw [if_neg (by simp), if_neg (by simp), fi_whp (by omega) (by omega)]; rfl
end Go.Proofs.YtdcojpbgijkmgaaDoor
/-
  A decimal text and its parts.
-/
namespace Go.Proofs.YtdcojpbgijkmgaaDoor
open Go.RowKit
/-- The sign. -/
def sg8 (b : Bool) : List UInt8 := if b then [45] else []
def tn (o : Option UInt8) : Int := match o with | none => 0 | some x => (x.toNat : Int)
theorem bt_tn (s : ByteArray) (k : Nat) : bt s k = tn ((by8 s)[k]?) := by
  by_cases h : k < s.size
  · rw [bt_in h]
    have h2 : k < (by8 s).length := by rw [by8_len]; exact h
    rw [List.getElem?_eq_getElem h2]
    rfl
  · rw [bt_out h]
    have h2 : ¬ k < (by8 s).length := by rw [by8_len]; exact h
    rw [List.getElem?_eq_none (by omega)]
    rfl
/-- A decimal text's parts: the sign, the digits ahead of the point and those behind. -/
structure Df (l : List UInt8) (b : Bool) (A B : List UInt8) : Prop where
  eq : l = sg8 b ++ (A ++ (if B = [] then [] else 46 :: B))
  ne : A ≠ []
  ad : ∀ x ∈ A, isD x = true
  bd : ∀ x ∈ B, isD x = true
  ld : A.length = 1 ∨ A.head? ≠ some 48
  some : b = true → ∃ x ∈ A ++ B, x ≠ 48
theorem run_dig {s : ByteArray} {k n : Nat} (hn : k + n ≤ re s k) {x : UInt8} (hx : x ∈ ((by8 s).drop k).take n) : isD x = true := by
  obtain ⟨j, hj, rfl⟩ := List.getElem_of_mem hx
  have h1 : j < n := by simp at hj; omega
  have h2 := re_in (s := s) (k := k) (j := k + j) (by omega) (by omega)
  rw [bt_tn] at h2
  have h3 : k + j < (by8 s).length := by simp at hj ⊢; omega
  rw [List.getElem?_eq_getElem h3] at h2
  have e : (((by8 s).drop k).take n)[j] = (by8 s)[k + j] := by simp
  rw [e]; exact h2
theorem drop_run (l : List UInt8) (k e : Nat) (h : k ≤ e) : l.drop k = (l.drop k).take (e - k) ++ l.drop e := by
  conv => lhs; rw [← List.take_append_drop (e - k) (l.drop k)]
  rw [List.drop_drop, show k + (e - k) = e by omega]
theorem tn48 {o : Option UInt8} (h : tn o ≠ 48) : o ≠ some 48 := fun e => h (by rw [e]; rfl)
theorem nz_of {s : ByteArray} {k : Nat} (hk : k ≤ s.size) (h : az s k = false) : ∃ x ∈ ((by8 s).drop k).take (re s k - k), x ≠ 48 := by
  have h1 : ¬ ∀ j, k ≤ j → j < re s k → bt s j = 48 := fun h2 => by rw [az_iff.2 h2] at h; cases h
  simp only [Classical.not_forall] at h1
  obtain ⟨j, h2, h3, h4⟩ := h1
  have h5 := re_le hk
  have h6 : j < (by8 s).length := by rw [by8_len]; omega
  rw [bt_tn, List.getElem?_eq_getElem h6] at h4
  refine ⟨(by8 s)[j], ?_, fun e => h4 (by rw [e]; rfl)⟩
  rw [List.mem_iff_getElem]
  exact ⟨j - k, by simp; rw [← by8_len] at h5; simp at h5 h6; omega, by simp only [List.getElem_take, List.getElem_drop]; congr 1; omega⟩
theorem df_of {s : ByteArray} {p : Nat} {b : Bool} (hp : p ≤ s.size) (hsg : by8 s = sg8 b ++ (by8 s).drop p) (h : whp s p b = true) : ∃ A B, Df (by8 s) b A B ∧ (by8 s).drop p = A ++ (if B = [] then [] else 46 :: B) := by
  unfold whp at h
  simp only [Bool.and_eq_true, decide_eq_true_iff, Bool.not_eq_true'] at h
  obtain ⟨⟨h1, h2⟩, h3⟩ := h
  have hge := re_ge s p
  have hle := re_le hp
  have hl := by8_len s
  have hA : ((by8 s).drop p).take (re s p - p) ≠ [] := fun e => by
    have := congrArg List.length e; simp only [List.length_take, List.length_drop, List.length_nil, hl] at this; omega
  have had : ∀ x ∈ ((by8 s).drop p).take (re s p - p), isD x = true := fun x hx => run_dig (by omega) hx
  have hld : (((by8 s).drop p).take (re s p - p)).length = 1 ∨ (((by8 s).drop p).take (re s p - p)).head? ≠ some 48 := by
    by_cases h48 : bt s p = 48
    · left
      rw [h48] at h2; simp at h2
      simp only [List.length_take, List.length_drop, hl]; omega
    · right
      rw [bt_tn] at h48
      rw [List.head?_eq_getElem?, List.getElem?_take_of_lt (by omega), List.getElem?_drop]
      exact tn48 h48
  by_cases he : re s p < s.size
  · rw [if_pos he] at h3
    simp only [Bool.and_eq_true, decide_eq_true_iff, beq_iff_eq, Bool.or_eq_true, Bool.not_eq_true'] at h3
    obtain ⟨⟨⟨h4, h5⟩, h6⟩, h7⟩ := h3
    have hlt : re s p < (by8 s).length := by omega
    have e1 : (by8 s).drop (re s p) = 46 :: (by8 s).drop (re s p + 1) := by
      rw [List.drop_eq_getElem_cons hlt]
      rw [bt_tn, List.getElem?_eq_getElem hlt] at h4
      congr 1
      have h8 : (((by8 s)[re s p]).toNat : Int) = 46 := h4
      apply UInt8.toNat_inj.1
      have : (46 : UInt8).toNat = 46 := rfl
      omega
    have hB : (by8 s).drop (re s p + 1) ≠ [] := fun e => by
      have := congrArg List.length e; simp only [List.length_drop, List.length_nil, hl] at this; omega
    have hBt : ((by8 s).drop (re s p + 1)).take (re s (re s p + 1) - (re s p + 1)) = (by8 s).drop (re s p + 1) := by
      rw [List.take_of_length_le]; simp only [List.length_drop, hl]; omega
    have e2 : (by8 s).drop p = ((by8 s).drop p).take (re s p - p) ++ (if (by8 s).drop (re s p + 1) = [] then [] else 46 :: (by8 s).drop (re s p + 1)) := by
      rw [if_neg hB, ← e1]; exact drop_run _ _ _ hge
    refine ⟨_, (by8 s).drop (re s p + 1), ⟨?_, hA, had, fun x hx => ?_, hld, fun hb => ?_⟩, e2⟩
    · exact hsg.trans (congrArg (sg8 b ++ ·) e2)
    · rw [← hBt] at hx; exact run_dig (by omega) hx
    · rcases h7 with (h7 | h7) | h7
      · obtain ⟨x, hx, hn⟩ := nz_of hp h7
        exact ⟨x, List.mem_append_left _ hx, hn⟩
      · obtain ⟨x, hx, hn⟩ := nz_of (by omega) h7
        rw [hBt] at hx
        exact ⟨x, List.mem_append_right _ hx, hn⟩
      · rw [hb] at h7; cases h7
  · rw [if_neg he] at h3
    have e2 : (by8 s).drop p = ((by8 s).drop p).take (re s p - p) ++ (if ([] : List UInt8) = [] then [] else 46 :: []) := by
      rw [if_pos rfl, List.append_nil, List.take_of_length_le]; simp only [List.length_drop, hl]; omega
    refine ⟨_, [], ⟨?_, hA, had, fun x hx => (by cases hx), hld, fun hb => ?_⟩, e2⟩
    · exact hsg.trans (congrArg (sg8 b ++ ·) e2)
    · rw [hb] at h3
      simp only [Bool.or_eq_true, Bool.not_eq_true', Bool.not_true, Bool.false_eq_true, or_false] at h3
      obtain ⟨x, hx, hn⟩ := nz_of hp h3
      exact ⟨x, List.mem_append_left _ hx, hn⟩
theorem df_dec {s : ByteArray} (h : isDec s = true) : ∃ b A B, Df (by8 s) b A B := by
  rw [← whl_dec] at h
  unfold whl at h
  cases hb : (bt s 0 == 45) with
  | true =>
    rw [hb, if_pos rfl] at h
    have hin := eq_in (by decide) hb
    have h45 : by8 s = sg8 true ++ (by8 s).drop 1 := by
      have h0 : 0 < (by8 s).length := by rw [by8_len]; exact hin
      rw [bt_tn, List.getElem?_eq_getElem h0] at hb
      have h8 : (((by8 s)[0]).toNat : Int) = 45 := eq_of_beq hb
      have e : (by8 s)[0] = 45 := by
        apply UInt8.toNat_inj.1
        have : (45 : UInt8).toNat = 45 := rfl
        omega
      have e2 := List.drop_eq_getElem_cons h0
      rw [e] at e2
      exact e2
    obtain ⟨A, B, h1, _⟩ := df_of (by omega) h45 h
    exact ⟨true, A, B, h1⟩
  | false =>
    rw [hb, if_neg (by simp)] at h
    obtain ⟨A, B, h1, _⟩ := df_of (b := false) (by omega) rfl h
    exact ⟨false, A, B, h1⟩
theorem tn_in {x : UInt8} (h : isD x = true) : dgt (tn (some x)) = true := h
theorem dec_df {s : ByteArray} {b : Bool} {A B : List UInt8} (h : Df (by8 s) b A B) : isDec s = true := by
  have hl := by8_len s
  obtain ⟨heq, hne, had, hbd, hld, hsome⟩ := h
  have hApos : 0 < A.length := List.length_pos_iff.2 hne
  -- the letters
  have hA : ∀ (p : Nat) (S : List UInt8), by8 s = S ++ (A ++ (if B = [] then [] else 46 :: B)) → p = S.length →
      whp s p b = true := fun p S e hp => by
    have hgA : ∀ j, (hj : j < A.length) → bt s (p + j) = tn (some A[j]) := fun j hj => by
      rw [bt_tn, e, List.getElem?_append_right (by omega), hp, Nat.add_sub_cancel_left, List.getElem?_append_left hj, List.getElem?_eq_getElem hj]
    have hsz : s.size = p + A.length + (if B = [] then 0 else B.length + 1) := by
      rw [← hl, e]; simp only [List.length_append, hp]; split <;> simp <;> omega
    have hend : dgt (bt s (p + A.length)) = false := by
      rw [bt_tn, e, List.getElem?_append_right (by omega), hp, Nat.add_sub_cancel_left, List.getElem?_append_right (Nat.le_refl _), Nat.sub_self]
      split <;> rfl
    have hre : re s p = p + A.length := re_eq (by omega) (fun j h1 h2 => by
      have := hgA (j - p) (by omega)
      rw [show p + (j - p) = j by omega] at this
      rw [this]; exact tn_in (had _ (List.getElem_mem _))) hend
    have haz : az s p = true → ∀ x ∈ A, x = 48 := fun h x hx => by
      obtain ⟨j, hj, rfl⟩ := List.getElem_of_mem hx
      have h1 := az_iff.1 h (p + j) (by omega) (by omega)
      rw [hgA j hj] at h1
      apply UInt8.toNat_inj.1
      have e48 : (48 : UInt8).toNat = 48 := rfl
      have h1' : ((A[j]).toNat : Int) = 48 := h1
      omega
    unfold whp
    rw [hre]
    have h48 : ((bt s p == 48) && decide (p + A.length > p + 1)) = false := by
      rcases hld with hl1 | hl1
      · rw [hl1]; simp
      · have : (bt s p == 48) = false := beq_eq_false_iff_ne.2 fun e2 => hl1 (by
          have h0 := hgA 0 hApos
          rw [Nat.add_zero, e2] at h0
          rw [List.head?_eq_getElem?, List.getElem?_eq_getElem hApos]
          congr 1
          apply UInt8.toNat_inj.1
          have e48 : (48 : UInt8).toNat = 48 := rfl
          have h1' : (48 : Int) = ((A[0]).toNat : Int) := h0
          omega)
        rw [this]; rfl
    rw [h48]
    have hne2 : decide (p + A.length ≠ p) = true := decide_eq_true (by omega)
    rw [hne2]
    by_cases hB : B = []
    · rw [if_pos hB] at hsz
      rw [if_neg (by omega)]
      cases hb : b with
      | false => simp
      | true =>
        obtain ⟨x, hx, hn⟩ := hsome hb
        rw [hB, List.append_nil] at hx
        cases ha : az s p with
        | false => simp
        | true => exact absurd (haz ha x hx) hn
    · rw [if_neg hB] at hsz
      have hBpos : 0 < B.length := List.length_pos_iff.2 hB
      rw [if_pos (by omega)]
      have hgB : ∀ j, (hj : j < B.length) → bt s (p + A.length + 1 + j) = tn (some B[j]) := fun j hj => by
        rw [bt_tn, e, List.getElem?_append_right (by omega), hp, show S.length + A.length + 1 + j - S.length = A.length + (1 + j) by omega, List.getElem?_append_right (by omega), Nat.add_sub_cancel_left, if_neg hB, Nat.add_comm 1 j, List.getElem?_cons_succ, List.getElem?_eq_getElem hj]
      have h46 : (bt s (p + A.length) == 46) = true := by
        rw [bt_tn, e, List.getElem?_append_right (by omega), hp, Nat.add_sub_cancel_left, List.getElem?_append_right (Nat.le_refl _), Nat.sub_self, if_neg hB]
        rfl
      have hre2 : re s (p + A.length + 1) = s.size := re_eq (by omega) (fun j h1 h2 => by
        have := hgB (j - (p + A.length + 1)) (by omega)
        rw [show p + A.length + 1 + (j - (p + A.length + 1)) = j by omega] at this
        rw [this]; exact tn_in (hbd _ (List.getElem_mem _))) (by rw [bt_out (by omega)]; rfl)
      have haz2 : az s (p + A.length + 1) = true → ∀ x ∈ B, x = 48 := fun h x hx => by
        obtain ⟨j, hj, rfl⟩ := List.getElem_of_mem hx
        have h1 := az_iff.1 h (p + A.length + 1 + j) (by omega) (by omega)
        rw [hgB j hj] at h1
        apply UInt8.toNat_inj.1
        have e48 : (48 : UInt8).toNat = 48 := rfl
        have h1' : ((B[j]).toNat : Int) = 48 := h1
        omega
      rw [h46, hre2, decide_eq_true (show p + A.length + 1 ≠ s.size by omega)]
      cases hb : b with
      | false => simp
      | true =>
        obtain ⟨x, hx, hn⟩ := hsome hb
        cases ha : az s p with
        | false => simp
        | true =>
          cases ha2 : az s (p + A.length + 1) with
          | false => simp
          | true =>
            rcases List.mem_append.1 hx with hx | hx
            · exact absurd (haz ha x hx) hn
            · exact absurd (haz2 ha2 x hx) hn
  have h0 : ∀ x y : UInt8, x = y → True := fun _ _ _ => trivial
  rw [← whl_dec]
  unfold whl
  cases hb : b with
  | true =>
    rw [hb] at heq hA
    have : (bt s 0 == 45) = true := by rw [bt_tn, heq]; rfl
    rw [this, if_pos rfl]
    exact hA 1 _ heq rfl
  | false =>
    rw [hb] at heq hA
    have : (bt s 0 == 45) = false := by
      rw [bt_tn, heq]
      cases A with
      | nil => exact absurd rfl hne
      | cons a r =>
        have h1 := had a (by simp)
        refine beq_eq_false_iff_ne.2 fun e => ?_
        have e2 : (a.toNat : Int) = 45 := e
        unfold isD at h1
        rw [e2] at h1
        cases h1
    rw [this, if_neg (by simp)]
    exact hA 0 _ heq rfl
end Go.Proofs.YtdcojpbgijkmgaaDoor
/-
  A decimal text's parts: what the program's cuts make of them; digits with no 0 ahead.
-/
namespace Go.Proofs.YtdcojpbgijkmgaaDoor
open Go.RowKit
theorem dig_ne {x : UInt8} (h : isD x = true) (c : UInt8) (hc : isD c = false) : x ≠ c := fun e => by rw [e, hc] at h; cases h
theorem d45 : isD 45 = false := rfl
theorem d46 : isD 46 = false := rfl
theorem isD_b {x : UInt8} (h : isD x = true) : 48 ≤ (x.toNat : Int) ∧ (x.toNat : Int) ≤ 57 := by
  unfold isD at h; simpa using h
/-! The program's cuts. -/
theorem ixb_hit : ∀ (A B : List UInt8), (∀ x ∈ A, isD x = true) → Lib.indexByte (A ++ 46 :: B) 46 = (A.length : Int)
  | [], B, _ => by simp [Lib.indexByte]
  | a :: A, B, h => by
    have ha := dig_ne (h a (by simp)) 46 d46
    have ih := ixb_hit A B (fun x hx => h x (by simp [hx]))
    simp only [List.cons_append, Lib.indexByte, ih]
    rw [if_neg (by simpa using ha), if_neg (by simp)]
    simp
theorem ixb_miss : ∀ (A : List UInt8), (∀ x ∈ A, isD x = true) → Lib.indexByte A 46 = -1
  | [], _ => rfl
  | a :: A, h => by
    have ha := dig_ne (h a (by simp)) 46 d46
    have ih := ixb_miss A (fun x hx => h x (by simp [hx]))
    simp only [Lib.indexByte, ih]
    rw [if_neg (by simpa using ha)]
    rfl
theorem cut_df {A B : List UInt8} (h : ∀ x ∈ A, isD x = true) : (Lib.cut (A ++ (if B = [] then [] else 46 :: B)) [46]).1 = A ∧ (Lib.cut (A ++ (if B = [] then [] else 46 :: B)) [46]).2.1 = B := by
  unfold Lib.cut
  rw [Lib.index_one]
  by_cases hB : B = []
  · subst hB
    rw [if_pos rfl, List.append_nil, ixb_miss A h]
    exact ⟨rfl, rfl⟩
  · rw [if_neg hB, ixb_hit A B h, if_pos (by omega)]
    simp
theorem pre_df {l A B : List UInt8} {b : Bool} (h : Df l b A B) : Lib.hasPrefix l [45] = b ∧ Lib.trimPrefix l [45] = A ++ (if B = [] then [] else 46 :: B) := by
  have hp : Lib.hasPrefix l [45] = b := by
    rw [h.eq]
    unfold Lib.hasPrefix
    cases b with
    | true => rfl
    | false =>
      cases hA : A with
      | nil => exact absurd hA h.ne
      | cons a r =>
        have := dig_ne (h.ad a (by rw [hA]; simp)) 45 d45
        simp [sg8, List.isPrefixOf]
        exact fun e => this e.symm
  refine ⟨hp, ?_⟩
  unfold Lib.trimPrefix
  rw [hp]
  cases b with
  | true => rw [if_pos rfl, h.eq]; rfl
  | false => rw [if_neg (by simp), h.eq]; rfl
/-! Digits with no 0 ahead. -/
abbrev nl (l : List UInt8) : List Int := l.map fun x => (x.toNat : Int)
abbrev dw0 (l : List UInt8) : List UInt8 := l.dropWhile (· == 48)
structure Cn (z : List UInt8) : Prop where
  ne : z ≠ []
  dg : ∀ x ∈ z, isD x = true
  hd : z.length = 1 ∨ z.head? ≠ some 48
theorem dw0_mem {l : List UInt8} {x : UInt8} (h : x ∈ dw0 l) : x ∈ l := (List.dropWhile_sublist _).subset h
theorem dw0_head {l : List UInt8} : (dw0 l).head? ≠ some 48 := by
  intro h
  cases hd : dw0 l with
  | nil => rw [hd] at h; cases h
  | cons a r =>
    rw [hd] at h
    cases h
    have := List.head_dropWhile_not (p := (· == (48 : UInt8))) (l := l) (by rw [show l.dropWhile (· == 48) = 48 :: r from hd]; simp)
    simp only [show l.dropWhile (· == 48) = 48 :: r from hd] at this
    simp at this
theorem cn_woz {L : List UInt8} (h : ∀ x ∈ L, isD x = true) : Cn (woz L) := by
  unfold woz
  by_cases hz : L.dropWhile (· == 48) = []
  · rw [if_pos hz]
    exact ⟨by simp, by intro x hx; simp at hx; subst hx; rfl, Or.inl rfl⟩
  · rw [if_neg hz]
    exact ⟨hz, fun x hx => h x (dw0_mem hx), Or.inr dw0_head⟩
theorem cn_isT {z : List UInt8} (h : Cn z) : isT ⟨z.toArray⟩ := by
  have hl : (⟨z.toArray⟩ : ByteArray).size = z.length := tx_size z
  have hp : 0 < z.length := List.length_pos_iff.2 h.ne
  refine ⟨by omega, fun hh => ?_, fun j hj _ => ?_⟩
  · obtain ⟨h1, h2⟩ := hh
    rcases h.hd with h3 | h3
    · omega
    · apply h3
      rw [List.head?_eq_getElem?, List.getElem?_eq_getElem hp]
      congr 1
      apply UInt8.toNat_inj.1
      have e48 : (48 : UInt8).toNat = 48 := rfl
      have h2' : ((z[0]).toNat : Int) = 48 := h2
      omega
  · have hj' : j < z.length := by omega
    exact isD_b (h.dg (z[j]) (List.getElem_mem hj'))
theorem pvk_z8 (z : List UInt8) : pvk ⟨z.toArray⟩ (⟨z.toArray⟩ : ByteArray).size = pv z := by
  unfold pvk
  rw [tx_size]
  simp
theorem pv_nn : ∀ (z : List UInt8) (v : Int), (∀ x ∈ z, isD x = true) → 0 ≤ v → v ≤ z.foldl (fun v c => v * 10 + ((c.toNat : Int) - 48)) v
  | [], v, _, _ => by simp
  | x :: z, v, h, hv => by
    have hx := isD_b (h x (by simp))
    have := pv_nn z (v * 10 + ((x.toNat : Int) - 48)) (fun y hy => h y (by simp [hy])) (by omega)
    simp only [List.foldl_cons]
    omega
theorem pv_0 {z : List UInt8} (h : ∀ x ∈ z, isD x = true) : 0 ≤ pv z := pv_nn z 0 h (by omega)
theorem pv_pos {z : List UInt8} (h : ∀ x ∈ z, isD x = true) (hne : z ≠ []) (hh : z.head? ≠ some 48) : 0 < pv z := by
  cases z with
  | nil => exact absurd rfl hne
  | cons x r =>
    have hx := isD_b (h x (by simp))
    have hx48 : (x.toNat : Int) ≠ 48 := fun e => hh (by
      have : x = 48 := by
        apply UInt8.toNat_inj.1
        have e48 : (48 : UInt8).toNat = 48 := rfl
        omega
      rw [this]; rfl)
    have := pv_nn r (0 * 10 + ((x.toNat : Int) - 48)) (fun y hy => h y (by simp [hy])) (by omega)
    unfold pv
    simp only [List.foldl_cons]
    omega
theorem dw0_nil : ∀ (L : List UInt8), dw0 L = [] → ∀ y ∈ L, y = 48
  | [], _, y, hy => by cases hy
  | x :: L, e, y, hy => by
    by_cases hx : x = 48
    · subst hx
      have e2 : dw0 L = [] := by simpa [dw0, List.dropWhile_cons] using e
      rcases List.mem_cons.1 hy with rfl | hy
      · rfl
      · exact dw0_nil L e2 y hy
    · have : (x == 48) = false := beq_eq_false_iff_ne.2 hx
      simp [dw0, this] at e
theorem dw0_ne {L : List UInt8} (h : ∃ x ∈ L, x ≠ 48) : dw0 L ≠ [] := fun e => by
  obtain ⟨x, hx, hn⟩ := h
  exact hn (dw0_nil L e x hx)
/-- What a decimal text's digits say. -/
abbrev nof (A B : List UInt8) : Int := pv (woz (A ++ B))
theorem Df.dg {l A B : List UInt8} {b : Bool} (h : Df l b A B) : ∀ x ∈ A ++ B, isD x = true := fun x hx => by
  rcases List.mem_append.1 hx with hx | hx
  · exact h.ad x hx
  · exact h.bd x hx
theorem Df.n0 {l A B : List UInt8} {b : Bool} (h : Df l b A B) : 0 ≤ nof A B := pv_0 (cn_woz h.dg).dg
theorem Df.ck {l A B : List UInt8} {b : Bool} (h : Df l b A B) (hk : B.length ≤ 18) : ck b (nof A B) (B.length : Int) = 0 := by
  unfold YtdcojpbgijkmgaaDoor.ck sc
  rw [decide_eq_true (show (0 : Int) ≤ (B.length : Int) by omega), decide_eq_true (show (B.length : Int) ≤ 18 by omega)]
  cases hb : b with
  | false => rfl
  | true =>
    have hne := dw0_ne (h.some hb)
    have : 0 < nof A B := by
      have hc := cn_woz h.dg
      refine pv_pos hc.dg hc.ne ?_
      unfold woz
      rw [if_neg hne]
      exact dw0_head
    rw [decide_eq_false (show ¬ nof A B = 0 by omega)]
    rfl
theorem pv48 : pv [48] = 0 := rfl
theorem nl_str (D : List UInt8) : strOf (nl D) = ⟨D.toArray⟩ := by
  have h := strOf_list (nl D)
  have e : (strOf (nl D)).data.toList = D := by
    rw [h, List.map_map]
    conv => rhs; rw [← List.map_id D]
    apply List.map_congr_left
    intro x _
    simp
  calc strOf (nl D) = ⟨(strOf (nl D)).data⟩ := rfl
    _ = ⟨(strOf (nl D)).data.toList.toArray⟩ := by rw [Array.toArray_toList]
    _ = ⟨D.toArray⟩ := by rw [e]
end Go.Proofs.YtdcojpbgijkmgaaDoor
/-
  Texts that the document fixes.
-/
namespace Go.Proofs.YtdcojpbgijkmgaaDoor
open Go.RowKit Go.Lib
abbrev s3 : ByteArray := ⟨#[51]⟩
abbrev s152 : ByteArray := ⟨#[49, 46, 53, 46, 50]⟩
theorem pfx_s3 : pfx s3 = 1 := by
  have b0 : bt s3 0 = 51 := rfl
  have b1 : bt s3 1 = 0 := rfl
  have r1 : re s3 1 = 1 := re_end (by rw [b1]; rfl)
  have r0 : re s3 0 = 1 := by rw [re_on (by rw [b0]; rfl), r1]
  unfold pfx fi ah
  rw [b0, r0, b1]
  rfl
theorem pfx_s152 : pfx s152 = 3 := by
  have b0 : bt s152 0 = 49 := rfl
  have b1 : bt s152 1 = 46 := rfl
  have b2 : bt s152 2 = 53 := rfl
  have b3 : bt s152 3 = 46 := rfl
  have r1 : re s152 1 = 1 := re_end (by rw [b1]; rfl)
  have r0 : re s152 0 = 1 := by rw [re_on (by rw [b0]; rfl), r1]
  have r3 : re s152 3 = 3 := re_end (by rw [b3]; rfl)
  have r2 : re s152 2 = 3 := by rw [re_on (by rw [b2]; rfl), r3]
  unfold pfx fi
  rw [b0, r0]
  unfold ah
  rw [b1, b2, r2]
  rfl
theorem isT_s3 : isT s3 := ⟨by decide, by decide, fun j h hj => by
  have : j = 0 := by have : s3.size = 1 := rfl; omega
  subst this
  show 48 ≤ ((51 : UInt8).toNat : Int) ∧ ((51 : UInt8).toNat : Int) ≤ 57
  decide⟩
theorem limbParse_s3 (w : World) : Calls Tryd.prog 29 #[tx [51]] w fun e w' => e = .returned (.tuple #[nv 3, .int .i64 0]) ∧ Mo w w' := by
  haveI := Classical.propDecidable (isT s3)
  refine (parse_n s3 w (by decide)).mono fun e w' ⟨he, hm⟩ => ⟨?_, hm⟩
  rw [he, if_pos isT_s3, resP_ok (by decide)]
  rfl
theorem parse_s3 (w : World) : Calls Tryd.prog 13 #[.string s3] w fun e w' => e = .returned (.tuple #[dc false 3 0, .int .i64 0]) ∧ Mo w w' := by
  refine parse_d s3 w (fun w => ?_) [51] [51] [] false false (fun w => ?_) (fun w => ?_) [51] rfl (by decide) s3 rfl (fun w => ?_) 3 0 (fun w => limbParse_s3 w) rfl
  · refine (isDec_n s3 w (by decide)).mono fun e w' ⟨he, hm⟩ => ⟨?_, hm⟩
    rw [he]; unfold isDec; rw [pfx_s3, emp_iff]; rfl
  · refine (Tryd.strings_CutPrefix s3 ⟨#[45]⟩ w).mono fun e w' ⟨he, hm⟩ => ⟨?_, by rw [hm]; exact Mo.refl _⟩
    rw [he]; rfl
  · refine (cut_n s3 46 w (by decide)).mono fun e w' ⟨he, hm⟩ => ⟨?_, hm⟩
    rw [he]; rfl
  · refine (withoutZeros_n s3 w).mono fun e w' ⟨he, hm⟩ => ⟨?_, hm⟩
    rw [he]; rfl
theorem rescale_3 (w : World) : Calls Tryd.prog 34 #[dc false 3 0, .int .i64 2, .int .i64 3] w fun e w' => e = .returned (.tuple #[dc false 300 2, .int .i64 0]) ∧ Mo w w' := by
  have := rescale_z 3 0 2 3 w (by decide) (by decide) (by decide) (by decide) (by decide)
  have e : rsV 3 0 2 3 = 300 := by decide
  rw [e] at this
  exact this
theorem parseAt_s3 (w : World) : Calls Tryd.prog 15 #[.string s3, .int .i64 2] w fun e w' => e = .returned (.tuple #[dc false 300 2, .int .i64 0]) ∧ Mo w w' :=
  parseAt_r s3 2 w rfl rfl false 3 0 0 parse_s3 rfl rfl false 300 2 0 rescale_3
end Go.Proofs.YtdcojpbgijkmgaaDoor
/-
  exciselaw03.live.
-/
namespace Go.Proofs.YtdcojpbgijkmgaaDoor.V
open Go.RowKit Go.Lib
theorem text_lv (w : World) : Calls Tryd.prog 9 #[.agg #[.bool true, .int .u64 1250, .int .u64 0, .int .u64 0, .int .u64 0, .int .i64 2]] w fun e w' => e = .returned (.string ⟨#[45, 49, 50, 46, 53, 48]⟩) ∧ Mw w w' := by
  refine (text_ok true 1250 2 w (by decide) (by decide) (by decide) (by decide)).mono fun e w' ⟨he, hm⟩ => ⟨?_, hm⟩
  rw [he]; rfl
theorem short_lv (w : World) : Calls Tryd.prog 11 #[.agg #[.bool true, .int .u64 1250, .int .u64 0, .int .u64 0, .int .u64 0, .int .i64 2]] w fun e w' => e = .returned (.string ⟨#[45, 49, 50, 46, 53]⟩) ∧ Mw w w' := by
  refine (short_ok true 1250 2 w (by decide) (by decide) (by decide) (by decide)).mono fun e w' ⟨he, hm⟩ => ⟨?_, hm⟩
  rw [he]; rfl
theorem parseAt_lv (w : World) : Calls Tryd.prog 15 #[.string ⟨#[51]⟩, .int .i64 (2)] w fun e w' => e = .returned (.tuple #[.agg #[.bool false, .int .u64 300, .int .u64 0, .int .u64 0, .int .u64 0, .int .i64 2], .int .i64 0]) ∧ Mw w w' := wk (parseAt_s3 w)
theorem prefix_lv (w : World) : Calls Tryd.prog 17 #[.string ⟨#[49, 46, 53, 46, 50]⟩] w fun e w' => e = .returned (.int .i64 3) ∧ Mw w w' := by
  refine (prefix_n s152 w (by decide)).mono fun e w' ⟨he, hm⟩ => ⟨?_, hm.1⟩
  rw [he, pfx_s152]; rfl
theorem eqS_run (a : ByteArray) (x y : Operand) (w : World) : (do eqGuard .eql 9 x y (.string a) (.string a); binOp .eql 9 (.string a) (.string a)).run Tryd.prog w = .ok (.bool true) w := by
  simp [go_sem]
theorem eqE_run {a b : Int} {r : Bool} (h : (a == b) = r) (x y : Operand) (w : World) : (do eqGuard .eql 30 x y (.int .i64 a) (.int .i64 b); binOp .eql 30 (.int .i64 a) (.int .i64 b)).run Tryd.prog w = .ok (.bool r) w := by
  subst h; kernel_rfl
theorem live_n (w : World) : Calls Tryd.prog 8 #[] w fun e w' => e = .returned (.bool true) ∧ Mw w w' := by
  refine w_enter 32 Tryd.func8 Tryd.ntmps8 rfl rfl ?_
  have M : Mw w w := Mw.refl _
  refine w_seq ?_
  refine w_reg ?_
  refine wl_mv (.const (.bool false)) (.bool false) (fun _ => rfl) rfl rfl ?_
  refine w_nil ?_
  refine xn_then ?_
  refine w_seq ?_
  refine w_reg ?_
  refine wl_build 24 [(0, (.const (.int .u64 (1250))))] [(0, .int .u64 (1250))] (.agg #[.int .u64 (1250), .int .u64 0, .int .u64 0, .int .u64 0]) rfl rfl (by kernel_rfl) rfl ?_
  refine wl_build 26 [(0, (.const (.bool true))), (1, (.tmp 4)), (2, (.const (.int .i64 (2))))] [(0, .bool true), (1, .agg #[.int .u64 (1250), .int .u64 0, .int .u64 0, .int .u64 0]), (2, .int .i64 (2))] (.agg #[.bool true, .int .u64 (1250), .int .u64 0, .int .u64 0, .int .u64 0, .int .i64 (2)]) rfl rfl (by kernel_rfl) rfl ?_
  refine wl_alloc 26 #[.bool false, .int .u64 0, .int .u64 0, .int .u64 0, .int .u64 0, .int .i64 0] rfl (fun _ => by kernel_rfl) rfl ?_
  intro k1 w1 hk hz hq Q1
  have N_k1 : w.heap.size ≤ k1 := by have := M.size; omega
  replace M := M.trans hq
  clear hk hz hq
  refine wl_st 26 (.tmp 1) (.tmp 5) k1 0 #[.bool true, .int .u64 (1250), .int .u64 0, .int .u64 0, .int .u64 0, .int .i64 (2)] [.bool false, .int .u64 0, .int .u64 0, .int .u64 0, .int .u64 0, .int .i64 0] [.bool true, .int .u64 (1250), .int .u64 0, .int .u64 0, .int .u64 0, .int .i64 (2)] Q1 rfl rfl rfl rfl rfl sz26 rfl rfl rfl ?_
  intro w2 hS Qn
  replace Q1 := Qn
  clear Qn
  replace M := hS.mo _ N_k1 M
  clear hS
  refine w_nil ?_
  refine xn_then ?_
  refine w_seq ?_
  refine w_reg ?_
  refine wl_call 15 [(.const (.string ⟨#[51]⟩)), (.const (.int .i64 (2)))] _ [.string ⟨#[51]⟩, .int .i64 (2)] (.tuple #[.agg #[.bool false, .int .u64 300, .int .u64 0, .int .u64 0, .int .u64 0, .int .i64 2], .int .i64 (0)]) rfl rfl (fun _ _ => by kernel_rfl) (parseAt_lv _) rfl ?_
  intro w3 hq
  replace Q1 := Q1.mo hq
  replace M := M.trans hq
  clear hq
  refine wl_mv (.tmp 7) (.tuple #[.agg #[.bool false, .int .u64 300, .int .u64 0, .int .u64 0, .int .u64 0, .int .i64 2], .int .i64 (0)]) (fun _ => rfl) rfl rfl ?_
  refine wl_un (fun v => Instr.extract v 0) (.tmp 6) (.tuple #[.agg #[.bool false, .int .u64 300, .int .u64 0, .int .u64 0, .int .u64 0, .int .i64 2], .int .i64 (0)]) (.agg #[.bool false, .int .u64 300, .int .u64 0, .int .u64 0, .int .u64 0, .int .i64 2]) (fun _ => rfl) rfl (by kernel_rfl) rfl ?_
  refine wl_un (fun v => Instr.extract v 1) (.tmp 6) (.tuple #[.agg #[.bool false, .int .u64 300, .int .u64 0, .int .u64 0, .int .u64 0, .int .i64 2], .int .i64 (0)]) (.int .i64 (0)) (fun _ => rfl) rfl (by kernel_rfl) rfl ?_
  refine wl_alloc 26 #[.bool false, .int .u64 0, .int .u64 0, .int .u64 0, .int .u64 0, .int .i64 0] rfl (fun _ => by kernel_rfl) rfl ?_
  intro k2 w4 hk hz hq Q2
  have ne_k1_k2 : k1 ≠ k2 := by have := Q1.lt; omega
  have N_k2 : w.heap.size ≤ k2 := by have := M.size; omega
  replace Q1 := Q1.mo hq
  replace M := M.trans hq
  clear hk hz hq
  refine wl_st 26 (.tmp 2) (.tmp 8) k2 0 #[.bool false, .int .u64 300, .int .u64 0, .int .u64 0, .int .u64 0, .int .i64 2] [.bool false, .int .u64 0, .int .u64 0, .int .u64 0, .int .u64 0, .int .i64 0] [.bool false, .int .u64 300, .int .u64 0, .int .u64 0, .int .u64 0, .int .i64 2] Q2 rfl rfl rfl rfl rfl sz26 rfl rfl rfl ?_
  intro w5 hS Qn
  replace Q2 := Qn
  clear Qn
  replace Q1 := hS.other _ _ ne_k1_k2 Q1
  replace M := hS.mo _ N_k2 M
  clear hS
  refine wl_mv (.tmp 9) (.int .i64 (0)) (fun _ => rfl) rfl rfl ?_
  refine w_nil ?_
  refine xn_then ?_
  refine w_seq ?_
  refine w_reg ?_
  refine wl_load 26 (.tmp 1) (pt k1 0) (.agg #[.bool true, .int .u64 (1250), .int .u64 0, .int .u64 0, .int .u64 0, .int .i64 (2)]) rfl rfl (run_row Q1 26 0 6 [.bool true, .int .u64 (1250), .int .u64 0, .int .u64 0, .int .u64 0, .int .i64 (2)] rfl Tryd.underlying26 rfl sz26) rfl ?_
  refine wl_call 9 [(.tmp 10)] _ [.agg #[.bool true, .int .u64 (1250), .int .u64 0, .int .u64 0, .int .u64 0, .int .i64 (2)]] (.string ⟨#[45, 49, 50, 46, 53, 48]⟩) rfl rfl (fun _ _ => by kernel_rfl) (text_lv _) rfl ?_
  intro w6 hq
  replace Q1 := Q1.mo hq
  replace Q2 := Q2.mo hq
  replace M := M.trans hq
  clear hq
  refine wl_bin (fun x y => do eqGuard .eql 9 (.tmp 11) (.const (.string ⟨#[45, 49, 50, 46, 53, 48]⟩)) x y; binOp .eql 9 x y) (.tmp 11) (.const (.string ⟨#[45, 49, 50, 46, 53, 48]⟩)) (.string ⟨#[45, 49, 50, 46, 53, 48]⟩) (.string ⟨#[45, 49, 50, 46, 53, 48]⟩) (.bool true) (fun _ => rfl) rfl rfl (eqS_run _ _ _ _) rfl ?_
  refine wl_mv (.tmp 12) (.bool true) (fun _ => rfl) rfl rfl ?_
  refine wl_load 26 (.tmp 1) (pt k1 0) (.agg #[.bool true, .int .u64 (1250), .int .u64 0, .int .u64 0, .int .u64 0, .int .i64 (2)]) rfl rfl (run_row Q1 26 0 6 [.bool true, .int .u64 (1250), .int .u64 0, .int .u64 0, .int .u64 0, .int .i64 (2)] rfl Tryd.underlying26 rfl sz26) rfl ?_
  refine wl_call 11 [(.tmp 14)] _ [.agg #[.bool true, .int .u64 (1250), .int .u64 0, .int .u64 0, .int .u64 0, .int .i64 (2)]] (.string ⟨#[45, 49, 50, 46, 53]⟩) rfl rfl (fun _ _ => by kernel_rfl) (short_lv _) rfl ?_
  intro w7 hq
  replace Q1 := Q1.mo hq
  replace Q2 := Q2.mo hq
  replace M := M.trans hq
  clear hq
  refine wl_bin (fun x y => do eqGuard .eql 9 (.tmp 15) (.const (.string ⟨#[45, 49, 50, 46, 53]⟩)) x y; binOp .eql 9 x y) (.tmp 15) (.const (.string ⟨#[45, 49, 50, 46, 53]⟩)) (.string ⟨#[45, 49, 50, 46, 53]⟩) (.string ⟨#[45, 49, 50, 46, 53]⟩) (.bool true) (fun _ => rfl) rfl rfl (eqS_run _ _ _ _) rfl ?_
  refine wl_pick (.tmp 13) (.tmp 16) (.const (.bool false)) true (.bool true) (fun _ => rfl) rfl rfl rfl ?_
  refine wl_mv (.tmp 17) (.bool true) (fun _ => rfl) rfl rfl ?_
  refine wl_mv (.tmp 3) (.int .i64 (0)) (fun _ => rfl) rfl rfl ?_
  refine wl_bin (fun x y => do eqGuard .eql 30 (.tmp 19) (.const (.int .i64 (0))) x y; binOp .eql 30 x y) (.tmp 19) (.const (.int .i64 (0))) (.int .i64 (0)) (.int .i64 (0)) (.bool true) (fun _ => rfl) rfl rfl (eqE_run rfl _ _ _) rfl ?_
  refine wl_pick (.tmp 18) (.tmp 20) (.const (.bool false)) true (.bool true) (fun _ => rfl) rfl rfl rfl ?_
  refine wl_mv (.tmp 21) (.bool true) (fun _ => rfl) rfl rfl ?_
  refine wl_load 26 (.tmp 2) (pt k2 0) (.agg #[.bool false, .int .u64 300, .int .u64 0, .int .u64 0, .int .u64 0, .int .i64 2]) rfl rfl (run_row Q2 26 0 6 [.bool false, .int .u64 300, .int .u64 0, .int .u64 0, .int .u64 0, .int .i64 2] rfl Tryd.underlying26 rfl sz26) rfl ?_
  refine wl_build 24 [(0, (.const (.int .u64 (300))))] [(0, .int .u64 (300))] (.agg #[.int .u64 (300), .int .u64 0, .int .u64 0, .int .u64 0]) rfl rfl (by kernel_rfl) rfl ?_
  refine wl_build 26 [(1, (.tmp 24)), (2, (.const (.int .i64 (2))))] [(1, .agg #[.int .u64 (300), .int .u64 0, .int .u64 0, .int .u64 0]), (2, .int .i64 (2))] (.agg #[.bool false, .int .u64 (300), .int .u64 0, .int .u64 0, .int .u64 0, .int .i64 (2)]) rfl rfl (by kernel_rfl) rfl ?_
  refine wl_bin (fun x y => do eqGuard .eql 26 (.tmp 23) (.tmp 25) x y; binOp .eql 26 x y) (.tmp 23) (.tmp 25) (.agg #[.bool false, .int .u64 300, .int .u64 0, .int .u64 0, .int .u64 0, .int .i64 2]) (.agg #[.bool false, .int .u64 (300), .int .u64 0, .int .u64 0, .int .u64 0, .int .i64 (2)]) (.bool true) (fun _ => rfl) rfl rfl (eqd_run (r := true) rfl _ _ _) rfl ?_
  refine wl_pick (.tmp 22) (.tmp 26) (.const (.bool false)) true (.bool true) (fun _ => rfl) rfl rfl rfl ?_
  refine wl_mv (.tmp 27) (.bool true) (fun _ => rfl) rfl rfl ?_
  refine wl_call 17 [(.const (.string ⟨#[49, 46, 53, 46, 50]⟩))] _ [.string ⟨#[49, 46, 53, 46, 50]⟩] (.int .i64 (3)) rfl rfl (fun _ _ => by kernel_rfl) (prefix_lv _) rfl ?_
  intro w8 hq
  replace Q1 := Q1.mo hq
  replace Q2 := Q2.mo hq
  replace M := M.trans hq
  clear hq
  refine wl_bin (fun x y => do eqGuard .eql 3 (.tmp 29) (.const (.int .i64 (3))) x y; binOp .eql 3 x y) (.tmp 29) (.const (.int .i64 (3))) (.int .i64 (3)) (.int .i64 (3)) (.bool true) (fun _ => rfl) rfl rfl (eq3_run (r := true) rfl _ _ _) rfl ?_
  refine wl_pick (.tmp 28) (.tmp 30) (.const (.bool false)) true (.bool true) (fun _ => rfl) rfl rfl rfl ?_
  refine wl_mv (.tmp 31) (.bool true) (fun _ => rfl) rfl rfl ?_
  refine w_nil ?_
  refine xn_then ?_
  refine w_ret ?_
  exact w_ret1 _ (.bool true) rfl rfl ⟨rfl, M⟩
end Go.Proofs.YtdcojpbgijkmgaaDoor.V
/-
  A text's beginning and end, as operations.
-/
namespace Go.Proofs.YtdcojpbgijkmgaaDoor
open Go.RowKit Go.Lib
theorem take_tx (l : List UInt8) (j : Nat) : Value.string ((⟨l.toArray⟩ : ByteArray).extract 0 j) = tx (l.take j) := by
  rw [tx_of, by8_ext]; rfl
theorem drop_tx (l : List UInt8) (j : Nat) : Value.string ((⟨l.toArray⟩ : ByteArray).extract j (⟨l.toArray⟩ : ByteArray).size) = tx (l.drop j) := by
  rw [tx_of, by8_ext, tx_size]
  have : ((by8 (⟨l.toArray⟩ : ByteArray)).drop j).take (l.length - j) = l.drop j := List.take_of_length_le (by simp [by8])
  rw [this]
theorem hi_run (ρ : Operand → Value) (x y : Operand) (l : List UInt8) (j : Nat) (hx : ρ x = tx l) (hy : ρ y = .int .i64 (j : Int)) (hj : j ≤ l.length) (dst : Option Tmp) (type : TypeId) (pos : String) (after : Array Edge) (guard : Option (Nat × Bool)) (w : World) :
    (execOp ρ { dst, op := .slice 9 x none (some y) none, type, pos, after, guard }).run Tryd.prog w = .ok (.value (tx (l.take j))) w := by
  have h1 : (j : Int) ≤ ((⟨l.toArray⟩ : ByteArray).size : Int) := by rw [tx_size]; omega
  have h0 : (0 : Int) ≤ (j : Int) := by omega
  rw [← take_tx]
  unfold tx at hx
  generalize (⟨l.toArray⟩ : ByteArray) = s at *
  simp [go_sem, hx, hy, h1, h0]
theorem lo_run (ρ : Operand → Value) (x y : Operand) (l : List UInt8) (j : Nat) (hx : ρ x = tx l) (hy : ρ y = .int .i64 (j : Int)) (hj : j ≤ l.length) (dst : Option Tmp) (type : TypeId) (pos : String) (after : Array Edge) (guard : Option (Nat × Bool)) (w : World) :
    (execOp ρ { dst, op := .slice 9 x (some y) none none, type, pos, after, guard }).run Tryd.prog w = .ok (.value (tx (l.drop j))) w := by
  have h1 : (j : Int) ≤ ((⟨l.toArray⟩ : ByteArray).size : Int) := by rw [tx_size]; omega
  have h0 : (0 : Int) ≤ (j : Int) := by omega
  rw [← drop_tx]
  unfold tx at hx
  generalize (⟨l.toArray⟩ : ByteArray) = s at *
  simp [go_sem, hx, hy, h1, h0]
theorem catl_run (a b : List UInt8) (h : a.length + b.length ≤ 9223372036854775807) (x y : Operand) (w : World) : (do eqGuard .add 9 x y (tx a) (tx b); binOp .add 9 (tx a) (tx b)).run Tryd.prog w = .ok (tx (a ++ b)) w := by
  have e : tx (a ++ b) = .string ((⟨a.toArray⟩ : ByteArray) ++ ⟨b.toArray⟩) := by rw [tx_of, by8_app]
  rw [e]; exact V.cat_run _ _ (by rw [tx_size, tx_size]; exact h) x y w
theorem leq3_run {a b : Int} {r : Bool} (h : decide (a ≤ b) = r) (x y : Operand) (w : World) : (do eqGuard .leq 3 x y (.int .i64 a) (.int .i64 b); binOp .leq 3 (.int .i64 a) (.int .i64 b)).run Tryd.prog w = .ok (.bool r) w := by
  subst h; kernel_rfl
theorem sub3_run {a b c : Nat} (h : a = b + c) (hc : a ≤ 9223372036854775807) (x y : Operand) (w : World) : (do eqGuard .sub 3 x y (.int .i64 (a : Int)) (.int .i64 (b : Int)); binOp .sub 3 (.int .i64 (a : Int)) (.int .i64 (b : Int))).run Tryd.prog w = .ok (.int .i64 (c : Int)) w := by
  have e : (do eqGuard .sub 3 x y (.int .i64 (a : Int)) (.int .i64 (b : Int)); binOp .sub 3 (.int .i64 (a : Int)) (.int .i64 (b : Int))).run Tryd.prog w = .ok (.int .i64 (IntKind.i64.wrap ((a : Int) - (b : Int)))) w := by kernel_rfl
  have h2 : IntKind.i64.wrap ((a : Int) - (b : Int)) = (c : Int) := by rw [IntKind.wrap_i64]; omega
  rw [e, h2]
end Go.Proofs.YtdcojpbgijkmgaaDoor
/-
  Bytes put behind a slice of one's own, and a slice's bytes as a text: the laws of the steps.
-/
namespace Go.Proofs.YtdcojpbgijkmgaaDoor
open Go.RowKit
theorem bsl (c : Int) (w : World) : (Instr.buildSlice 51 1 #[(0, .int .u8 c)]).run Tryd.prog w = .ok (.slice (some ⟨w.heap.size, 0, none⟩) 1 1) (w.alloc (.cells #[.int .u8 c] 5)) := by kernel_rfl
theorem ixs (g j n c : Nat) (h : j < n) (w : World) : (Instr.indexAt 51 (.slice (some ⟨g, 0, none⟩) n c) (.int .i64 (j : Int))).run Tryd.prog w = .ok (pt g j) w := by
  simp [go_sem, h]
theorem inf5 : ∃ i, Tryd.prog.info? 5 = some i ∧ i.zero = some (.int .u8 0) ∧ i.size = 1 ∧ i.bytes = 1 := by
  have h : (Tryd.prog.info? 5).map (fun i => (i.zero, i.size, i.bytes)) = some (some (.int .u8 0), 1, 1) := by kernel_rfl
  cases hi : Tryd.prog.info? 5 with
  | none => rw [hi] at h; cases h
  | some i =>
    rw [hi] at h
    simp at h
    exact ⟨i, rfl, h.1, h.2.1, h.2.2⟩
/-- What an append leaves as it was. -/
structure AppW (v : Value) (w w' : World) : Prop where
  os : w'.os = w.os
  tape : w'.tape = w.tape
  output : w'.output = w.output
  size : w.heap.size ≤ w'.heap.size
  block : ∀ k, k < w.heap.size → v.ownBlock ≠ some k → w'.heap[k]? = w.heap[k]?
  fz : ∀ a, w'.frozen? a = w.frozen? a
theorem AppW.at {v : Value} {w w' : World} (h : AppW v w w') {j : Nat} {vs : List Value} (hA : At w j vs) (hn : v.ownBlock ≠ some j) : At w' j vs :=
  ⟨fun i u hu => (World.cell?_of_block (a := ⟨j, 0 + i, none⟩) (h.block j hA.2.2 hn)).trans (hA.1 i u hu), fun o => (h.fz _).trans (hA.2.1 o), Nat.lt_of_lt_of_le hA.2.2 h.size⟩
theorem AppW.mo {v : Value} {w w' a : World} (h : AppW v w w') (hM : Mo a w) (hn : ∀ k, v.ownBlock = some k → a.heap.size ≤ k) : Mo a w' :=
  ⟨⟨h.os.trans hM.1.os, h.tape.trans hM.1.tape, h.output.trans hM.1.output, Nat.le_trans hM.1.size h.size, fun k hk => (h.block k (Nat.lt_of_lt_of_le hk hM.1.size) (fun e => by have := hn k e; omega)).trans (hM.1.block k hk)⟩, fun x => (h.fz x).trans (hM.2 x)⟩
/-- What a store into the block k leaves as it was, block by block. -/
structure St2 (k : Nat) (w w' : World) : Prop extends St k w w' where
  os : w'.os = w.os
  tape : w'.tape = w.tape
  output : w'.output = w.output
  block : ∀ j, j ≠ k → w'.heap[j]? = w.heap[j]?
theorem heap_setCells (k j : Nat) (hj : j ≠ k) : ∀ (l : List Value) (o : Nat) (w : World), (w.setCells k o l).heap[j]? = w.heap[j]? ∧ (w.setCells k o l).os = w.os ∧ (w.setCells k o l).tape = w.tape ∧ (w.setCells k o l).output = w.output
  | [], _, _ => ⟨rfl, rfl, rfl, rfl⟩
  | v :: r, o, w => by
    have h := heap_setCells k j hj r (o + 1) (w.setCell ⟨k, o, none⟩ v)
    rw [World.setCells]
    refine ⟨h.1.trans ?_, h.2.1.trans rfl, h.2.2.1.trans rfl, h.2.2.2.trans rfl⟩
    simp [World.setCell, Array.getElem?_modify, Ne.symm hj]
theorem St2.mk2 (w : World) (k o : Nat) (l : List Value) : St2 k w (w.setCells k o l) :=
  { St.mk' w k o l with
    os := (heap_setCells k (k + 1) (by omega) l o w).2.1
    tape := (heap_setCells k (k + 1) (by omega) l o w).2.2.1
    output := (heap_setCells k (k + 1) (by omega) l o w).2.2.2
    block := fun j hj => (heap_setCells k j hj l o w).1 }
theorem own_st {w w' : World} {N k : Nat} {v : Value} {n : Nat} {xs : List Value} (m : St2 k w w') (h : w.ownsRow N 5 1 v n xs) (hne : v.ownBlock ≠ some k) : w'.ownsRow N 5 1 v n xs :=
  h.kept (row := some k) ⟨m.os, m.tape, m.output, Nat.le_of_eq m.size.symm, fun j _ hj => m.block j (fun e => hj (by rw [e]))⟩ (Or.inr hne)
section
variable {P : Program} {o : Oper} {n : Nat} {l : List (Nat × Value)} {w : World} {ops : Array Oper} {rest : List Oper} {Q : Exit → Act → World → Prop}
theorem wl_stx (ty : TypeId) (x y : Operand) (k off : Nat) (us : Array Value) (vs vs' : List Value) (hA : At w k vs) (ho : o.op = .store ty x y) (hd : o.dst = none) (hx : evl n l x = pt k off) (hy : evl n l y = .agg us)
    (hl : Nat.ble (off + us.size) vs.length = true) (hi : (P.info? ty).map (·.size) = some us.size) (h1 : us.toList.all (·.oneCell') = true) (hvs : vs' = vs.take off ++ us.toList ++ vs.drop (off + us.toList.length)) (hg : wnt n l ops o = true)
    (hk : ∀ w', St2 k w w' → At w' k vs' → WL P ops Q rest n l w') : WL P ops Q (o :: rest) n l w :=
  ⟨l_step hg (o_store ty x y _ _ ho hd hx hy (run_put hA ty off us (Nat.le_of_ble_eq_true hl) hi (by rw [← Array.all_toList]; exact h1)) (hk _ (St2.mk2 w k off us.toList) (hA.set off us.toList (by have := Nat.le_of_ble_eq_true hl; simpa using this) vs' hvs)).out)⟩
end
theorem own_mo {w w' : World} {N : Nat} {v : Value} {n : Nat} {xs : List Value} (h : w.ownsRow N 5 1 v n xs) (m : Mo w w') : w'.ownsRow N 5 1 v n xs :=
  h.kept (row := none) ⟨m.1.os, m.1.tape, m.1.output, m.1.size, fun k hk _ => m.1.block k hk⟩ (by cases e : v.ownBlock <;> simp)
theorem app1 (w : World) (ty : TypeId) (N : Nat) (v : Value) (n : Nat) (xs : List Value) (hown : w.ownsRow N 5 1 v n xs) (k : Nat) (c : Int) (hA : At w k [.int .u8 c]) (hn : n ≤ 1000) (hN : N ≤ w.heap.size) :
    ∃ v' w', (Builtin.append_ #[51, 51] ty #[v, .slice (some ⟨k, 0, none⟩) 1 1]).run Tryd.prog w = .ok v' w' ∧ w'.ownsRow N 5 1 v' (n + 1) (xs ++ [.int .u8 c]) ∧ AppW v w w' ∧ (v'.ownBlock = v.ownBlock ∨ v'.ownBlock = some w.heap.size) := by
  obtain ⟨i, hi, hz, hs, hby⟩ := inf5
  have hnews : ∀ j u, ([Value.int .u8 c] : List Value)[j]? = some u → w.cell? ((⟨k, 0, none⟩ : Addr).add j) = some u := fun j u hu => by
    rw [Addr.add_mid]; have := hA.1 j u hu; simpa using this
  obtain ⟨v', w', hr, h2, h3, _, h5⟩ := run_append_own_at (P := Tryd.prog) w N 51 ty 5 i (.int .u8 0) 1 1 Tryd.underlying51 hi hz hs hby rfl (by decide) v n xs hown ⟨k, 0, none⟩ 1 1 [.int .u8 c] rfl hnews (by simp [Value.oneCell']) (by unfold maxLen; omega) (by omega) hN
  refine ⟨v', w', hr, h2, ⟨h3.os, h3.tape, h3.output, h3.size, fun j hj hne => h3.block j hj (fun e => hne e.symm), ?_⟩, h5⟩
  -- the marks: arm by arm
  rcases hown.2 with ⟨rfl, rfl⟩ | ⟨g, cap, cur, rfl, hbg, hg, hnc, hcm, hcs, htake⟩
  · have hr2 := run_append_nil (P := Tryd.prog) w 51 ty 5 i (.int .u8 0) Tryd.underlying51 hi hz ⟨k, 0, none⟩ 1 1 [.int .u8 c] (by rw [hs]; rfl) hnews (by decide) (by decide) (by omega)
    rw [hr2] at hr
    cases hr
    exact ((Mo.refl w).drew.alloc _ _).2
  · by_cases hroom : n + 1 ≤ cap
    · have hr2 := run_append_room (P := Tryd.prog) w 51 ty 5 i Tryd.underlying51 hi g n cap cur hg ⟨k, 0, none⟩ 1 1 [.int .u8 c] (by rw [hs]; rfl) hnews (by simp [Value.oneCell']) hroom (by rw [hs]; simp; omega)
      rw [hr2] at hr
      cases hr
      intro a
      by_cases e : a.block = g
      · have h1 := setRow_heap w g cur (cur.toList.take (n * i.size) ++ [Value.int .u8 c] ++ cur.toList.drop (n * i.size + [Value.int .u8 c].length)).toArray 5 (0, 0) hg
        simp only [World.frozen?, e, h1, hg]
      · exact World.frozen?_of_block (setRow_other w g a.block _ e)
    · have hr2 := run_append_grow (P := Tryd.prog) w 51 ty 5 i (.int .u8 0) Tryd.underlying51 hi hz ⟨g, 0, none⟩ n cap xs (by rw [hs]; exact hown.1) (hown.cells (g := g) rfl) ⟨k, 0, none⟩ 1 1 [.int .u8 c] (by rw [hs]; rfl) hnews (by omega) (by omega) (by rw [hby]; exact growslice_fits (by omega) (by omega))
      rw [hr2] at hr
      cases hr
      exact ((Mo.refl w).drew.alloc _ _).2
section
variable {o : Oper} {n : Nat} {l : List (Nat × Value)} {w : World} {ops : Array Oper} {rest : List Oper} {Q : Exit → Act → World → Prop}
theorem wl_bsl (x : Operand) (c : Int) (ho : o.op = .buildSlice 51 1 #[(0, x)]) (hx : evl n l x = .int .u8 c) (hg : wnt n l ops o = true)
    (hk : ∀ k w', w.heap.size = k → w'.heap.size = k + 1 → Mo w w' → At w' k [.int .u8 c] → WL Tryd.prog ops Q rest n (ext l o.dst (.slice (some ⟨k, 0, none⟩) 1 1)) w') : WL Tryd.prog ops Q (o :: rest) n l w :=
  ⟨l_step hg (o_val (.slice (some ⟨w.heap.size, 0, none⟩) 1 1) (w' := w.alloc (.cells #[.int .u8 c] 5)) (by simp [execOp, ho, hx, bsl]) (hk _ _ rfl (by simp) ((Mo.refl _).alloc _ _) (At.new w #[.int .u8 c] 5)).out)⟩
theorem wl_app (s x : Operand) (N : Nat) (v : Value) (m : Nat) (xs : List Value) (k : Nat) (c : Int) (ho : o.op = .call { callee := .builtin .append, args := #[s, x], argTypes := #[51, 51] }) (hs : evl n l s = v) (hx : evl n l x = .slice (some ⟨k, 0, none⟩) 1 1)
    (hown : w.ownsRow N 5 1 v m xs) (hA : At w k [.int .u8 c]) (hm : m ≤ 1000) (hN : N ≤ w.heap.size) (hg : wnt n l ops o = true)
    (hk : ∀ v' w', w'.ownsRow N 5 1 v' (m + 1) (xs ++ [.int .u8 c]) → AppW v w w' → (v'.ownBlock = v.ownBlock ∨ v'.ownBlock = some w.heap.size) → WL Tryd.prog ops Q rest n (ext l o.dst v') w') : WL Tryd.prog ops Q (o :: rest) n l w := by
  obtain ⟨v', w', hr, h2, h3, h4⟩ := app1 w o.type N v m xs hown k c hA hm hN
  refine ⟨l_step hg (o_val v' (w' := w') ?_ (hk v' w' h2 h3 h4).out)⟩
  unfold execOp
  simp only [ho, resolve, invoke, builtin, Sem.run_bind, Sem.run_pure, Result.andThen_ok, List.map_toArray, List.map_cons, List.map_nil, hs, hx, hr]
end
theorem own_at {w : World} {N g cap n : Nat} {xs : List Value} (h : w.ownsRow N 5 1 (.slice (some ⟨g, 0, none⟩) n cap) n xs) : At w g xs := by
  have hl := h.1
  refine ⟨fun j v hv => ?_, fun o => h.frozenAt o, (h.lt g rfl).2⟩
  have hj : j < xs.length := (List.getElem?_eq_some_iff.1 hv).1
  rw [Nat.zero_add, h.cellAt j (by omega)]; exact hv
theorem set_tk {vs : List Value} {i : Nat} {v : Value} (h : i < vs.length) : vs.set i v = vs.take i ++ [v] ++ vs.drop (i + 1) := by
  rw [List.set_eq_take_append_cons_drop, if_pos h]; simp
theorem blt_t {a b : Nat} (h : a < b) : Nat.blt a b = true := by rw [Nat.blt_eq]; exact h
/-- The digits from the last on. -/
def dRev : Nat → Int → List Int
  | 0, _ => []
  | f + 1, n => if n = 0 then [] else (48 + n % 10) :: dRev f (n / 10)
theorem dRev_decF : ∀ (f : Nat) (n : Int), 0 < n → n < 10 ^ (f + 1) → (dRev (f + 1) n).reverse = decF (f + 1) n
  | 0, n, h0, h => by
    have : n / 10 = 0 := by simp at h; omega
    unfold dRev decF
    rw [if_neg (by omega), if_pos this]
    simp [dRev]
  | f + 1, n, h0, h => by
    unfold dRev decF
    rw [if_neg (by omega)]
    by_cases hz : n / 10 = 0
    · rw [if_pos hz, hz]
      have : dRev (f + 1) 0 = [] := by unfold dRev; rw [if_pos rfl]
      rw [this]; simp
    · rw [if_neg hz, List.reverse_cons, dRev_decF f (n / 10) (by omega) (by rw [Int.pow_succ] at h; omega)]
theorem dRev_len : ∀ (f : Nat) (n : Int), (dRev f n).length ≤ f
  | 0, _ => by simp [dRev]
  | f + 1, n => by
    unfold dRev; split
    · simp
    · have := dRev_len f (n / 10); simp; omega
theorem dRev_step {f : Nat} {n : Int} (h : n ≠ 0) : dRev (f + 1) n = (48 + n % 10) :: dRev f (n / 10) := by
  show (if n = 0 then [] else (48 + n % 10) :: dRev f (n / 10)) = _
  rw [if_neg h]
theorem dRev_zero (f : Nat) : dRev f 0 = [] := by cases f with | zero => rfl | succ f => unfold dRev; rw [if_pos rfl]
/-- The first i and the last i are exchanged. -/
def RvI (xs : List Int) (i : Nat) (zs : List Int) : Prop := zs.length = xs.length ∧ ∀ p, p < xs.length → zs.getD p 0 = if p < i ∨ xs.length - i ≤ p then xs.getD (xs.length - 1 - p) 0 else xs.getD p 0
theorem RvI.start (xs : List Int) : RvI xs 0 xs := ⟨rfl, fun p hp => by rw [if_neg (by omega)]⟩
theorem RvI.step {xs zs : List Int} {i j : Nat} (h : RvI xs i zs) (hij : i < j) (hl : i + j + 1 = xs.length) : RvI xs (i + 1) ((zs.set i (zs.getD j 0)).set j (zs.getD i 0)) := by
  obtain ⟨h1, h2⟩ := h
  refine ⟨by simp [h1], fun p hp => ?_⟩
  have hi := h2 i (by omega)
  have hj := h2 j (by omega)
  rw [if_neg (by omega)] at hi hj
  simp only [List.getD_eq_getElem?_getD] at *
  rw [List.getElem?_set, List.getElem?_set]
  by_cases e1 : j = p
  · subst e1
    rw [if_pos rfl, if_pos (by simp; omega), if_pos (by omega)]
    simp only [Option.getD_some]
    rw [hi, show xs.length - 1 - j = i by omega]
  · rw [if_neg e1]
    by_cases e2 : i = p
    · subst e2
      rw [if_pos rfl, if_pos (by omega), if_pos (by omega)]
      simp only [Option.getD_some]
      rw [hj, show xs.length - 1 - i = j by omega]
    · rw [if_neg e2, h2 p hp]
      by_cases c : p < i ∨ xs.length - i ≤ p
      · rw [if_pos c, if_pos (by omega)]
      · rw [if_neg c, if_neg (by omega)]
theorem RvI.done {xs zs : List Int} {i j : Nat} (h : RvI xs i zs) (hij : ¬ i < j) (hl : i + j + 1 = xs.length) : zs = xs.reverse := by
  obtain ⟨h1, h2⟩ := h
  apply List.ext_getElem
  · simp [h1]
  · intro p a b
    have hp : p < xs.length := by omega
    have := h2 p hp
    simp only [List.getD_eq_getElem?_getD, List.getElem?_eq_getElem a, Option.getD_some] at this
    rw [this, List.getElem_reverse]
    by_cases c : p < i ∨ xs.length - i ≤ p
    · rw [if_pos c, List.getElem?_eq_getElem (by omega), Option.getD_some]
    · rw [if_neg c, List.getElem?_eq_getElem (by omega), Option.getD_some]
      congr 1; omega
theorem str_run (w : World) (g c : Nat) (ns : List Int) (hA : At w g (ns.map (Value.int .u8))) (m : Nat) (hm : m = ns.length) : (convert 51 9 (.slice (some ⟨g, 0, none⟩) m c)).run Tryd.prog w = .ok (.string (strOf ns)) w := by
  subst hm
  rw [run_convert_bytes_string w 51 9 5 _ _ _ Tryd.underlying51 Tryd.underlying5 Tryd.underlying9, run_bytesToString w _ _ _ ns]
  · rfl
  · have := run_loadCells_list (P := Tryd.prog) w ⟨g, 0, none⟩ (ns.map (Value.int .u8)) (fun j v hv => by rw [Addr.add_mid]; exact hA.1 j v hv)
    simpa using this
end Go.Proofs.YtdcojpbgijkmgaaDoor
/-
  The document's small quotient: by ten.
-/
namespace Go.Proofs.YtdcojpbgijkmgaaDoor
open Go.RowKit
theorem shlA (a : Int) (x y : Operand) (w : World) : (do eqGuard .shl 22 x y (.int .u64 a) (.int .u64 32); binOp .shl 22 (.int .u64 a) (.int .u64 32)).run Tryd.prog w = .ok (.int .u64 (IntKind.u64.wrap (a * 2 ^ 32))) w := by kernel_rfl
theorem shlB (a : Int) (x y : Operand) (w : World) : (do eqGuard .shl 22 x y (.int .u64 a) (.int .i64 32); binOp .shl 22 (.int .u64 a) (.int .i64 32)).run Tryd.prog w = .ok (.int .u64 (IntKind.u64.wrap (a * 2 ^ 32))) w := by kernel_rfl
theorem shlC (a : Int) (x y : Operand) (w : World) : (do eqGuard .shl 22 x y (.int .u64 a) (.int .i64 0); binOp .shl 22 (.int .u64 a) (.int .i64 0)).run Tryd.prog w = .ok (.int .u64 (IntKind.u64.wrap (a * 2 ^ 0))) w := by kernel_rfl
theorem quoA (a : Int) (x y : Operand) (w : World) : (do eqGuard .quo 22 x y (.int .u64 a) (.int .u64 10); binOp .quo 22 (.int .u64 a) (.int .u64 10)).run Tryd.prog w = .ok (.int .u64 (IntKind.u64.wrap (a.tdiv 10))) w := by kernel_rfl
theorem quo3 (x y : Operand) (w : World) : (do eqGuard .quo 3 x y (.int .i64 7) (.int .i64 2); binOp .quo 3 (.int .i64 7) (.int .i64 2)).run Tryd.prog w = .ok (.int .i64 3) w := by kernel_rfl
theorem addU (a b : Int) (x y : Operand) (w : World) : (do eqGuard .add 22 x y (.int .u64 a) (.int .u64 b); binOp .add 22 (.int .u64 a) (.int .u64 b)).run Tryd.prog w = .ok (.int .u64 (IntKind.u64.wrap (a + b))) w := by kernel_rfl
theorem remA (a : Int) (x y : Operand) (w : World) : (do eqGuard .rem 22 x y (.int .u64 a) (.int .u64 10); binOp .rem 22 (.int .u64 a) (.int .u64 10)).run Tryd.prog w = .ok (.int .u64 (a.tmod 10)) w := by kernel_rfl
theorem cvA (a : Int) (w : World) : (convert 22 5 (.int .u64 a)).run Tryd.prog w = .ok (.int .u8 (IntKind.u8.wrap a)) w := by kernel_rfl
theorem shlu_run {a c : Int} (h : a * 4294967296 = c) (h0 : 0 ≤ c) (h1 : c < 18446744073709551616) (x y : Operand) (w : World) : (do eqGuard .shl 22 x y (.int .u64 a) (.int .u64 32); binOp .shl 22 (.int .u64 a) (.int .u64 32)).run Tryd.prog w = .ok (.int .u64 c) w := by
  have e : IntKind.u64.wrap (a * 2 ^ 32) = c := by rw [IntKind.wrap_u64]; omega
  rw [shlA, e]
theorem shli_run {a c : Int} (h : a * 4294967296 = c) (h0 : 0 ≤ c) (h1 : c < 18446744073709551616) (x y : Operand) (w : World) : (do eqGuard .shl 22 x y (.int .u64 a) (.int .i64 32); binOp .shl 22 (.int .u64 a) (.int .i64 32)).run Tryd.prog w = .ok (.int .u64 c) w := by
  have e : IntKind.u64.wrap (a * 2 ^ 32) = c := by rw [IntKind.wrap_u64]; omega
  rw [shlB, e]
theorem shl0_run {a : Int} (h0 : 0 ≤ a) (h1 : a < 18446744073709551616) (x y : Operand) (w : World) : (do eqGuard .shl 22 x y (.int .u64 a) (.int .i64 0); binOp .shl 22 (.int .u64 a) (.int .i64 0)).run Tryd.prog w = .ok (.int .u64 a) w := by
  have e : IntKind.u64.wrap (a * 2 ^ 0) = a := by rw [IntKind.wrap_u64]; omega
  rw [shlC, e]
theorem quou_run {a c : Int} (h : a / 10 = c) (h0 : 0 ≤ a) (h1 : a < 18446744073709551616) (x y : Operand) (w : World) : (do eqGuard .quo 22 x y (.int .u64 a) (.int .u64 10); binOp .quo 22 (.int .u64 a) (.int .u64 10)).run Tryd.prog w = .ok (.int .u64 c) w := by
  have e : IntKind.u64.wrap (a.tdiv 10) = c := by rw [IntKind.wrap_u64, Int.tdiv_eq_ediv_of_nonneg h0]; omega
  rw [quoA, e]
theorem remu_run {a c : Int} (h : a % 10 = c) (h0 : 0 ≤ a) (x y : Operand) (w : World) : (do eqGuard .rem 22 x y (.int .u64 a) (.int .u64 10); binOp .rem 22 (.int .u64 a) (.int .u64 10)).run Tryd.prog w = .ok (.int .u64 c) w := by
  have e : a.tmod 10 = c := by rw [Int.tmod_eq_emod_of_nonneg h0]; exact h
  rw [remA, e]
theorem addu_run {a b c : Int} (h : a + b = c) (h0 : 0 ≤ c) (h1 : c < 18446744073709551616) (x y : Operand) (w : World) : (do eqGuard .add 22 x y (.int .u64 a) (.int .u64 b); binOp .add 22 (.int .u64 a) (.int .u64 b)).run Tryd.prog w = .ok (.int .u64 c) w := by
  have e : IntKind.u64.wrap (a + b) = c := by rw [IntKind.wrap_u64]; omega
  rw [addU, e]
theorem sz22b : (Tryd.prog.info? 22).map (·.size) = some 1 := by kernel_rfl
/-- The quotient's cells, ahead of the round of the digit m - 1. -/
def qc (y : Nat → Int) : Nat → List Value
  | 0 => [.int .u64 (y 1 * 4294967296 + y 0), .int .u64 (y 3 * 4294967296 + y 2), .int .u64 (y 5 * 4294967296 + y 4), .int .u64 (y 7 * 4294967296 + y 6)]
  | 1 => [.int .u64 (y 1 * 4294967296), .int .u64 (y 3 * 4294967296 + y 2), .int .u64 (y 5 * 4294967296 + y 4), .int .u64 (y 7 * 4294967296 + y 6)]
  | 2 => [.int .u64 0, .int .u64 (y 3 * 4294967296 + y 2), .int .u64 (y 5 * 4294967296 + y 4), .int .u64 (y 7 * 4294967296 + y 6)]
  | 3 => [.int .u64 0, .int .u64 (y 3 * 4294967296), .int .u64 (y 5 * 4294967296 + y 4), .int .u64 (y 7 * 4294967296 + y 6)]
  | 4 => [.int .u64 0, .int .u64 0, .int .u64 (y 5 * 4294967296 + y 4), .int .u64 (y 7 * 4294967296 + y 6)]
  | 5 => [.int .u64 0, .int .u64 0, .int .u64 (y 5 * 4294967296), .int .u64 (y 7 * 4294967296 + y 6)]
  | 6 => [.int .u64 0, .int .u64 0, .int .u64 0, .int .u64 (y 7 * 4294967296 + y 6)]
  | 7 => [.int .u64 0, .int .u64 0, .int .u64 0, .int .u64 (y 7 * 4294967296)]
  | _ => [.int .u64 0, .int .u64 0, .int .u64 0, .int .u64 0]
theorem small_w (n : Int) (x y r : Nat → Int) (w : World) (hr8 : r 8 = 0) (hxy : ∀ i, i < 8 → r (i + 1) * 4294967296 + dg n i = x i ∧ x i / 10 = y i ∧ x i % 10 = r i)
    (rb : ∀ i, i ≤ 8 → 0 ≤ r i ∧ r i < 10) (yb : ∀ i, i < 8 → 0 ≤ y i ∧ y i < 4294967296) :
    Calls Tryd.prog 47 #[nv n, .int .u64 10] w fun e w' => e = .returned (.tuple #[.agg (qc y 0).toArray, .int .u64 (r 0)]) ∧ Mo w w' := by
  refine w_enter 38 Tryd.func47 Tryd.ntmps47 rfl rfl ?_
  have M : Mo w w := Mo.refl _
  refine w_seq ?_
  refine w_reg ?_
  refine wl_box 24 (.tmp 0) (nv (n)) ((nvar (n))) rfl rfl (fun _ => by kernel_rfl) rfl ?_
  intro k1 w1 hk hz hq Q1
  have N_k1 : w.heap.size ≤ k1 := by have := M.size; omega
  replace M := M.trans hq
  clear hk hz hq
  refine wl_alloc 24 #[.int .u64 0, .int .u64 0, .int .u64 0, .int .u64 0] rfl (fun _ => by kernel_rfl) rfl ?_
  intro k2 w2 hk hz hq Q2
  have ne_k1_k2 : k1 ≠ k2 := by have := Q1.lt; omega
  have N_k2 : w.heap.size ≤ k2 := by have := M.size; omega
  replace Q1 := Q1.mo hq
  replace M := M.trans hq
  clear hk hz hq
  refine wl_mv (.const (.int .u64 (0))) (.int .u64 (0)) (fun _ => rfl) rfl rfl ?_
  refine w_nil ?_
  refine xn_then ?_
  refine w_seq ?_
  refine w_reg ?_
  refine wl_alloc 24 #[.int .u64 0, .int .u64 0, .int .u64 0, .int .u64 0] rfl (fun _ => by kernel_rfl) rfl ?_
  intro k3 w3 hk hz hq Q3
  have ne_k1_k3 : k1 ≠ k3 := by have := Q1.lt; omega
  have ne_k2_k3 : k2 ≠ k3 := by have := Q2.lt; omega
  have N_k3 : w.heap.size ≤ k3 := by have := M.size; omega
  replace Q1 := Q1.mo hq
  replace Q2 := Q2.mo hq
  replace M := M.trans hq
  clear hk hz hq
  refine w_nil ?_
  refine xn_then ?_
  refine w_seq ?_
  refine w_reg ?_
  refine wl_mv (.const (.int .u64 (0))) (.int .u64 (0)) (fun _ => rfl) rfl rfl ?_
  refine w_nil ?_
  refine xn_then ?_
  refine w_seq ?_
  refine w_seq ?_
  refine w_reg ?_
  refine wl_mv (.const (.int .i64 (7))) (.int .i64 (7)) (fun _ => rfl) rfl rfl ?_
  refine w_nil ?_
  refine xn_then ?_
  refine w_block ?_
  refine w_loop (fun m l w1 => m ≤ 8 ∧ look l 8 = .int .i64 ((m : Int) - 1) ∧ look l 7 = .int .u64 (r m) ∧ look l 1 = .int .u64 10 ∧ look l 2 = pt k1 0 ∧ look l 4 = pt k2 0 ∧ look l 6 = pt k3 0 ∧ At w1 k1 (nvli n) ∧ At w1 k2 [.int .u64 0, .int .u64 0, .int .u64 0, .int .u64 0] ∧ At w1 k3 (qc y m) ∧ Mo w w1) 8 ⟨by decide, rfl, by rw [hr8]; rfl, rfl, rfl, rfl, rfl, Q1, Q2, Q3, M⟩ ?_
  clear M Q1 Q2 Q3
  rintro m l wl ⟨hm, e8, e7, e1, e2, e4, e6, Q1, Q2, Q3, M⟩
  rcases m with _ | _ | _ | _ | _ | _ | _ | _ | _ | m
  · replace e8 : look l 8 = .int .i64 (-1) := by rw [e8]; rfl
    refine w_seq ?_
    refine w_seq ?_
    refine w_reg ?_
    refine wl_mv (.tmp 8) (.int .i64 (-1)) (fun _ => rfl) e8 rfl ?_
    refine wl_bin (fun x y => do eqGuard .geq 3 (.tmp 10) (.const (.int .i64 (0))) x y; binOp .geq 3 x y) (.tmp 10) (.const (.int .i64 (0))) (.int .i64 (-1)) (.int .i64 (0)) (.bool false) (fun _ => rfl) rfl rfl (by kernel_rfl) rfl ?_
    refine w_nil ?_
    refine xn_then ?_
    refine w_condF rfl ?_
    refine w_exit ?_
    refine xx_then ?_
    refine xx_then ?_
    refine xx_blk ?_
    refine xn_then ?_
    refine w_seq ?_
    refine w_reg ?_
    refine wl_load 24 (.tmp 6) (pt k3 0) (.agg #[.int .u64 (y 1 * 4294967296 + y 0), .int .u64 (y 3 * 4294967296 + y 2), .int .u64 (y 5 * 4294967296 + y 4), .int .u64 (y 7 * 4294967296 + y 6)]) rfl e6 (run_row Q3 24 0 4 [.int .u64 (y 1 * 4294967296 + y 0), .int .u64 (y 3 * 4294967296 + y 2), .int .u64 (y 5 * 4294967296 + y 4), .int .u64 (y 7 * 4294967296 + y 6)] rfl Tryd.underlying24 rfl sz24) rfl ?_
    refine wl_mv (.tmp 7) (.int .u64 (r 0)) (fun _ => rfl) e7 rfl ?_
    refine wl_st 24 (.tmp 4) (.tmp 36) k2 0 #[.int .u64 (y 1 * 4294967296 + y 0), .int .u64 (y 3 * 4294967296 + y 2), .int .u64 (y 5 * 4294967296 + y 4), .int .u64 (y 7 * 4294967296 + y 6)] [.int .u64 0, .int .u64 0, .int .u64 0, .int .u64 0] [.int .u64 (y 1 * 4294967296 + y 0), .int .u64 (y 3 * 4294967296 + y 2), .int .u64 (y 5 * 4294967296 + y 4), .int .u64 (y 7 * 4294967296 + y 6)] Q2 rfl rfl e4 rfl rfl sz24 rfl rfl rfl ?_
    intro w21 hS Qn
    replace Q2 := Qn
    clear Qn
    replace Q1 := hS.other _ _ ne_k1_k2 Q1
    replace Q3 := hS.other _ _ ne_k2_k3.symm Q3
    replace M := hS.mo _ N_k2 M
    clear hS
    refine wl_mv (.tmp 37) (.int .u64 (r 0)) (fun _ => rfl) rfl rfl ?_
    refine w_nil ?_
    refine xn_then ?_
    refine w_ret ?_
    exact w_ret2 _ _ (.agg #[.int .u64 (y 1 * 4294967296 + y 0), .int .u64 (y 3 * 4294967296 + y 2), .int .u64 (y 5 * 4294967296 + y 4), .int .u64 (y 7 * 4294967296 + y 6)]) (.int .u64 (r 0)) rfl ⟨k2, e4, (run_row Q2 24 0 4 [.int .u64 (y 1 * 4294967296 + y 0), .int .u64 (y 3 * 4294967296 + y 2), .int .u64 (y 5 * 4294967296 + y 4), .int .u64 (y 7 * 4294967296 + y 6)] rfl Tryd.underlying24 rfl sz24)⟩ rfl ⟨rfl, M⟩
  · obtain ⟨hx, hy, hr⟩ := hxy 0 (by decide)
    have hd := dg_bd n 0
    have hb := rb 0 (by decide)
    have hb1 := rb 1 (by decide)
    have hy1 := yb 1 (by decide)
    have hy2 := yb 2 (by decide)
    have hy3 := yb 3 (by decide)
    have hy4 := yb 4 (by decide)
    have hy5 := yb 5 (by decide)
    have hy6 := yb 6 (by decide)
    have hy7 := yb 7 (by decide)
    have hyi := yb 0 (by decide)
    refine w_seq ?_
    refine w_seq ?_
    refine w_reg ?_
    refine wl_mv (.tmp 8) (.int .i64 (0)) (fun _ => rfl) e8 rfl ?_
    refine wl_bin (fun x y => do eqGuard .geq 3 (.tmp 10) (.const (.int .i64 (0))) x y; binOp .geq 3 x y) (.tmp 10) (.const (.int .i64 (0))) (.int .i64 (0)) (.int .i64 (0)) (.bool true) (fun _ => rfl) rfl rfl (by kernel_rfl) rfl ?_
    refine w_nil ?_
    refine xn_then ?_
    refine w_condT rfl ?_
    refine w_skip ?_
    refine xn_then ?_
    refine w_seq ?_
    refine w_block ?_
    refine w_seq ?_
    refine w_reg ?_
    refine wl_mv (.tmp 7) (.int .u64 (r 1)) (fun _ => rfl) e7 rfl ?_
    refine wl_bin (fun x y => do eqGuard .shl 22 (.tmp 14) (.const (.int .u64 (32))) x y; binOp .shl 22 x y) (.tmp 14) (.const (.int .u64 (32))) (.int .u64 (r 1)) (.int .u64 (32)) (.int .u64 (r 1 * 4294967296)) (fun _ => rfl) rfl rfl (shlu_run rfl (by omega) (by omega) _ _ _) rfl ?_
    refine wl_load 24 (.tmp 2) (pt k1 0) (nv (n)) rfl e2 (run_row Q1 24 0 4 (nvli (n)) rfl Tryd.underlying24 rfl sz24) rfl ?_
    refine wl_mv (.tmp 8) (.int .i64 (0)) (fun _ => rfl) e8 rfl ?_
    refine wl_call 59 [(.tmp 16), (.tmp 17)] _ [nv (n), .int .i64 (0)] (.int .u64 (dg n 0)) rfl rfl (fun _ _ => by kernel_rfl) (half_any n 0 _ (by decide)) rfl ?_
    intro w21 hq
    replace Q1 := Q1.mo hq
    replace Q2 := Q2.mo hq
    replace Q3 := Q3.mo hq
    replace M := M.trans hq
    clear hq
    refine wl_bin (fun x y => do eqGuard .add 22 (.tmp 15) (.tmp 18) x y; binOp .add 22 x y) (.tmp 15) (.tmp 18) (.int .u64 (r 1 * 4294967296)) (.int .u64 (dg n 0)) (.int .u64 (x 0)) (fun _ => rfl) rfl rfl (addu_run hx (by omega) (by omega) _ _ _) rfl ?_
    refine wl_mv (.tmp 19) (.int .u64 (x 0)) (fun _ => rfl) rfl rfl ?_
    refine w_nil ?_
    refine xn_then ?_
    refine w_seq ?_
    refine w_any 13 [.inl (.int .i64 (0)), .inl (.int .i64 (0)), .inl (pt k3 0), .inl (.int .u64 (y 1 * 4294967296)), .inl (.int .u64 (x 0)), .inl (.int .u64 10), .inl (.int .u64 (y 0)), .inl (.int .i64 (0)), .inl (.int .i64 (0)), .inl (.int .i64 (0)), .inl (.int .u64 (y 0)), .inl (.int .u64 (y 1 * 4294967296 + y 0)), .inl (pt k3 0)] [] (by kernel_rfl) (by kernel_rfl) (by kernel_rfl) (by kernel_rfl) rfl (by kernel_rfl) (by kernel_rfl) late_nil ?_ ?_ ?_
    · exact Ds.none rfl
    · refine ea_cons ?_ (ea_cons ?_ (ea_cons ?_ (ea_cons ?_ (ea_cons ?_ (ea_cons ?_ (ea_cons ?_ (ea_cons ?_ (ea_cons ?_ (ea_cons ?_ (ea_cons ?_ (ea_cons ?_ (ea_cons ?_ (ea_nil)))))))))))))
      · exact og_eq (.int .i64 (0)) rfl (fun f wf hq hd K hK => go_run rfl (wo_mv (.tmp 8) (.int .i64 (0)) (fun _ => rfl) e8 (hK _ (Mo.refl _))))
      · exact og_eq (.int .i64 (0)) rfl (fun f wf hq hd K hK => go_run rfl (wo_bin (fun x y => do eqGuard .quo 3 (.tmp 20) (.const (.int .i64 (2))) x y; binOp .quo 3 x y) (.tmp 20) (.const (.int .i64 (2))) (.int .i64 (0)) (.int .i64 (2)) (.int .i64 (0)) (fun _ => rfl) (hd 0 rfl) rfl (by kernel_rfl) (hK _ (Mo.refl _))))
      · exact og_eq (pt k3 0) rfl (fun f wf hq hd K hK => go_run rfl (wo_bin (fun x y => Instr.indexAt 24 x y) (.tmp 6) (.tmp 21) (pt k3 0) (.int .i64 (0)) (pt k3 0) (fun _ => rfl) e6 (hd 1 rfl) (by kernel_rfl) (hK _ (Mo.refl _))))
      · exact og_eq (.int .u64 (y 1 * 4294967296)) rfl (fun f wf hq hd K hK => have Q3 := Q3.mo hq; go_run rfl (wo_load 22 (.tmp 22) (pt k3 0) (.int .u64 (y 1 * 4294967296)) rfl (hd 2 rfl) (run_one Q3 22 0 rfl Tryd.underlying22 rfl) (hK _ (Mo.refl _))))
      · exact og_eq (.int .u64 (x 0)) rfl (fun f wf hq hd K hK => go_run rfl (wo_mv (.tmp 9) (.int .u64 (x 0)) (fun _ => rfl) rfl (hK _ (Mo.refl _))))
      · exact og_eq (.int .u64 10) rfl (fun f wf hq hd K hK => go_run rfl (wo_mv (.tmp 1) (.int .u64 10) (fun _ => rfl) e1 (hK _ (Mo.refl _))))
      · exact og_eq (.int .u64 (y 0)) rfl (fun f wf hq hd K hK => go_run rfl (wo_bin (fun x y => do eqGuard .quo 22 (.tmp 24) (.tmp 25) x y; binOp .quo 22 x y) (.tmp 24) (.tmp 25) (.int .u64 (x 0)) (.int .u64 10) (.int .u64 (y 0)) (fun _ => rfl) (hd 4 rfl) (hd 5 rfl) (quou_run hy (by omega) (by omega) _ _ _) (hK _ (Mo.refl _))))
      · exact og_eq (.int .i64 (0)) rfl (fun f wf hq hd K hK => go_run rfl (wo_mv (.tmp 8) (.int .i64 (0)) (fun _ => rfl) e8 (hK _ (Mo.refl _))))
      · exact og_eq (.int .i64 (0)) rfl (fun f wf hq hd K hK => go_run rfl (wo_bin (fun x y => do eqGuard .rem 3 (.tmp 27) (.const (.int .i64 (2))) x y; binOp .rem 3 x y) (.tmp 27) (.const (.int .i64 (2))) (.int .i64 (0)) (.int .i64 (2)) (.int .i64 (0)) (fun _ => rfl) (hd 7 rfl) rfl (by kernel_rfl) (hK _ (Mo.refl _))))
      · exact og_eq (.int .i64 (0)) rfl (fun f wf hq hd K hK => go_run rfl (wo_bin (fun x y => do eqGuard .mul 3 (.tmp 28) (.const (.int .i64 (32))) x y; binOp .mul 3 x y) (.tmp 28) (.const (.int .i64 (32))) (.int .i64 (0)) (.int .i64 (32)) (.int .i64 (0)) (fun _ => rfl) (hd 8 rfl) rfl (by kernel_rfl) (hK _ (Mo.refl _))))
      · exact og_eq (.int .u64 (y 0)) rfl (fun f wf hq hd K hK => go_run rfl (wo_bin (fun x y => do eqGuard .shl 22 (.tmp 26) (.tmp 29) x y; binOp .shl 22 x y) (.tmp 26) (.tmp 29) (.int .u64 (y 0)) (.int .i64 (0)) (.int .u64 (y 0)) (fun _ => rfl) (hd 6 rfl) (hd 9 rfl) (shl0_run (by omega) (by omega) _ _ _) (hK _ (Mo.refl _))))
      · exact og_eq (.int .u64 (y 1 * 4294967296 + y 0)) rfl (fun f wf hq hd K hK => go_run rfl (wo_bin (fun x y => do eqGuard .add 22 (.tmp 23) (.tmp 30) x y; binOp .add 22 x y) (.tmp 23) (.tmp 30) (.int .u64 (y 1 * 4294967296)) (.int .u64 (y 0)) (.int .u64 (y 1 * 4294967296 + y 0)) (fun _ => rfl) (hd 3 rfl) (hd 10 rfl) (addu_run (by omega) (by omega) (by omega) _ _ _) (hK _ (Mo.refl _))))
      · exact og_eq (pt k3 0) rfl (fun f wf hq hd K hK => go_run rfl (wo_bin (fun x y => Instr.indexAt 24 x y) (.tmp 6) (.tmp 21) (pt k3 0) (.int .i64 (0)) (pt k3 0) (fun _ => rfl) e6 (hd 1 rfl) (by kernel_rfl) (hK _ (Mo.refl _))))
    intro kf22 w22 hq hR hne
    replace Q1 := Q1.mo hq
    replace Q2 := Q2.mo hq
    replace Q3 := Q3.mo hq
    replace M := M.trans hq
    clear hq hR hne
    refine wl_st1 22 (.tmp 32) (.tmp 31) k3 0 (.int .u64 (y 1 * 4294967296 + y 0)) [.int .u64 (y 1 * 4294967296), .int .u64 (y 3 * 4294967296 + y 2), .int .u64 (y 5 * 4294967296 + y 4), .int .u64 (y 7 * 4294967296 + y 6)] [.int .u64 (y 1 * 4294967296 + y 0), .int .u64 (y 3 * 4294967296 + y 2), .int .u64 (y 5 * 4294967296 + y 4), .int .u64 (y 7 * 4294967296 + y 6)] Q3 rfl rfl rfl rfl rfl sz22b rfl rfl rfl rfl ?_
    intro w23 hS Qn
    replace Q3 := Qn
    clear Qn
    replace Q1 := hS.other _ _ ne_k1_k3 Q1
    replace Q2 := hS.other _ _ ne_k2_k3 Q2
    replace M := hS.mo _ N_k3 M
    clear hS
    refine w_nil ?_
    refine xn_then ?_
    refine w_reg ?_
    refine wl_mv (.tmp 9) (.int .u64 (x 0)) (fun _ => rfl) rfl rfl ?_
    refine wl_mv (.tmp 1) (.int .u64 10) (fun _ => rfl) e1 rfl ?_
    refine wl_bin (fun x y => do eqGuard .rem 22 (.tmp 33) (.tmp 34) x y; binOp .rem 22 x y) (.tmp 33) (.tmp 34) (.int .u64 (x 0)) (.int .u64 10) (.int .u64 (r 0)) (fun _ => rfl) rfl rfl (remu_run hr (by omega) _ _ _) rfl ?_
    refine wl_mv (.tmp 35) (.int .u64 (r 0)) (fun _ => rfl) rfl rfl ?_
    refine w_nil ?_
    refine xn_blk ?_
    refine xn_then ?_
    refine w_reg ?_
    refine wl_mv (.tmp 8) (.int .i64 (0)) (fun _ => rfl) e8 rfl ?_
    refine wl_bin (fun x y => do eqGuard .sub 3 (.tmp 12) (.const (.int .i64 (1))) x y; binOp .sub 3 x y) (.tmp 12) (.const (.int .i64 (1))) (.int .i64 (0)) (.int .i64 (1)) (.int .i64 (-1)) (fun _ => rfl) rfl rfl (by kernel_rfl) rfl ?_
    refine wl_mv (.tmp 13) (.int .i64 (-1)) (fun _ => rfl) rfl rfl ?_
    refine w_nil ?_
    exact xn_loop 0 (by decide) ⟨by decide, rfl, rfl, e1, e2, e4, e6, Q1, Q2, Q3, M⟩
  · obtain ⟨hx, hy, hr⟩ := hxy 1 (by decide)
    have hd := dg_bd n 1
    have hb := rb 1 (by decide)
    have hb1 := rb 2 (by decide)
    have hy2 := yb 2 (by decide)
    have hy3 := yb 3 (by decide)
    have hy4 := yb 4 (by decide)
    have hy5 := yb 5 (by decide)
    have hy6 := yb 6 (by decide)
    have hy7 := yb 7 (by decide)
    have hyi := yb 1 (by decide)
    refine w_seq ?_
    refine w_seq ?_
    refine w_reg ?_
    refine wl_mv (.tmp 8) (.int .i64 (1)) (fun _ => rfl) e8 rfl ?_
    refine wl_bin (fun x y => do eqGuard .geq 3 (.tmp 10) (.const (.int .i64 (0))) x y; binOp .geq 3 x y) (.tmp 10) (.const (.int .i64 (0))) (.int .i64 (1)) (.int .i64 (0)) (.bool true) (fun _ => rfl) rfl rfl (by kernel_rfl) rfl ?_
    refine w_nil ?_
    refine xn_then ?_
    refine w_condT rfl ?_
    refine w_skip ?_
    refine xn_then ?_
    refine w_seq ?_
    refine w_block ?_
    refine w_seq ?_
    refine w_reg ?_
    refine wl_mv (.tmp 7) (.int .u64 (r 2)) (fun _ => rfl) e7 rfl ?_
    refine wl_bin (fun x y => do eqGuard .shl 22 (.tmp 14) (.const (.int .u64 (32))) x y; binOp .shl 22 x y) (.tmp 14) (.const (.int .u64 (32))) (.int .u64 (r 2)) (.int .u64 (32)) (.int .u64 (r 2 * 4294967296)) (fun _ => rfl) rfl rfl (shlu_run rfl (by omega) (by omega) _ _ _) rfl ?_
    refine wl_load 24 (.tmp 2) (pt k1 0) (nv (n)) rfl e2 (run_row Q1 24 0 4 (nvli (n)) rfl Tryd.underlying24 rfl sz24) rfl ?_
    refine wl_mv (.tmp 8) (.int .i64 (1)) (fun _ => rfl) e8 rfl ?_
    refine wl_call 59 [(.tmp 16), (.tmp 17)] _ [nv (n), .int .i64 (1)] (.int .u64 (dg n 1)) rfl rfl (fun _ _ => by kernel_rfl) (half_any n 1 _ (by decide)) rfl ?_
    intro w21 hq
    replace Q1 := Q1.mo hq
    replace Q2 := Q2.mo hq
    replace Q3 := Q3.mo hq
    replace M := M.trans hq
    clear hq
    refine wl_bin (fun x y => do eqGuard .add 22 (.tmp 15) (.tmp 18) x y; binOp .add 22 x y) (.tmp 15) (.tmp 18) (.int .u64 (r 2 * 4294967296)) (.int .u64 (dg n 1)) (.int .u64 (x 1)) (fun _ => rfl) rfl rfl (addu_run hx (by omega) (by omega) _ _ _) rfl ?_
    refine wl_mv (.tmp 19) (.int .u64 (x 1)) (fun _ => rfl) rfl rfl ?_
    refine w_nil ?_
    refine xn_then ?_
    refine w_seq ?_
    refine w_any 13 [.inl (.int .i64 (1)), .inl (.int .i64 (0)), .inl (pt k3 0), .inl (.int .u64 0), .inl (.int .u64 (x 1)), .inl (.int .u64 10), .inl (.int .u64 (y 1)), .inl (.int .i64 (1)), .inl (.int .i64 (1)), .inl (.int .i64 (32)), .inl (.int .u64 (y 1 * 4294967296)), .inl (.int .u64 (y 1 * 4294967296)), .inl (pt k3 0)] [] (by kernel_rfl) (by kernel_rfl) (by kernel_rfl) (by kernel_rfl) rfl (by kernel_rfl) (by kernel_rfl) late_nil ?_ ?_ ?_
    · exact Ds.none rfl
    · refine ea_cons ?_ (ea_cons ?_ (ea_cons ?_ (ea_cons ?_ (ea_cons ?_ (ea_cons ?_ (ea_cons ?_ (ea_cons ?_ (ea_cons ?_ (ea_cons ?_ (ea_cons ?_ (ea_cons ?_ (ea_cons ?_ (ea_nil)))))))))))))
      · exact og_eq (.int .i64 (1)) rfl (fun f wf hq hd K hK => go_run rfl (wo_mv (.tmp 8) (.int .i64 (1)) (fun _ => rfl) e8 (hK _ (Mo.refl _))))
      · exact og_eq (.int .i64 (0)) rfl (fun f wf hq hd K hK => go_run rfl (wo_bin (fun x y => do eqGuard .quo 3 (.tmp 20) (.const (.int .i64 (2))) x y; binOp .quo 3 x y) (.tmp 20) (.const (.int .i64 (2))) (.int .i64 (1)) (.int .i64 (2)) (.int .i64 (0)) (fun _ => rfl) (hd 0 rfl) rfl (by kernel_rfl) (hK _ (Mo.refl _))))
      · exact og_eq (pt k3 0) rfl (fun f wf hq hd K hK => go_run rfl (wo_bin (fun x y => Instr.indexAt 24 x y) (.tmp 6) (.tmp 21) (pt k3 0) (.int .i64 (0)) (pt k3 0) (fun _ => rfl) e6 (hd 1 rfl) (by kernel_rfl) (hK _ (Mo.refl _))))
      · exact og_eq (.int .u64 0) rfl (fun f wf hq hd K hK => have Q3 := Q3.mo hq; go_run rfl (wo_load 22 (.tmp 22) (pt k3 0) (.int .u64 0) rfl (hd 2 rfl) (run_one Q3 22 0 rfl Tryd.underlying22 rfl) (hK _ (Mo.refl _))))
      · exact og_eq (.int .u64 (x 1)) rfl (fun f wf hq hd K hK => go_run rfl (wo_mv (.tmp 9) (.int .u64 (x 1)) (fun _ => rfl) rfl (hK _ (Mo.refl _))))
      · exact og_eq (.int .u64 10) rfl (fun f wf hq hd K hK => go_run rfl (wo_mv (.tmp 1) (.int .u64 10) (fun _ => rfl) e1 (hK _ (Mo.refl _))))
      · exact og_eq (.int .u64 (y 1)) rfl (fun f wf hq hd K hK => go_run rfl (wo_bin (fun x y => do eqGuard .quo 22 (.tmp 24) (.tmp 25) x y; binOp .quo 22 x y) (.tmp 24) (.tmp 25) (.int .u64 (x 1)) (.int .u64 10) (.int .u64 (y 1)) (fun _ => rfl) (hd 4 rfl) (hd 5 rfl) (quou_run hy (by omega) (by omega) _ _ _) (hK _ (Mo.refl _))))
      · exact og_eq (.int .i64 (1)) rfl (fun f wf hq hd K hK => go_run rfl (wo_mv (.tmp 8) (.int .i64 (1)) (fun _ => rfl) e8 (hK _ (Mo.refl _))))
      · exact og_eq (.int .i64 (1)) rfl (fun f wf hq hd K hK => go_run rfl (wo_bin (fun x y => do eqGuard .rem 3 (.tmp 27) (.const (.int .i64 (2))) x y; binOp .rem 3 x y) (.tmp 27) (.const (.int .i64 (2))) (.int .i64 (1)) (.int .i64 (2)) (.int .i64 (1)) (fun _ => rfl) (hd 7 rfl) rfl (by kernel_rfl) (hK _ (Mo.refl _))))
      · exact og_eq (.int .i64 (32)) rfl (fun f wf hq hd K hK => go_run rfl (wo_bin (fun x y => do eqGuard .mul 3 (.tmp 28) (.const (.int .i64 (32))) x y; binOp .mul 3 x y) (.tmp 28) (.const (.int .i64 (32))) (.int .i64 (1)) (.int .i64 (32)) (.int .i64 (32)) (fun _ => rfl) (hd 8 rfl) rfl (by kernel_rfl) (hK _ (Mo.refl _))))
      · exact og_eq (.int .u64 (y 1 * 4294967296)) rfl (fun f wf hq hd K hK => go_run rfl (wo_bin (fun x y => do eqGuard .shl 22 (.tmp 26) (.tmp 29) x y; binOp .shl 22 x y) (.tmp 26) (.tmp 29) (.int .u64 (y 1)) (.int .i64 (32)) (.int .u64 (y 1 * 4294967296)) (fun _ => rfl) (hd 6 rfl) (hd 9 rfl) (shli_run rfl (by omega) (by omega) _ _ _) (hK _ (Mo.refl _))))
      · exact og_eq (.int .u64 (y 1 * 4294967296)) rfl (fun f wf hq hd K hK => go_run rfl (wo_bin (fun x y => do eqGuard .add 22 (.tmp 23) (.tmp 30) x y; binOp .add 22 x y) (.tmp 23) (.tmp 30) (.int .u64 0) (.int .u64 (y 1 * 4294967296)) (.int .u64 (y 1 * 4294967296)) (fun _ => rfl) (hd 3 rfl) (hd 10 rfl) (addu_run (by omega) (by omega) (by omega) _ _ _) (hK _ (Mo.refl _))))
      · exact og_eq (pt k3 0) rfl (fun f wf hq hd K hK => go_run rfl (wo_bin (fun x y => Instr.indexAt 24 x y) (.tmp 6) (.tmp 21) (pt k3 0) (.int .i64 (0)) (pt k3 0) (fun _ => rfl) e6 (hd 1 rfl) (by kernel_rfl) (hK _ (Mo.refl _))))
    intro kf22 w22 hq hR hne
    replace Q1 := Q1.mo hq
    replace Q2 := Q2.mo hq
    replace Q3 := Q3.mo hq
    replace M := M.trans hq
    clear hq hR hne
    refine wl_st1 22 (.tmp 32) (.tmp 31) k3 0 (.int .u64 (y 1 * 4294967296)) [.int .u64 0, .int .u64 (y 3 * 4294967296 + y 2), .int .u64 (y 5 * 4294967296 + y 4), .int .u64 (y 7 * 4294967296 + y 6)] [.int .u64 (y 1 * 4294967296), .int .u64 (y 3 * 4294967296 + y 2), .int .u64 (y 5 * 4294967296 + y 4), .int .u64 (y 7 * 4294967296 + y 6)] Q3 rfl rfl rfl rfl rfl sz22b rfl rfl rfl rfl ?_
    intro w23 hS Qn
    replace Q3 := Qn
    clear Qn
    replace Q1 := hS.other _ _ ne_k1_k3 Q1
    replace Q2 := hS.other _ _ ne_k2_k3 Q2
    replace M := hS.mo _ N_k3 M
    clear hS
    refine w_nil ?_
    refine xn_then ?_
    refine w_reg ?_
    refine wl_mv (.tmp 9) (.int .u64 (x 1)) (fun _ => rfl) rfl rfl ?_
    refine wl_mv (.tmp 1) (.int .u64 10) (fun _ => rfl) e1 rfl ?_
    refine wl_bin (fun x y => do eqGuard .rem 22 (.tmp 33) (.tmp 34) x y; binOp .rem 22 x y) (.tmp 33) (.tmp 34) (.int .u64 (x 1)) (.int .u64 10) (.int .u64 (r 1)) (fun _ => rfl) rfl rfl (remu_run hr (by omega) _ _ _) rfl ?_
    refine wl_mv (.tmp 35) (.int .u64 (r 1)) (fun _ => rfl) rfl rfl ?_
    refine w_nil ?_
    refine xn_blk ?_
    refine xn_then ?_
    refine w_reg ?_
    refine wl_mv (.tmp 8) (.int .i64 (1)) (fun _ => rfl) e8 rfl ?_
    refine wl_bin (fun x y => do eqGuard .sub 3 (.tmp 12) (.const (.int .i64 (1))) x y; binOp .sub 3 x y) (.tmp 12) (.const (.int .i64 (1))) (.int .i64 (1)) (.int .i64 (1)) (.int .i64 (0)) (fun _ => rfl) rfl rfl (by kernel_rfl) rfl ?_
    refine wl_mv (.tmp 13) (.int .i64 (0)) (fun _ => rfl) rfl rfl ?_
    refine w_nil ?_
    exact xn_loop 1 (by decide) ⟨by decide, rfl, rfl, e1, e2, e4, e6, Q1, Q2, Q3, M⟩
  · obtain ⟨hx, hy, hr⟩ := hxy 2 (by decide)
    have hd := dg_bd n 2
    have hb := rb 2 (by decide)
    have hb1 := rb 3 (by decide)
    have hy3 := yb 3 (by decide)
    have hy4 := yb 4 (by decide)
    have hy5 := yb 5 (by decide)
    have hy6 := yb 6 (by decide)
    have hy7 := yb 7 (by decide)
    have hyi := yb 2 (by decide)
    refine w_seq ?_
    refine w_seq ?_
    refine w_reg ?_
    refine wl_mv (.tmp 8) (.int .i64 (2)) (fun _ => rfl) e8 rfl ?_
    refine wl_bin (fun x y => do eqGuard .geq 3 (.tmp 10) (.const (.int .i64 (0))) x y; binOp .geq 3 x y) (.tmp 10) (.const (.int .i64 (0))) (.int .i64 (2)) (.int .i64 (0)) (.bool true) (fun _ => rfl) rfl rfl (by kernel_rfl) rfl ?_
    refine w_nil ?_
    refine xn_then ?_
    refine w_condT rfl ?_
    refine w_skip ?_
    refine xn_then ?_
    refine w_seq ?_
    refine w_block ?_
    refine w_seq ?_
    refine w_reg ?_
    refine wl_mv (.tmp 7) (.int .u64 (r 3)) (fun _ => rfl) e7 rfl ?_
    refine wl_bin (fun x y => do eqGuard .shl 22 (.tmp 14) (.const (.int .u64 (32))) x y; binOp .shl 22 x y) (.tmp 14) (.const (.int .u64 (32))) (.int .u64 (r 3)) (.int .u64 (32)) (.int .u64 (r 3 * 4294967296)) (fun _ => rfl) rfl rfl (shlu_run rfl (by omega) (by omega) _ _ _) rfl ?_
    refine wl_load 24 (.tmp 2) (pt k1 0) (nv (n)) rfl e2 (run_row Q1 24 0 4 (nvli (n)) rfl Tryd.underlying24 rfl sz24) rfl ?_
    refine wl_mv (.tmp 8) (.int .i64 (2)) (fun _ => rfl) e8 rfl ?_
    refine wl_call 59 [(.tmp 16), (.tmp 17)] _ [nv (n), .int .i64 (2)] (.int .u64 (dg n 2)) rfl rfl (fun _ _ => by kernel_rfl) (half_any n 2 _ (by decide)) rfl ?_
    intro w21 hq
    replace Q1 := Q1.mo hq
    replace Q2 := Q2.mo hq
    replace Q3 := Q3.mo hq
    replace M := M.trans hq
    clear hq
    refine wl_bin (fun x y => do eqGuard .add 22 (.tmp 15) (.tmp 18) x y; binOp .add 22 x y) (.tmp 15) (.tmp 18) (.int .u64 (r 3 * 4294967296)) (.int .u64 (dg n 2)) (.int .u64 (x 2)) (fun _ => rfl) rfl rfl (addu_run hx (by omega) (by omega) _ _ _) rfl ?_
    refine wl_mv (.tmp 19) (.int .u64 (x 2)) (fun _ => rfl) rfl rfl ?_
    refine w_nil ?_
    refine xn_then ?_
    refine w_seq ?_
    refine w_any 13 [.inl (.int .i64 (2)), .inl (.int .i64 (1)), .inl (pt k3 1), .inl (.int .u64 (y 3 * 4294967296)), .inl (.int .u64 (x 2)), .inl (.int .u64 10), .inl (.int .u64 (y 2)), .inl (.int .i64 (2)), .inl (.int .i64 (0)), .inl (.int .i64 (0)), .inl (.int .u64 (y 2)), .inl (.int .u64 (y 3 * 4294967296 + y 2)), .inl (pt k3 1)] [] (by kernel_rfl) (by kernel_rfl) (by kernel_rfl) (by kernel_rfl) rfl (by kernel_rfl) (by kernel_rfl) late_nil ?_ ?_ ?_
    · exact Ds.none rfl
    · refine ea_cons ?_ (ea_cons ?_ (ea_cons ?_ (ea_cons ?_ (ea_cons ?_ (ea_cons ?_ (ea_cons ?_ (ea_cons ?_ (ea_cons ?_ (ea_cons ?_ (ea_cons ?_ (ea_cons ?_ (ea_cons ?_ (ea_nil)))))))))))))
      · exact og_eq (.int .i64 (2)) rfl (fun f wf hq hd K hK => go_run rfl (wo_mv (.tmp 8) (.int .i64 (2)) (fun _ => rfl) e8 (hK _ (Mo.refl _))))
      · exact og_eq (.int .i64 (1)) rfl (fun f wf hq hd K hK => go_run rfl (wo_bin (fun x y => do eqGuard .quo 3 (.tmp 20) (.const (.int .i64 (2))) x y; binOp .quo 3 x y) (.tmp 20) (.const (.int .i64 (2))) (.int .i64 (2)) (.int .i64 (2)) (.int .i64 (1)) (fun _ => rfl) (hd 0 rfl) rfl (by kernel_rfl) (hK _ (Mo.refl _))))
      · exact og_eq (pt k3 1) rfl (fun f wf hq hd K hK => go_run rfl (wo_bin (fun x y => Instr.indexAt 24 x y) (.tmp 6) (.tmp 21) (pt k3 0) (.int .i64 (1)) (pt k3 1) (fun _ => rfl) e6 (hd 1 rfl) (by kernel_rfl) (hK _ (Mo.refl _))))
      · exact og_eq (.int .u64 (y 3 * 4294967296)) rfl (fun f wf hq hd K hK => have Q3 := Q3.mo hq; go_run rfl (wo_load 22 (.tmp 22) (pt k3 1) (.int .u64 (y 3 * 4294967296)) rfl (hd 2 rfl) (run_one Q3 22 1 rfl Tryd.underlying22 rfl) (hK _ (Mo.refl _))))
      · exact og_eq (.int .u64 (x 2)) rfl (fun f wf hq hd K hK => go_run rfl (wo_mv (.tmp 9) (.int .u64 (x 2)) (fun _ => rfl) rfl (hK _ (Mo.refl _))))
      · exact og_eq (.int .u64 10) rfl (fun f wf hq hd K hK => go_run rfl (wo_mv (.tmp 1) (.int .u64 10) (fun _ => rfl) e1 (hK _ (Mo.refl _))))
      · exact og_eq (.int .u64 (y 2)) rfl (fun f wf hq hd K hK => go_run rfl (wo_bin (fun x y => do eqGuard .quo 22 (.tmp 24) (.tmp 25) x y; binOp .quo 22 x y) (.tmp 24) (.tmp 25) (.int .u64 (x 2)) (.int .u64 10) (.int .u64 (y 2)) (fun _ => rfl) (hd 4 rfl) (hd 5 rfl) (quou_run hy (by omega) (by omega) _ _ _) (hK _ (Mo.refl _))))
      · exact og_eq (.int .i64 (2)) rfl (fun f wf hq hd K hK => go_run rfl (wo_mv (.tmp 8) (.int .i64 (2)) (fun _ => rfl) e8 (hK _ (Mo.refl _))))
      · exact og_eq (.int .i64 (0)) rfl (fun f wf hq hd K hK => go_run rfl (wo_bin (fun x y => do eqGuard .rem 3 (.tmp 27) (.const (.int .i64 (2))) x y; binOp .rem 3 x y) (.tmp 27) (.const (.int .i64 (2))) (.int .i64 (2)) (.int .i64 (2)) (.int .i64 (0)) (fun _ => rfl) (hd 7 rfl) rfl (by kernel_rfl) (hK _ (Mo.refl _))))
      · exact og_eq (.int .i64 (0)) rfl (fun f wf hq hd K hK => go_run rfl (wo_bin (fun x y => do eqGuard .mul 3 (.tmp 28) (.const (.int .i64 (32))) x y; binOp .mul 3 x y) (.tmp 28) (.const (.int .i64 (32))) (.int .i64 (0)) (.int .i64 (32)) (.int .i64 (0)) (fun _ => rfl) (hd 8 rfl) rfl (by kernel_rfl) (hK _ (Mo.refl _))))
      · exact og_eq (.int .u64 (y 2)) rfl (fun f wf hq hd K hK => go_run rfl (wo_bin (fun x y => do eqGuard .shl 22 (.tmp 26) (.tmp 29) x y; binOp .shl 22 x y) (.tmp 26) (.tmp 29) (.int .u64 (y 2)) (.int .i64 (0)) (.int .u64 (y 2)) (fun _ => rfl) (hd 6 rfl) (hd 9 rfl) (shl0_run (by omega) (by omega) _ _ _) (hK _ (Mo.refl _))))
      · exact og_eq (.int .u64 (y 3 * 4294967296 + y 2)) rfl (fun f wf hq hd K hK => go_run rfl (wo_bin (fun x y => do eqGuard .add 22 (.tmp 23) (.tmp 30) x y; binOp .add 22 x y) (.tmp 23) (.tmp 30) (.int .u64 (y 3 * 4294967296)) (.int .u64 (y 2)) (.int .u64 (y 3 * 4294967296 + y 2)) (fun _ => rfl) (hd 3 rfl) (hd 10 rfl) (addu_run (by omega) (by omega) (by omega) _ _ _) (hK _ (Mo.refl _))))
      · exact og_eq (pt k3 1) rfl (fun f wf hq hd K hK => go_run rfl (wo_bin (fun x y => Instr.indexAt 24 x y) (.tmp 6) (.tmp 21) (pt k3 0) (.int .i64 (1)) (pt k3 1) (fun _ => rfl) e6 (hd 1 rfl) (by kernel_rfl) (hK _ (Mo.refl _))))
    intro kf22 w22 hq hR hne
    replace Q1 := Q1.mo hq
    replace Q2 := Q2.mo hq
    replace Q3 := Q3.mo hq
    replace M := M.trans hq
    clear hq hR hne
    refine wl_st1 22 (.tmp 32) (.tmp 31) k3 1 (.int .u64 (y 3 * 4294967296 + y 2)) [.int .u64 0, .int .u64 (y 3 * 4294967296), .int .u64 (y 5 * 4294967296 + y 4), .int .u64 (y 7 * 4294967296 + y 6)] [.int .u64 0, .int .u64 (y 3 * 4294967296 + y 2), .int .u64 (y 5 * 4294967296 + y 4), .int .u64 (y 7 * 4294967296 + y 6)] Q3 rfl rfl rfl rfl rfl sz22b rfl rfl rfl rfl ?_
    intro w23 hS Qn
    replace Q3 := Qn
    clear Qn
    replace Q1 := hS.other _ _ ne_k1_k3 Q1
    replace Q2 := hS.other _ _ ne_k2_k3 Q2
    replace M := hS.mo _ N_k3 M
    clear hS
    refine w_nil ?_
    refine xn_then ?_
    refine w_reg ?_
    refine wl_mv (.tmp 9) (.int .u64 (x 2)) (fun _ => rfl) rfl rfl ?_
    refine wl_mv (.tmp 1) (.int .u64 10) (fun _ => rfl) e1 rfl ?_
    refine wl_bin (fun x y => do eqGuard .rem 22 (.tmp 33) (.tmp 34) x y; binOp .rem 22 x y) (.tmp 33) (.tmp 34) (.int .u64 (x 2)) (.int .u64 10) (.int .u64 (r 2)) (fun _ => rfl) rfl rfl (remu_run hr (by omega) _ _ _) rfl ?_
    refine wl_mv (.tmp 35) (.int .u64 (r 2)) (fun _ => rfl) rfl rfl ?_
    refine w_nil ?_
    refine xn_blk ?_
    refine xn_then ?_
    refine w_reg ?_
    refine wl_mv (.tmp 8) (.int .i64 (2)) (fun _ => rfl) e8 rfl ?_
    refine wl_bin (fun x y => do eqGuard .sub 3 (.tmp 12) (.const (.int .i64 (1))) x y; binOp .sub 3 x y) (.tmp 12) (.const (.int .i64 (1))) (.int .i64 (2)) (.int .i64 (1)) (.int .i64 (1)) (fun _ => rfl) rfl rfl (by kernel_rfl) rfl ?_
    refine wl_mv (.tmp 13) (.int .i64 (1)) (fun _ => rfl) rfl rfl ?_
    refine w_nil ?_
    exact xn_loop 2 (by decide) ⟨by decide, rfl, rfl, e1, e2, e4, e6, Q1, Q2, Q3, M⟩
  · obtain ⟨hx, hy, hr⟩ := hxy 3 (by decide)
    have hd := dg_bd n 3
    have hb := rb 3 (by decide)
    have hb1 := rb 4 (by decide)
    have hy4 := yb 4 (by decide)
    have hy5 := yb 5 (by decide)
    have hy6 := yb 6 (by decide)
    have hy7 := yb 7 (by decide)
    have hyi := yb 3 (by decide)
    refine w_seq ?_
    refine w_seq ?_
    refine w_reg ?_
    refine wl_mv (.tmp 8) (.int .i64 (3)) (fun _ => rfl) e8 rfl ?_
    refine wl_bin (fun x y => do eqGuard .geq 3 (.tmp 10) (.const (.int .i64 (0))) x y; binOp .geq 3 x y) (.tmp 10) (.const (.int .i64 (0))) (.int .i64 (3)) (.int .i64 (0)) (.bool true) (fun _ => rfl) rfl rfl (by kernel_rfl) rfl ?_
    refine w_nil ?_
    refine xn_then ?_
    refine w_condT rfl ?_
    refine w_skip ?_
    refine xn_then ?_
    refine w_seq ?_
    refine w_block ?_
    refine w_seq ?_
    refine w_reg ?_
    refine wl_mv (.tmp 7) (.int .u64 (r 4)) (fun _ => rfl) e7 rfl ?_
    refine wl_bin (fun x y => do eqGuard .shl 22 (.tmp 14) (.const (.int .u64 (32))) x y; binOp .shl 22 x y) (.tmp 14) (.const (.int .u64 (32))) (.int .u64 (r 4)) (.int .u64 (32)) (.int .u64 (r 4 * 4294967296)) (fun _ => rfl) rfl rfl (shlu_run rfl (by omega) (by omega) _ _ _) rfl ?_
    refine wl_load 24 (.tmp 2) (pt k1 0) (nv (n)) rfl e2 (run_row Q1 24 0 4 (nvli (n)) rfl Tryd.underlying24 rfl sz24) rfl ?_
    refine wl_mv (.tmp 8) (.int .i64 (3)) (fun _ => rfl) e8 rfl ?_
    refine wl_call 59 [(.tmp 16), (.tmp 17)] _ [nv (n), .int .i64 (3)] (.int .u64 (dg n 3)) rfl rfl (fun _ _ => by kernel_rfl) (half_any n 3 _ (by decide)) rfl ?_
    intro w21 hq
    replace Q1 := Q1.mo hq
    replace Q2 := Q2.mo hq
    replace Q3 := Q3.mo hq
    replace M := M.trans hq
    clear hq
    refine wl_bin (fun x y => do eqGuard .add 22 (.tmp 15) (.tmp 18) x y; binOp .add 22 x y) (.tmp 15) (.tmp 18) (.int .u64 (r 4 * 4294967296)) (.int .u64 (dg n 3)) (.int .u64 (x 3)) (fun _ => rfl) rfl rfl (addu_run hx (by omega) (by omega) _ _ _) rfl ?_
    refine wl_mv (.tmp 19) (.int .u64 (x 3)) (fun _ => rfl) rfl rfl ?_
    refine w_nil ?_
    refine xn_then ?_
    refine w_seq ?_
    refine w_any 13 [.inl (.int .i64 (3)), .inl (.int .i64 (1)), .inl (pt k3 1), .inl (.int .u64 0), .inl (.int .u64 (x 3)), .inl (.int .u64 10), .inl (.int .u64 (y 3)), .inl (.int .i64 (3)), .inl (.int .i64 (1)), .inl (.int .i64 (32)), .inl (.int .u64 (y 3 * 4294967296)), .inl (.int .u64 (y 3 * 4294967296)), .inl (pt k3 1)] [] (by kernel_rfl) (by kernel_rfl) (by kernel_rfl) (by kernel_rfl) rfl (by kernel_rfl) (by kernel_rfl) late_nil ?_ ?_ ?_
    · exact Ds.none rfl
    · refine ea_cons ?_ (ea_cons ?_ (ea_cons ?_ (ea_cons ?_ (ea_cons ?_ (ea_cons ?_ (ea_cons ?_ (ea_cons ?_ (ea_cons ?_ (ea_cons ?_ (ea_cons ?_ (ea_cons ?_ (ea_cons ?_ (ea_nil)))))))))))))
      · exact og_eq (.int .i64 (3)) rfl (fun f wf hq hd K hK => go_run rfl (wo_mv (.tmp 8) (.int .i64 (3)) (fun _ => rfl) e8 (hK _ (Mo.refl _))))
      · exact og_eq (.int .i64 (1)) rfl (fun f wf hq hd K hK => go_run rfl (wo_bin (fun x y => do eqGuard .quo 3 (.tmp 20) (.const (.int .i64 (2))) x y; binOp .quo 3 x y) (.tmp 20) (.const (.int .i64 (2))) (.int .i64 (3)) (.int .i64 (2)) (.int .i64 (1)) (fun _ => rfl) (hd 0 rfl) rfl (by kernel_rfl) (hK _ (Mo.refl _))))
      · exact og_eq (pt k3 1) rfl (fun f wf hq hd K hK => go_run rfl (wo_bin (fun x y => Instr.indexAt 24 x y) (.tmp 6) (.tmp 21) (pt k3 0) (.int .i64 (1)) (pt k3 1) (fun _ => rfl) e6 (hd 1 rfl) (by kernel_rfl) (hK _ (Mo.refl _))))
      · exact og_eq (.int .u64 0) rfl (fun f wf hq hd K hK => have Q3 := Q3.mo hq; go_run rfl (wo_load 22 (.tmp 22) (pt k3 1) (.int .u64 0) rfl (hd 2 rfl) (run_one Q3 22 1 rfl Tryd.underlying22 rfl) (hK _ (Mo.refl _))))
      · exact og_eq (.int .u64 (x 3)) rfl (fun f wf hq hd K hK => go_run rfl (wo_mv (.tmp 9) (.int .u64 (x 3)) (fun _ => rfl) rfl (hK _ (Mo.refl _))))
      · exact og_eq (.int .u64 10) rfl (fun f wf hq hd K hK => go_run rfl (wo_mv (.tmp 1) (.int .u64 10) (fun _ => rfl) e1 (hK _ (Mo.refl _))))
      · exact og_eq (.int .u64 (y 3)) rfl (fun f wf hq hd K hK => go_run rfl (wo_bin (fun x y => do eqGuard .quo 22 (.tmp 24) (.tmp 25) x y; binOp .quo 22 x y) (.tmp 24) (.tmp 25) (.int .u64 (x 3)) (.int .u64 10) (.int .u64 (y 3)) (fun _ => rfl) (hd 4 rfl) (hd 5 rfl) (quou_run hy (by omega) (by omega) _ _ _) (hK _ (Mo.refl _))))
      · exact og_eq (.int .i64 (3)) rfl (fun f wf hq hd K hK => go_run rfl (wo_mv (.tmp 8) (.int .i64 (3)) (fun _ => rfl) e8 (hK _ (Mo.refl _))))
      · exact og_eq (.int .i64 (1)) rfl (fun f wf hq hd K hK => go_run rfl (wo_bin (fun x y => do eqGuard .rem 3 (.tmp 27) (.const (.int .i64 (2))) x y; binOp .rem 3 x y) (.tmp 27) (.const (.int .i64 (2))) (.int .i64 (3)) (.int .i64 (2)) (.int .i64 (1)) (fun _ => rfl) (hd 7 rfl) rfl (by kernel_rfl) (hK _ (Mo.refl _))))
      · exact og_eq (.int .i64 (32)) rfl (fun f wf hq hd K hK => go_run rfl (wo_bin (fun x y => do eqGuard .mul 3 (.tmp 28) (.const (.int .i64 (32))) x y; binOp .mul 3 x y) (.tmp 28) (.const (.int .i64 (32))) (.int .i64 (1)) (.int .i64 (32)) (.int .i64 (32)) (fun _ => rfl) (hd 8 rfl) rfl (by kernel_rfl) (hK _ (Mo.refl _))))
      · exact og_eq (.int .u64 (y 3 * 4294967296)) rfl (fun f wf hq hd K hK => go_run rfl (wo_bin (fun x y => do eqGuard .shl 22 (.tmp 26) (.tmp 29) x y; binOp .shl 22 x y) (.tmp 26) (.tmp 29) (.int .u64 (y 3)) (.int .i64 (32)) (.int .u64 (y 3 * 4294967296)) (fun _ => rfl) (hd 6 rfl) (hd 9 rfl) (shli_run rfl (by omega) (by omega) _ _ _) (hK _ (Mo.refl _))))
      · exact og_eq (.int .u64 (y 3 * 4294967296)) rfl (fun f wf hq hd K hK => go_run rfl (wo_bin (fun x y => do eqGuard .add 22 (.tmp 23) (.tmp 30) x y; binOp .add 22 x y) (.tmp 23) (.tmp 30) (.int .u64 0) (.int .u64 (y 3 * 4294967296)) (.int .u64 (y 3 * 4294967296)) (fun _ => rfl) (hd 3 rfl) (hd 10 rfl) (addu_run (by omega) (by omega) (by omega) _ _ _) (hK _ (Mo.refl _))))
      · exact og_eq (pt k3 1) rfl (fun f wf hq hd K hK => go_run rfl (wo_bin (fun x y => Instr.indexAt 24 x y) (.tmp 6) (.tmp 21) (pt k3 0) (.int .i64 (1)) (pt k3 1) (fun _ => rfl) e6 (hd 1 rfl) (by kernel_rfl) (hK _ (Mo.refl _))))
    intro kf22 w22 hq hR hne
    replace Q1 := Q1.mo hq
    replace Q2 := Q2.mo hq
    replace Q3 := Q3.mo hq
    replace M := M.trans hq
    clear hq hR hne
    refine wl_st1 22 (.tmp 32) (.tmp 31) k3 1 (.int .u64 (y 3 * 4294967296)) [.int .u64 0, .int .u64 0, .int .u64 (y 5 * 4294967296 + y 4), .int .u64 (y 7 * 4294967296 + y 6)] [.int .u64 0, .int .u64 (y 3 * 4294967296), .int .u64 (y 5 * 4294967296 + y 4), .int .u64 (y 7 * 4294967296 + y 6)] Q3 rfl rfl rfl rfl rfl sz22b rfl rfl rfl rfl ?_
    intro w23 hS Qn
    replace Q3 := Qn
    clear Qn
    replace Q1 := hS.other _ _ ne_k1_k3 Q1
    replace Q2 := hS.other _ _ ne_k2_k3 Q2
    replace M := hS.mo _ N_k3 M
    clear hS
    refine w_nil ?_
    refine xn_then ?_
    refine w_reg ?_
    refine wl_mv (.tmp 9) (.int .u64 (x 3)) (fun _ => rfl) rfl rfl ?_
    refine wl_mv (.tmp 1) (.int .u64 10) (fun _ => rfl) e1 rfl ?_
    refine wl_bin (fun x y => do eqGuard .rem 22 (.tmp 33) (.tmp 34) x y; binOp .rem 22 x y) (.tmp 33) (.tmp 34) (.int .u64 (x 3)) (.int .u64 10) (.int .u64 (r 3)) (fun _ => rfl) rfl rfl (remu_run hr (by omega) _ _ _) rfl ?_
    refine wl_mv (.tmp 35) (.int .u64 (r 3)) (fun _ => rfl) rfl rfl ?_
    refine w_nil ?_
    refine xn_blk ?_
    refine xn_then ?_
    refine w_reg ?_
    refine wl_mv (.tmp 8) (.int .i64 (3)) (fun _ => rfl) e8 rfl ?_
    refine wl_bin (fun x y => do eqGuard .sub 3 (.tmp 12) (.const (.int .i64 (1))) x y; binOp .sub 3 x y) (.tmp 12) (.const (.int .i64 (1))) (.int .i64 (3)) (.int .i64 (1)) (.int .i64 (2)) (fun _ => rfl) rfl rfl (by kernel_rfl) rfl ?_
    refine wl_mv (.tmp 13) (.int .i64 (2)) (fun _ => rfl) rfl rfl ?_
    refine w_nil ?_
    exact xn_loop 3 (by decide) ⟨by decide, rfl, rfl, e1, e2, e4, e6, Q1, Q2, Q3, M⟩
  · obtain ⟨hx, hy, hr⟩ := hxy 4 (by decide)
    have hd := dg_bd n 4
    have hb := rb 4 (by decide)
    have hb1 := rb 5 (by decide)
    have hy5 := yb 5 (by decide)
    have hy6 := yb 6 (by decide)
    have hy7 := yb 7 (by decide)
    have hyi := yb 4 (by decide)
    refine w_seq ?_
    refine w_seq ?_
    refine w_reg ?_
    refine wl_mv (.tmp 8) (.int .i64 (4)) (fun _ => rfl) e8 rfl ?_
    refine wl_bin (fun x y => do eqGuard .geq 3 (.tmp 10) (.const (.int .i64 (0))) x y; binOp .geq 3 x y) (.tmp 10) (.const (.int .i64 (0))) (.int .i64 (4)) (.int .i64 (0)) (.bool true) (fun _ => rfl) rfl rfl (by kernel_rfl) rfl ?_
    refine w_nil ?_
    refine xn_then ?_
    refine w_condT rfl ?_
    refine w_skip ?_
    refine xn_then ?_
    refine w_seq ?_
    refine w_block ?_
    refine w_seq ?_
    refine w_reg ?_
    refine wl_mv (.tmp 7) (.int .u64 (r 5)) (fun _ => rfl) e7 rfl ?_
    refine wl_bin (fun x y => do eqGuard .shl 22 (.tmp 14) (.const (.int .u64 (32))) x y; binOp .shl 22 x y) (.tmp 14) (.const (.int .u64 (32))) (.int .u64 (r 5)) (.int .u64 (32)) (.int .u64 (r 5 * 4294967296)) (fun _ => rfl) rfl rfl (shlu_run rfl (by omega) (by omega) _ _ _) rfl ?_
    refine wl_load 24 (.tmp 2) (pt k1 0) (nv (n)) rfl e2 (run_row Q1 24 0 4 (nvli (n)) rfl Tryd.underlying24 rfl sz24) rfl ?_
    refine wl_mv (.tmp 8) (.int .i64 (4)) (fun _ => rfl) e8 rfl ?_
    refine wl_call 59 [(.tmp 16), (.tmp 17)] _ [nv (n), .int .i64 (4)] (.int .u64 (dg n 4)) rfl rfl (fun _ _ => by kernel_rfl) (half_any n 4 _ (by decide)) rfl ?_
    intro w21 hq
    replace Q1 := Q1.mo hq
    replace Q2 := Q2.mo hq
    replace Q3 := Q3.mo hq
    replace M := M.trans hq
    clear hq
    refine wl_bin (fun x y => do eqGuard .add 22 (.tmp 15) (.tmp 18) x y; binOp .add 22 x y) (.tmp 15) (.tmp 18) (.int .u64 (r 5 * 4294967296)) (.int .u64 (dg n 4)) (.int .u64 (x 4)) (fun _ => rfl) rfl rfl (addu_run hx (by omega) (by omega) _ _ _) rfl ?_
    refine wl_mv (.tmp 19) (.int .u64 (x 4)) (fun _ => rfl) rfl rfl ?_
    refine w_nil ?_
    refine xn_then ?_
    refine w_seq ?_
    refine w_any 13 [.inl (.int .i64 (4)), .inl (.int .i64 (2)), .inl (pt k3 2), .inl (.int .u64 (y 5 * 4294967296)), .inl (.int .u64 (x 4)), .inl (.int .u64 10), .inl (.int .u64 (y 4)), .inl (.int .i64 (4)), .inl (.int .i64 (0)), .inl (.int .i64 (0)), .inl (.int .u64 (y 4)), .inl (.int .u64 (y 5 * 4294967296 + y 4)), .inl (pt k3 2)] [] (by kernel_rfl) (by kernel_rfl) (by kernel_rfl) (by kernel_rfl) rfl (by kernel_rfl) (by kernel_rfl) late_nil ?_ ?_ ?_
    · exact Ds.none rfl
    · refine ea_cons ?_ (ea_cons ?_ (ea_cons ?_ (ea_cons ?_ (ea_cons ?_ (ea_cons ?_ (ea_cons ?_ (ea_cons ?_ (ea_cons ?_ (ea_cons ?_ (ea_cons ?_ (ea_cons ?_ (ea_cons ?_ (ea_nil)))))))))))))
      · exact og_eq (.int .i64 (4)) rfl (fun f wf hq hd K hK => go_run rfl (wo_mv (.tmp 8) (.int .i64 (4)) (fun _ => rfl) e8 (hK _ (Mo.refl _))))
      · exact og_eq (.int .i64 (2)) rfl (fun f wf hq hd K hK => go_run rfl (wo_bin (fun x y => do eqGuard .quo 3 (.tmp 20) (.const (.int .i64 (2))) x y; binOp .quo 3 x y) (.tmp 20) (.const (.int .i64 (2))) (.int .i64 (4)) (.int .i64 (2)) (.int .i64 (2)) (fun _ => rfl) (hd 0 rfl) rfl (by kernel_rfl) (hK _ (Mo.refl _))))
      · exact og_eq (pt k3 2) rfl (fun f wf hq hd K hK => go_run rfl (wo_bin (fun x y => Instr.indexAt 24 x y) (.tmp 6) (.tmp 21) (pt k3 0) (.int .i64 (2)) (pt k3 2) (fun _ => rfl) e6 (hd 1 rfl) (by kernel_rfl) (hK _ (Mo.refl _))))
      · exact og_eq (.int .u64 (y 5 * 4294967296)) rfl (fun f wf hq hd K hK => have Q3 := Q3.mo hq; go_run rfl (wo_load 22 (.tmp 22) (pt k3 2) (.int .u64 (y 5 * 4294967296)) rfl (hd 2 rfl) (run_one Q3 22 2 rfl Tryd.underlying22 rfl) (hK _ (Mo.refl _))))
      · exact og_eq (.int .u64 (x 4)) rfl (fun f wf hq hd K hK => go_run rfl (wo_mv (.tmp 9) (.int .u64 (x 4)) (fun _ => rfl) rfl (hK _ (Mo.refl _))))
      · exact og_eq (.int .u64 10) rfl (fun f wf hq hd K hK => go_run rfl (wo_mv (.tmp 1) (.int .u64 10) (fun _ => rfl) e1 (hK _ (Mo.refl _))))
      · exact og_eq (.int .u64 (y 4)) rfl (fun f wf hq hd K hK => go_run rfl (wo_bin (fun x y => do eqGuard .quo 22 (.tmp 24) (.tmp 25) x y; binOp .quo 22 x y) (.tmp 24) (.tmp 25) (.int .u64 (x 4)) (.int .u64 10) (.int .u64 (y 4)) (fun _ => rfl) (hd 4 rfl) (hd 5 rfl) (quou_run hy (by omega) (by omega) _ _ _) (hK _ (Mo.refl _))))
      · exact og_eq (.int .i64 (4)) rfl (fun f wf hq hd K hK => go_run rfl (wo_mv (.tmp 8) (.int .i64 (4)) (fun _ => rfl) e8 (hK _ (Mo.refl _))))
      · exact og_eq (.int .i64 (0)) rfl (fun f wf hq hd K hK => go_run rfl (wo_bin (fun x y => do eqGuard .rem 3 (.tmp 27) (.const (.int .i64 (2))) x y; binOp .rem 3 x y) (.tmp 27) (.const (.int .i64 (2))) (.int .i64 (4)) (.int .i64 (2)) (.int .i64 (0)) (fun _ => rfl) (hd 7 rfl) rfl (by kernel_rfl) (hK _ (Mo.refl _))))
      · exact og_eq (.int .i64 (0)) rfl (fun f wf hq hd K hK => go_run rfl (wo_bin (fun x y => do eqGuard .mul 3 (.tmp 28) (.const (.int .i64 (32))) x y; binOp .mul 3 x y) (.tmp 28) (.const (.int .i64 (32))) (.int .i64 (0)) (.int .i64 (32)) (.int .i64 (0)) (fun _ => rfl) (hd 8 rfl) rfl (by kernel_rfl) (hK _ (Mo.refl _))))
      · exact og_eq (.int .u64 (y 4)) rfl (fun f wf hq hd K hK => go_run rfl (wo_bin (fun x y => do eqGuard .shl 22 (.tmp 26) (.tmp 29) x y; binOp .shl 22 x y) (.tmp 26) (.tmp 29) (.int .u64 (y 4)) (.int .i64 (0)) (.int .u64 (y 4)) (fun _ => rfl) (hd 6 rfl) (hd 9 rfl) (shl0_run (by omega) (by omega) _ _ _) (hK _ (Mo.refl _))))
      · exact og_eq (.int .u64 (y 5 * 4294967296 + y 4)) rfl (fun f wf hq hd K hK => go_run rfl (wo_bin (fun x y => do eqGuard .add 22 (.tmp 23) (.tmp 30) x y; binOp .add 22 x y) (.tmp 23) (.tmp 30) (.int .u64 (y 5 * 4294967296)) (.int .u64 (y 4)) (.int .u64 (y 5 * 4294967296 + y 4)) (fun _ => rfl) (hd 3 rfl) (hd 10 rfl) (addu_run (by omega) (by omega) (by omega) _ _ _) (hK _ (Mo.refl _))))
      · exact og_eq (pt k3 2) rfl (fun f wf hq hd K hK => go_run rfl (wo_bin (fun x y => Instr.indexAt 24 x y) (.tmp 6) (.tmp 21) (pt k3 0) (.int .i64 (2)) (pt k3 2) (fun _ => rfl) e6 (hd 1 rfl) (by kernel_rfl) (hK _ (Mo.refl _))))
    intro kf22 w22 hq hR hne
    replace Q1 := Q1.mo hq
    replace Q2 := Q2.mo hq
    replace Q3 := Q3.mo hq
    replace M := M.trans hq
    clear hq hR hne
    refine wl_st1 22 (.tmp 32) (.tmp 31) k3 2 (.int .u64 (y 5 * 4294967296 + y 4)) [.int .u64 0, .int .u64 0, .int .u64 (y 5 * 4294967296), .int .u64 (y 7 * 4294967296 + y 6)] [.int .u64 0, .int .u64 0, .int .u64 (y 5 * 4294967296 + y 4), .int .u64 (y 7 * 4294967296 + y 6)] Q3 rfl rfl rfl rfl rfl sz22b rfl rfl rfl rfl ?_
    intro w23 hS Qn
    replace Q3 := Qn
    clear Qn
    replace Q1 := hS.other _ _ ne_k1_k3 Q1
    replace Q2 := hS.other _ _ ne_k2_k3 Q2
    replace M := hS.mo _ N_k3 M
    clear hS
    refine w_nil ?_
    refine xn_then ?_
    refine w_reg ?_
    refine wl_mv (.tmp 9) (.int .u64 (x 4)) (fun _ => rfl) rfl rfl ?_
    refine wl_mv (.tmp 1) (.int .u64 10) (fun _ => rfl) e1 rfl ?_
    refine wl_bin (fun x y => do eqGuard .rem 22 (.tmp 33) (.tmp 34) x y; binOp .rem 22 x y) (.tmp 33) (.tmp 34) (.int .u64 (x 4)) (.int .u64 10) (.int .u64 (r 4)) (fun _ => rfl) rfl rfl (remu_run hr (by omega) _ _ _) rfl ?_
    refine wl_mv (.tmp 35) (.int .u64 (r 4)) (fun _ => rfl) rfl rfl ?_
    refine w_nil ?_
    refine xn_blk ?_
    refine xn_then ?_
    refine w_reg ?_
    refine wl_mv (.tmp 8) (.int .i64 (4)) (fun _ => rfl) e8 rfl ?_
    refine wl_bin (fun x y => do eqGuard .sub 3 (.tmp 12) (.const (.int .i64 (1))) x y; binOp .sub 3 x y) (.tmp 12) (.const (.int .i64 (1))) (.int .i64 (4)) (.int .i64 (1)) (.int .i64 (3)) (fun _ => rfl) rfl rfl (by kernel_rfl) rfl ?_
    refine wl_mv (.tmp 13) (.int .i64 (3)) (fun _ => rfl) rfl rfl ?_
    refine w_nil ?_
    exact xn_loop 4 (by decide) ⟨by decide, rfl, rfl, e1, e2, e4, e6, Q1, Q2, Q3, M⟩
  · obtain ⟨hx, hy, hr⟩ := hxy 5 (by decide)
    have hd := dg_bd n 5
    have hb := rb 5 (by decide)
    have hb1 := rb 6 (by decide)
    have hy6 := yb 6 (by decide)
    have hy7 := yb 7 (by decide)
    have hyi := yb 5 (by decide)
    refine w_seq ?_
    refine w_seq ?_
    refine w_reg ?_
    refine wl_mv (.tmp 8) (.int .i64 (5)) (fun _ => rfl) e8 rfl ?_
    refine wl_bin (fun x y => do eqGuard .geq 3 (.tmp 10) (.const (.int .i64 (0))) x y; binOp .geq 3 x y) (.tmp 10) (.const (.int .i64 (0))) (.int .i64 (5)) (.int .i64 (0)) (.bool true) (fun _ => rfl) rfl rfl (by kernel_rfl) rfl ?_
    refine w_nil ?_
    refine xn_then ?_
    refine w_condT rfl ?_
    refine w_skip ?_
    refine xn_then ?_
    refine w_seq ?_
    refine w_block ?_
    refine w_seq ?_
    refine w_reg ?_
    refine wl_mv (.tmp 7) (.int .u64 (r 6)) (fun _ => rfl) e7 rfl ?_
    refine wl_bin (fun x y => do eqGuard .shl 22 (.tmp 14) (.const (.int .u64 (32))) x y; binOp .shl 22 x y) (.tmp 14) (.const (.int .u64 (32))) (.int .u64 (r 6)) (.int .u64 (32)) (.int .u64 (r 6 * 4294967296)) (fun _ => rfl) rfl rfl (shlu_run rfl (by omega) (by omega) _ _ _) rfl ?_
    refine wl_load 24 (.tmp 2) (pt k1 0) (nv (n)) rfl e2 (run_row Q1 24 0 4 (nvli (n)) rfl Tryd.underlying24 rfl sz24) rfl ?_
    refine wl_mv (.tmp 8) (.int .i64 (5)) (fun _ => rfl) e8 rfl ?_
    refine wl_call 59 [(.tmp 16), (.tmp 17)] _ [nv (n), .int .i64 (5)] (.int .u64 (dg n 5)) rfl rfl (fun _ _ => by kernel_rfl) (half_any n 5 _ (by decide)) rfl ?_
    intro w21 hq
    replace Q1 := Q1.mo hq
    replace Q2 := Q2.mo hq
    replace Q3 := Q3.mo hq
    replace M := M.trans hq
    clear hq
    refine wl_bin (fun x y => do eqGuard .add 22 (.tmp 15) (.tmp 18) x y; binOp .add 22 x y) (.tmp 15) (.tmp 18) (.int .u64 (r 6 * 4294967296)) (.int .u64 (dg n 5)) (.int .u64 (x 5)) (fun _ => rfl) rfl rfl (addu_run hx (by omega) (by omega) _ _ _) rfl ?_
    refine wl_mv (.tmp 19) (.int .u64 (x 5)) (fun _ => rfl) rfl rfl ?_
    refine w_nil ?_
    refine xn_then ?_
    refine w_seq ?_
    refine w_any 13 [.inl (.int .i64 (5)), .inl (.int .i64 (2)), .inl (pt k3 2), .inl (.int .u64 0), .inl (.int .u64 (x 5)), .inl (.int .u64 10), .inl (.int .u64 (y 5)), .inl (.int .i64 (5)), .inl (.int .i64 (1)), .inl (.int .i64 (32)), .inl (.int .u64 (y 5 * 4294967296)), .inl (.int .u64 (y 5 * 4294967296)), .inl (pt k3 2)] [] (by kernel_rfl) (by kernel_rfl) (by kernel_rfl) (by kernel_rfl) rfl (by kernel_rfl) (by kernel_rfl) late_nil ?_ ?_ ?_
    · exact Ds.none rfl
    · refine ea_cons ?_ (ea_cons ?_ (ea_cons ?_ (ea_cons ?_ (ea_cons ?_ (ea_cons ?_ (ea_cons ?_ (ea_cons ?_ (ea_cons ?_ (ea_cons ?_ (ea_cons ?_ (ea_cons ?_ (ea_cons ?_ (ea_nil)))))))))))))
      · exact og_eq (.int .i64 (5)) rfl (fun f wf hq hd K hK => go_run rfl (wo_mv (.tmp 8) (.int .i64 (5)) (fun _ => rfl) e8 (hK _ (Mo.refl _))))
      · exact og_eq (.int .i64 (2)) rfl (fun f wf hq hd K hK => go_run rfl (wo_bin (fun x y => do eqGuard .quo 3 (.tmp 20) (.const (.int .i64 (2))) x y; binOp .quo 3 x y) (.tmp 20) (.const (.int .i64 (2))) (.int .i64 (5)) (.int .i64 (2)) (.int .i64 (2)) (fun _ => rfl) (hd 0 rfl) rfl (by kernel_rfl) (hK _ (Mo.refl _))))
      · exact og_eq (pt k3 2) rfl (fun f wf hq hd K hK => go_run rfl (wo_bin (fun x y => Instr.indexAt 24 x y) (.tmp 6) (.tmp 21) (pt k3 0) (.int .i64 (2)) (pt k3 2) (fun _ => rfl) e6 (hd 1 rfl) (by kernel_rfl) (hK _ (Mo.refl _))))
      · exact og_eq (.int .u64 0) rfl (fun f wf hq hd K hK => have Q3 := Q3.mo hq; go_run rfl (wo_load 22 (.tmp 22) (pt k3 2) (.int .u64 0) rfl (hd 2 rfl) (run_one Q3 22 2 rfl Tryd.underlying22 rfl) (hK _ (Mo.refl _))))
      · exact og_eq (.int .u64 (x 5)) rfl (fun f wf hq hd K hK => go_run rfl (wo_mv (.tmp 9) (.int .u64 (x 5)) (fun _ => rfl) rfl (hK _ (Mo.refl _))))
      · exact og_eq (.int .u64 10) rfl (fun f wf hq hd K hK => go_run rfl (wo_mv (.tmp 1) (.int .u64 10) (fun _ => rfl) e1 (hK _ (Mo.refl _))))
      · exact og_eq (.int .u64 (y 5)) rfl (fun f wf hq hd K hK => go_run rfl (wo_bin (fun x y => do eqGuard .quo 22 (.tmp 24) (.tmp 25) x y; binOp .quo 22 x y) (.tmp 24) (.tmp 25) (.int .u64 (x 5)) (.int .u64 10) (.int .u64 (y 5)) (fun _ => rfl) (hd 4 rfl) (hd 5 rfl) (quou_run hy (by omega) (by omega) _ _ _) (hK _ (Mo.refl _))))
      · exact og_eq (.int .i64 (5)) rfl (fun f wf hq hd K hK => go_run rfl (wo_mv (.tmp 8) (.int .i64 (5)) (fun _ => rfl) e8 (hK _ (Mo.refl _))))
      · exact og_eq (.int .i64 (1)) rfl (fun f wf hq hd K hK => go_run rfl (wo_bin (fun x y => do eqGuard .rem 3 (.tmp 27) (.const (.int .i64 (2))) x y; binOp .rem 3 x y) (.tmp 27) (.const (.int .i64 (2))) (.int .i64 (5)) (.int .i64 (2)) (.int .i64 (1)) (fun _ => rfl) (hd 7 rfl) rfl (by kernel_rfl) (hK _ (Mo.refl _))))
      · exact og_eq (.int .i64 (32)) rfl (fun f wf hq hd K hK => go_run rfl (wo_bin (fun x y => do eqGuard .mul 3 (.tmp 28) (.const (.int .i64 (32))) x y; binOp .mul 3 x y) (.tmp 28) (.const (.int .i64 (32))) (.int .i64 (1)) (.int .i64 (32)) (.int .i64 (32)) (fun _ => rfl) (hd 8 rfl) rfl (by kernel_rfl) (hK _ (Mo.refl _))))
      · exact og_eq (.int .u64 (y 5 * 4294967296)) rfl (fun f wf hq hd K hK => go_run rfl (wo_bin (fun x y => do eqGuard .shl 22 (.tmp 26) (.tmp 29) x y; binOp .shl 22 x y) (.tmp 26) (.tmp 29) (.int .u64 (y 5)) (.int .i64 (32)) (.int .u64 (y 5 * 4294967296)) (fun _ => rfl) (hd 6 rfl) (hd 9 rfl) (shli_run rfl (by omega) (by omega) _ _ _) (hK _ (Mo.refl _))))
      · exact og_eq (.int .u64 (y 5 * 4294967296)) rfl (fun f wf hq hd K hK => go_run rfl (wo_bin (fun x y => do eqGuard .add 22 (.tmp 23) (.tmp 30) x y; binOp .add 22 x y) (.tmp 23) (.tmp 30) (.int .u64 0) (.int .u64 (y 5 * 4294967296)) (.int .u64 (y 5 * 4294967296)) (fun _ => rfl) (hd 3 rfl) (hd 10 rfl) (addu_run (by omega) (by omega) (by omega) _ _ _) (hK _ (Mo.refl _))))
      · exact og_eq (pt k3 2) rfl (fun f wf hq hd K hK => go_run rfl (wo_bin (fun x y => Instr.indexAt 24 x y) (.tmp 6) (.tmp 21) (pt k3 0) (.int .i64 (2)) (pt k3 2) (fun _ => rfl) e6 (hd 1 rfl) (by kernel_rfl) (hK _ (Mo.refl _))))
    intro kf22 w22 hq hR hne
    replace Q1 := Q1.mo hq
    replace Q2 := Q2.mo hq
    replace Q3 := Q3.mo hq
    replace M := M.trans hq
    clear hq hR hne
    refine wl_st1 22 (.tmp 32) (.tmp 31) k3 2 (.int .u64 (y 5 * 4294967296)) [.int .u64 0, .int .u64 0, .int .u64 0, .int .u64 (y 7 * 4294967296 + y 6)] [.int .u64 0, .int .u64 0, .int .u64 (y 5 * 4294967296), .int .u64 (y 7 * 4294967296 + y 6)] Q3 rfl rfl rfl rfl rfl sz22b rfl rfl rfl rfl ?_
    intro w23 hS Qn
    replace Q3 := Qn
    clear Qn
    replace Q1 := hS.other _ _ ne_k1_k3 Q1
    replace Q2 := hS.other _ _ ne_k2_k3 Q2
    replace M := hS.mo _ N_k3 M
    clear hS
    refine w_nil ?_
    refine xn_then ?_
    refine w_reg ?_
    refine wl_mv (.tmp 9) (.int .u64 (x 5)) (fun _ => rfl) rfl rfl ?_
    refine wl_mv (.tmp 1) (.int .u64 10) (fun _ => rfl) e1 rfl ?_
    refine wl_bin (fun x y => do eqGuard .rem 22 (.tmp 33) (.tmp 34) x y; binOp .rem 22 x y) (.tmp 33) (.tmp 34) (.int .u64 (x 5)) (.int .u64 10) (.int .u64 (r 5)) (fun _ => rfl) rfl rfl (remu_run hr (by omega) _ _ _) rfl ?_
    refine wl_mv (.tmp 35) (.int .u64 (r 5)) (fun _ => rfl) rfl rfl ?_
    refine w_nil ?_
    refine xn_blk ?_
    refine xn_then ?_
    refine w_reg ?_
    refine wl_mv (.tmp 8) (.int .i64 (5)) (fun _ => rfl) e8 rfl ?_
    refine wl_bin (fun x y => do eqGuard .sub 3 (.tmp 12) (.const (.int .i64 (1))) x y; binOp .sub 3 x y) (.tmp 12) (.const (.int .i64 (1))) (.int .i64 (5)) (.int .i64 (1)) (.int .i64 (4)) (fun _ => rfl) rfl rfl (by kernel_rfl) rfl ?_
    refine wl_mv (.tmp 13) (.int .i64 (4)) (fun _ => rfl) rfl rfl ?_
    refine w_nil ?_
    exact xn_loop 5 (by decide) ⟨by decide, rfl, rfl, e1, e2, e4, e6, Q1, Q2, Q3, M⟩
  · obtain ⟨hx, hy, hr⟩ := hxy 6 (by decide)
    have hd := dg_bd n 6
    have hb := rb 6 (by decide)
    have hb1 := rb 7 (by decide)
    have hy7 := yb 7 (by decide)
    have hyi := yb 6 (by decide)
    refine w_seq ?_
    refine w_seq ?_
    refine w_reg ?_
    refine wl_mv (.tmp 8) (.int .i64 (6)) (fun _ => rfl) e8 rfl ?_
    refine wl_bin (fun x y => do eqGuard .geq 3 (.tmp 10) (.const (.int .i64 (0))) x y; binOp .geq 3 x y) (.tmp 10) (.const (.int .i64 (0))) (.int .i64 (6)) (.int .i64 (0)) (.bool true) (fun _ => rfl) rfl rfl (by kernel_rfl) rfl ?_
    refine w_nil ?_
    refine xn_then ?_
    refine w_condT rfl ?_
    refine w_skip ?_
    refine xn_then ?_
    refine w_seq ?_
    refine w_block ?_
    refine w_seq ?_
    refine w_reg ?_
    refine wl_mv (.tmp 7) (.int .u64 (r 7)) (fun _ => rfl) e7 rfl ?_
    refine wl_bin (fun x y => do eqGuard .shl 22 (.tmp 14) (.const (.int .u64 (32))) x y; binOp .shl 22 x y) (.tmp 14) (.const (.int .u64 (32))) (.int .u64 (r 7)) (.int .u64 (32)) (.int .u64 (r 7 * 4294967296)) (fun _ => rfl) rfl rfl (shlu_run rfl (by omega) (by omega) _ _ _) rfl ?_
    refine wl_load 24 (.tmp 2) (pt k1 0) (nv (n)) rfl e2 (run_row Q1 24 0 4 (nvli (n)) rfl Tryd.underlying24 rfl sz24) rfl ?_
    refine wl_mv (.tmp 8) (.int .i64 (6)) (fun _ => rfl) e8 rfl ?_
    refine wl_call 59 [(.tmp 16), (.tmp 17)] _ [nv (n), .int .i64 (6)] (.int .u64 (dg n 6)) rfl rfl (fun _ _ => by kernel_rfl) (half_any n 6 _ (by decide)) rfl ?_
    intro w21 hq
    replace Q1 := Q1.mo hq
    replace Q2 := Q2.mo hq
    replace Q3 := Q3.mo hq
    replace M := M.trans hq
    clear hq
    refine wl_bin (fun x y => do eqGuard .add 22 (.tmp 15) (.tmp 18) x y; binOp .add 22 x y) (.tmp 15) (.tmp 18) (.int .u64 (r 7 * 4294967296)) (.int .u64 (dg n 6)) (.int .u64 (x 6)) (fun _ => rfl) rfl rfl (addu_run hx (by omega) (by omega) _ _ _) rfl ?_
    refine wl_mv (.tmp 19) (.int .u64 (x 6)) (fun _ => rfl) rfl rfl ?_
    refine w_nil ?_
    refine xn_then ?_
    refine w_seq ?_
    refine w_any 13 [.inl (.int .i64 (6)), .inl (.int .i64 (3)), .inl (pt k3 3), .inl (.int .u64 (y 7 * 4294967296)), .inl (.int .u64 (x 6)), .inl (.int .u64 10), .inl (.int .u64 (y 6)), .inl (.int .i64 (6)), .inl (.int .i64 (0)), .inl (.int .i64 (0)), .inl (.int .u64 (y 6)), .inl (.int .u64 (y 7 * 4294967296 + y 6)), .inl (pt k3 3)] [] (by kernel_rfl) (by kernel_rfl) (by kernel_rfl) (by kernel_rfl) rfl (by kernel_rfl) (by kernel_rfl) late_nil ?_ ?_ ?_
    · exact Ds.none rfl
    · refine ea_cons ?_ (ea_cons ?_ (ea_cons ?_ (ea_cons ?_ (ea_cons ?_ (ea_cons ?_ (ea_cons ?_ (ea_cons ?_ (ea_cons ?_ (ea_cons ?_ (ea_cons ?_ (ea_cons ?_ (ea_cons ?_ (ea_nil)))))))))))))
      · exact og_eq (.int .i64 (6)) rfl (fun f wf hq hd K hK => go_run rfl (wo_mv (.tmp 8) (.int .i64 (6)) (fun _ => rfl) e8 (hK _ (Mo.refl _))))
      · exact og_eq (.int .i64 (3)) rfl (fun f wf hq hd K hK => go_run rfl (wo_bin (fun x y => do eqGuard .quo 3 (.tmp 20) (.const (.int .i64 (2))) x y; binOp .quo 3 x y) (.tmp 20) (.const (.int .i64 (2))) (.int .i64 (6)) (.int .i64 (2)) (.int .i64 (3)) (fun _ => rfl) (hd 0 rfl) rfl (by kernel_rfl) (hK _ (Mo.refl _))))
      · exact og_eq (pt k3 3) rfl (fun f wf hq hd K hK => go_run rfl (wo_bin (fun x y => Instr.indexAt 24 x y) (.tmp 6) (.tmp 21) (pt k3 0) (.int .i64 (3)) (pt k3 3) (fun _ => rfl) e6 (hd 1 rfl) (by kernel_rfl) (hK _ (Mo.refl _))))
      · exact og_eq (.int .u64 (y 7 * 4294967296)) rfl (fun f wf hq hd K hK => have Q3 := Q3.mo hq; go_run rfl (wo_load 22 (.tmp 22) (pt k3 3) (.int .u64 (y 7 * 4294967296)) rfl (hd 2 rfl) (run_one Q3 22 3 rfl Tryd.underlying22 rfl) (hK _ (Mo.refl _))))
      · exact og_eq (.int .u64 (x 6)) rfl (fun f wf hq hd K hK => go_run rfl (wo_mv (.tmp 9) (.int .u64 (x 6)) (fun _ => rfl) rfl (hK _ (Mo.refl _))))
      · exact og_eq (.int .u64 10) rfl (fun f wf hq hd K hK => go_run rfl (wo_mv (.tmp 1) (.int .u64 10) (fun _ => rfl) e1 (hK _ (Mo.refl _))))
      · exact og_eq (.int .u64 (y 6)) rfl (fun f wf hq hd K hK => go_run rfl (wo_bin (fun x y => do eqGuard .quo 22 (.tmp 24) (.tmp 25) x y; binOp .quo 22 x y) (.tmp 24) (.tmp 25) (.int .u64 (x 6)) (.int .u64 10) (.int .u64 (y 6)) (fun _ => rfl) (hd 4 rfl) (hd 5 rfl) (quou_run hy (by omega) (by omega) _ _ _) (hK _ (Mo.refl _))))
      · exact og_eq (.int .i64 (6)) rfl (fun f wf hq hd K hK => go_run rfl (wo_mv (.tmp 8) (.int .i64 (6)) (fun _ => rfl) e8 (hK _ (Mo.refl _))))
      · exact og_eq (.int .i64 (0)) rfl (fun f wf hq hd K hK => go_run rfl (wo_bin (fun x y => do eqGuard .rem 3 (.tmp 27) (.const (.int .i64 (2))) x y; binOp .rem 3 x y) (.tmp 27) (.const (.int .i64 (2))) (.int .i64 (6)) (.int .i64 (2)) (.int .i64 (0)) (fun _ => rfl) (hd 7 rfl) rfl (by kernel_rfl) (hK _ (Mo.refl _))))
      · exact og_eq (.int .i64 (0)) rfl (fun f wf hq hd K hK => go_run rfl (wo_bin (fun x y => do eqGuard .mul 3 (.tmp 28) (.const (.int .i64 (32))) x y; binOp .mul 3 x y) (.tmp 28) (.const (.int .i64 (32))) (.int .i64 (0)) (.int .i64 (32)) (.int .i64 (0)) (fun _ => rfl) (hd 8 rfl) rfl (by kernel_rfl) (hK _ (Mo.refl _))))
      · exact og_eq (.int .u64 (y 6)) rfl (fun f wf hq hd K hK => go_run rfl (wo_bin (fun x y => do eqGuard .shl 22 (.tmp 26) (.tmp 29) x y; binOp .shl 22 x y) (.tmp 26) (.tmp 29) (.int .u64 (y 6)) (.int .i64 (0)) (.int .u64 (y 6)) (fun _ => rfl) (hd 6 rfl) (hd 9 rfl) (shl0_run (by omega) (by omega) _ _ _) (hK _ (Mo.refl _))))
      · exact og_eq (.int .u64 (y 7 * 4294967296 + y 6)) rfl (fun f wf hq hd K hK => go_run rfl (wo_bin (fun x y => do eqGuard .add 22 (.tmp 23) (.tmp 30) x y; binOp .add 22 x y) (.tmp 23) (.tmp 30) (.int .u64 (y 7 * 4294967296)) (.int .u64 (y 6)) (.int .u64 (y 7 * 4294967296 + y 6)) (fun _ => rfl) (hd 3 rfl) (hd 10 rfl) (addu_run (by omega) (by omega) (by omega) _ _ _) (hK _ (Mo.refl _))))
      · exact og_eq (pt k3 3) rfl (fun f wf hq hd K hK => go_run rfl (wo_bin (fun x y => Instr.indexAt 24 x y) (.tmp 6) (.tmp 21) (pt k3 0) (.int .i64 (3)) (pt k3 3) (fun _ => rfl) e6 (hd 1 rfl) (by kernel_rfl) (hK _ (Mo.refl _))))
    intro kf22 w22 hq hR hne
    replace Q1 := Q1.mo hq
    replace Q2 := Q2.mo hq
    replace Q3 := Q3.mo hq
    replace M := M.trans hq
    clear hq hR hne
    refine wl_st1 22 (.tmp 32) (.tmp 31) k3 3 (.int .u64 (y 7 * 4294967296 + y 6)) [.int .u64 0, .int .u64 0, .int .u64 0, .int .u64 (y 7 * 4294967296)] [.int .u64 0, .int .u64 0, .int .u64 0, .int .u64 (y 7 * 4294967296 + y 6)] Q3 rfl rfl rfl rfl rfl sz22b rfl rfl rfl rfl ?_
    intro w23 hS Qn
    replace Q3 := Qn
    clear Qn
    replace Q1 := hS.other _ _ ne_k1_k3 Q1
    replace Q2 := hS.other _ _ ne_k2_k3 Q2
    replace M := hS.mo _ N_k3 M
    clear hS
    refine w_nil ?_
    refine xn_then ?_
    refine w_reg ?_
    refine wl_mv (.tmp 9) (.int .u64 (x 6)) (fun _ => rfl) rfl rfl ?_
    refine wl_mv (.tmp 1) (.int .u64 10) (fun _ => rfl) e1 rfl ?_
    refine wl_bin (fun x y => do eqGuard .rem 22 (.tmp 33) (.tmp 34) x y; binOp .rem 22 x y) (.tmp 33) (.tmp 34) (.int .u64 (x 6)) (.int .u64 10) (.int .u64 (r 6)) (fun _ => rfl) rfl rfl (remu_run hr (by omega) _ _ _) rfl ?_
    refine wl_mv (.tmp 35) (.int .u64 (r 6)) (fun _ => rfl) rfl rfl ?_
    refine w_nil ?_
    refine xn_blk ?_
    refine xn_then ?_
    refine w_reg ?_
    refine wl_mv (.tmp 8) (.int .i64 (6)) (fun _ => rfl) e8 rfl ?_
    refine wl_bin (fun x y => do eqGuard .sub 3 (.tmp 12) (.const (.int .i64 (1))) x y; binOp .sub 3 x y) (.tmp 12) (.const (.int .i64 (1))) (.int .i64 (6)) (.int .i64 (1)) (.int .i64 (5)) (fun _ => rfl) rfl rfl (by kernel_rfl) rfl ?_
    refine wl_mv (.tmp 13) (.int .i64 (5)) (fun _ => rfl) rfl rfl ?_
    refine w_nil ?_
    exact xn_loop 6 (by decide) ⟨by decide, rfl, rfl, e1, e2, e4, e6, Q1, Q2, Q3, M⟩
  · obtain ⟨hx, hy, hr⟩ := hxy 7 (by decide)
    have hd := dg_bd n 7
    have hb := rb 7 (by decide)
    have hb1 := rb 8 (by decide)
    have hyi := yb 7 (by decide)
    refine w_seq ?_
    refine w_seq ?_
    refine w_reg ?_
    refine wl_mv (.tmp 8) (.int .i64 (7)) (fun _ => rfl) e8 rfl ?_
    refine wl_bin (fun x y => do eqGuard .geq 3 (.tmp 10) (.const (.int .i64 (0))) x y; binOp .geq 3 x y) (.tmp 10) (.const (.int .i64 (0))) (.int .i64 (7)) (.int .i64 (0)) (.bool true) (fun _ => rfl) rfl rfl (by kernel_rfl) rfl ?_
    refine w_nil ?_
    refine xn_then ?_
    refine w_condT rfl ?_
    refine w_skip ?_
    refine xn_then ?_
    refine w_seq ?_
    refine w_block ?_
    refine w_seq ?_
    refine w_reg ?_
    refine wl_mv (.tmp 7) (.int .u64 (r 8)) (fun _ => rfl) e7 rfl ?_
    refine wl_bin (fun x y => do eqGuard .shl 22 (.tmp 14) (.const (.int .u64 (32))) x y; binOp .shl 22 x y) (.tmp 14) (.const (.int .u64 (32))) (.int .u64 (r 8)) (.int .u64 (32)) (.int .u64 (r 8 * 4294967296)) (fun _ => rfl) rfl rfl (shlu_run rfl (by omega) (by omega) _ _ _) rfl ?_
    refine wl_load 24 (.tmp 2) (pt k1 0) (nv (n)) rfl e2 (run_row Q1 24 0 4 (nvli (n)) rfl Tryd.underlying24 rfl sz24) rfl ?_
    refine wl_mv (.tmp 8) (.int .i64 (7)) (fun _ => rfl) e8 rfl ?_
    refine wl_call 59 [(.tmp 16), (.tmp 17)] _ [nv (n), .int .i64 (7)] (.int .u64 (dg n 7)) rfl rfl (fun _ _ => by kernel_rfl) (half_any n 7 _ (by decide)) rfl ?_
    intro w21 hq
    replace Q1 := Q1.mo hq
    replace Q2 := Q2.mo hq
    replace Q3 := Q3.mo hq
    replace M := M.trans hq
    clear hq
    refine wl_bin (fun x y => do eqGuard .add 22 (.tmp 15) (.tmp 18) x y; binOp .add 22 x y) (.tmp 15) (.tmp 18) (.int .u64 (r 8 * 4294967296)) (.int .u64 (dg n 7)) (.int .u64 (x 7)) (fun _ => rfl) rfl rfl (addu_run hx (by omega) (by omega) _ _ _) rfl ?_
    refine wl_mv (.tmp 19) (.int .u64 (x 7)) (fun _ => rfl) rfl rfl ?_
    refine w_nil ?_
    refine xn_then ?_
    refine w_seq ?_
    refine w_any 13 [.inl (.int .i64 (7)), .inl (.int .i64 (3)), .inl (pt k3 3), .inl (.int .u64 0), .inl (.int .u64 (x 7)), .inl (.int .u64 10), .inl (.int .u64 (y 7)), .inl (.int .i64 (7)), .inl (.int .i64 (1)), .inl (.int .i64 (32)), .inl (.int .u64 (y 7 * 4294967296)), .inl (.int .u64 (y 7 * 4294967296)), .inl (pt k3 3)] [] (by kernel_rfl) (by kernel_rfl) (by kernel_rfl) (by kernel_rfl) rfl (by kernel_rfl) (by kernel_rfl) late_nil ?_ ?_ ?_
    · exact Ds.none rfl
    · refine ea_cons ?_ (ea_cons ?_ (ea_cons ?_ (ea_cons ?_ (ea_cons ?_ (ea_cons ?_ (ea_cons ?_ (ea_cons ?_ (ea_cons ?_ (ea_cons ?_ (ea_cons ?_ (ea_cons ?_ (ea_cons ?_ (ea_nil)))))))))))))
      · exact og_eq (.int .i64 (7)) rfl (fun f wf hq hd K hK => go_run rfl (wo_mv (.tmp 8) (.int .i64 (7)) (fun _ => rfl) e8 (hK _ (Mo.refl _))))
      · exact og_eq (.int .i64 (3)) rfl (fun f wf hq hd K hK => go_run rfl (wo_bin (fun x y => do eqGuard .quo 3 (.tmp 20) (.const (.int .i64 (2))) x y; binOp .quo 3 x y) (.tmp 20) (.const (.int .i64 (2))) (.int .i64 (7)) (.int .i64 (2)) (.int .i64 (3)) (fun _ => rfl) (hd 0 rfl) rfl (by kernel_rfl) (hK _ (Mo.refl _))))
      · exact og_eq (pt k3 3) rfl (fun f wf hq hd K hK => go_run rfl (wo_bin (fun x y => Instr.indexAt 24 x y) (.tmp 6) (.tmp 21) (pt k3 0) (.int .i64 (3)) (pt k3 3) (fun _ => rfl) e6 (hd 1 rfl) (by kernel_rfl) (hK _ (Mo.refl _))))
      · exact og_eq (.int .u64 0) rfl (fun f wf hq hd K hK => have Q3 := Q3.mo hq; go_run rfl (wo_load 22 (.tmp 22) (pt k3 3) (.int .u64 0) rfl (hd 2 rfl) (run_one Q3 22 3 rfl Tryd.underlying22 rfl) (hK _ (Mo.refl _))))
      · exact og_eq (.int .u64 (x 7)) rfl (fun f wf hq hd K hK => go_run rfl (wo_mv (.tmp 9) (.int .u64 (x 7)) (fun _ => rfl) rfl (hK _ (Mo.refl _))))
      · exact og_eq (.int .u64 10) rfl (fun f wf hq hd K hK => go_run rfl (wo_mv (.tmp 1) (.int .u64 10) (fun _ => rfl) e1 (hK _ (Mo.refl _))))
      · exact og_eq (.int .u64 (y 7)) rfl (fun f wf hq hd K hK => go_run rfl (wo_bin (fun x y => do eqGuard .quo 22 (.tmp 24) (.tmp 25) x y; binOp .quo 22 x y) (.tmp 24) (.tmp 25) (.int .u64 (x 7)) (.int .u64 10) (.int .u64 (y 7)) (fun _ => rfl) (hd 4 rfl) (hd 5 rfl) (quou_run hy (by omega) (by omega) _ _ _) (hK _ (Mo.refl _))))
      · exact og_eq (.int .i64 (7)) rfl (fun f wf hq hd K hK => go_run rfl (wo_mv (.tmp 8) (.int .i64 (7)) (fun _ => rfl) e8 (hK _ (Mo.refl _))))
      · exact og_eq (.int .i64 (1)) rfl (fun f wf hq hd K hK => go_run rfl (wo_bin (fun x y => do eqGuard .rem 3 (.tmp 27) (.const (.int .i64 (2))) x y; binOp .rem 3 x y) (.tmp 27) (.const (.int .i64 (2))) (.int .i64 (7)) (.int .i64 (2)) (.int .i64 (1)) (fun _ => rfl) (hd 7 rfl) rfl (by kernel_rfl) (hK _ (Mo.refl _))))
      · exact og_eq (.int .i64 (32)) rfl (fun f wf hq hd K hK => go_run rfl (wo_bin (fun x y => do eqGuard .mul 3 (.tmp 28) (.const (.int .i64 (32))) x y; binOp .mul 3 x y) (.tmp 28) (.const (.int .i64 (32))) (.int .i64 (1)) (.int .i64 (32)) (.int .i64 (32)) (fun _ => rfl) (hd 8 rfl) rfl (by kernel_rfl) (hK _ (Mo.refl _))))
      · exact og_eq (.int .u64 (y 7 * 4294967296)) rfl (fun f wf hq hd K hK => go_run rfl (wo_bin (fun x y => do eqGuard .shl 22 (.tmp 26) (.tmp 29) x y; binOp .shl 22 x y) (.tmp 26) (.tmp 29) (.int .u64 (y 7)) (.int .i64 (32)) (.int .u64 (y 7 * 4294967296)) (fun _ => rfl) (hd 6 rfl) (hd 9 rfl) (shli_run rfl (by omega) (by omega) _ _ _) (hK _ (Mo.refl _))))
      · exact og_eq (.int .u64 (y 7 * 4294967296)) rfl (fun f wf hq hd K hK => go_run rfl (wo_bin (fun x y => do eqGuard .add 22 (.tmp 23) (.tmp 30) x y; binOp .add 22 x y) (.tmp 23) (.tmp 30) (.int .u64 0) (.int .u64 (y 7 * 4294967296)) (.int .u64 (y 7 * 4294967296)) (fun _ => rfl) (hd 3 rfl) (hd 10 rfl) (addu_run (by omega) (by omega) (by omega) _ _ _) (hK _ (Mo.refl _))))
      · exact og_eq (pt k3 3) rfl (fun f wf hq hd K hK => go_run rfl (wo_bin (fun x y => Instr.indexAt 24 x y) (.tmp 6) (.tmp 21) (pt k3 0) (.int .i64 (3)) (pt k3 3) (fun _ => rfl) e6 (hd 1 rfl) (by kernel_rfl) (hK _ (Mo.refl _))))
    intro kf22 w22 hq hR hne
    replace Q1 := Q1.mo hq
    replace Q2 := Q2.mo hq
    replace Q3 := Q3.mo hq
    replace M := M.trans hq
    clear hq hR hne
    refine wl_st1 22 (.tmp 32) (.tmp 31) k3 3 (.int .u64 (y 7 * 4294967296)) [.int .u64 0, .int .u64 0, .int .u64 0, .int .u64 0] [.int .u64 0, .int .u64 0, .int .u64 0, .int .u64 (y 7 * 4294967296)] Q3 rfl rfl rfl rfl rfl sz22b rfl rfl rfl rfl ?_
    intro w23 hS Qn
    replace Q3 := Qn
    clear Qn
    replace Q1 := hS.other _ _ ne_k1_k3 Q1
    replace Q2 := hS.other _ _ ne_k2_k3 Q2
    replace M := hS.mo _ N_k3 M
    clear hS
    refine w_nil ?_
    refine xn_then ?_
    refine w_reg ?_
    refine wl_mv (.tmp 9) (.int .u64 (x 7)) (fun _ => rfl) rfl rfl ?_
    refine wl_mv (.tmp 1) (.int .u64 10) (fun _ => rfl) e1 rfl ?_
    refine wl_bin (fun x y => do eqGuard .rem 22 (.tmp 33) (.tmp 34) x y; binOp .rem 22 x y) (.tmp 33) (.tmp 34) (.int .u64 (x 7)) (.int .u64 10) (.int .u64 (r 7)) (fun _ => rfl) rfl rfl (remu_run hr (by omega) _ _ _) rfl ?_
    refine wl_mv (.tmp 35) (.int .u64 (r 7)) (fun _ => rfl) rfl rfl ?_
    refine w_nil ?_
    refine xn_blk ?_
    refine xn_then ?_
    refine w_reg ?_
    refine wl_mv (.tmp 8) (.int .i64 (7)) (fun _ => rfl) e8 rfl ?_
    refine wl_bin (fun x y => do eqGuard .sub 3 (.tmp 12) (.const (.int .i64 (1))) x y; binOp .sub 3 x y) (.tmp 12) (.const (.int .i64 (1))) (.int .i64 (7)) (.int .i64 (1)) (.int .i64 (6)) (fun _ => rfl) rfl rfl (by kernel_rfl) rfl ?_
    refine wl_mv (.tmp 13) (.int .i64 (6)) (fun _ => rfl) rfl rfl ?_
    refine w_nil ?_
    exact xn_loop 7 (by decide) ⟨by decide, rfl, rfl, e1, e2, e4, e6, Q1, Q2, Q3, M⟩
  · omega
/-- The rests, from the highest digit on. -/
def srd (n : Int) : Nat → Int
  | 0 => 0
  | j + 1 => (srd n j * 4294967296 + dg n (7 - j)) % 10
theorem srd_bd (n : Int) (j : Nat) : 0 ≤ srd n j ∧ srd n j < 10 := by
  cases j with
  | zero => show 0 ≤ (0 : Int) ∧ (0 : Int) < 10; decide
  | succ j => unfold srd; omega
theorem small_n (n : Int) (w : World) (h0 : 0 ≤ n) (h : n < MM) : Calls Tryd.prog 47 #[nv n, .int .u64 10] w fun e w' => e = .returned (.tuple #[nv (n / 10), .int .u64 (n % 10)]) ∧ Mo w w' := by
  have key := small_w n (fun i => srd n (7 - i) * 4294967296 + dg n i) (fun i => (srd n (7 - i) * 4294967296 + dg n i) / 10) (fun i => srd n (8 - i)) w rfl (fun i hi => ⟨by
      show srd n (8 - (i + 1)) * 4294967296 + dg n i = _
      rw [show 8 - (i + 1) = 7 - i by omega], rfl, by
      show _ = srd n (8 - i)
      rw [show 8 - i = (7 - i) + 1 by omega]
      show _ = (srd n (7 - i) * 4294967296 + dg n (7 - (7 - i))) % 10
      rw [show 7 - (7 - i) = i by omega]⟩) (fun i _ => srd_bd n _) (fun i _ => by
      have a := srd_bd n (7 - i); have b := dg_bd n i
      show 0 ≤ (srd n (7 - i) * 4294967296 + dg n i) / 10 ∧ (srd n (7 - i) * 4294967296 + dg n i) / 10 < 4294967296
      omega)
  have e0 : n = ((((((((dg n 7 * 4294967296 + dg n 6) * 4294967296 + dg n 5) * 4294967296 + dg n 4) * 4294967296 + dg n 3) * 4294967296 + dg n 2) * 4294967296 + dg n 1) * 4294967296 + dg n 0)) := by
    unfold dg MM at *; omega
  have b7 := dg_bd n 7
  have b6 := dg_bd n 6
  have b5 := dg_bd n 5
  have b4 := dg_bd n 4
  have b3 := dg_bd n 3
  have b2 := dg_bd n 2
  have b1 := dg_bd n 1
  have b0 := dg_bd n 0
  have s1 : srd n 1 = (0 * 4294967296 + dg n 7) % 10 := rfl
  have s2 : srd n 2 = (srd n 1 * 4294967296 + dg n 6) % 10 := rfl
  have s3 : srd n 3 = (srd n 2 * 4294967296 + dg n 5) % 10 := rfl
  have s4 : srd n 4 = (srd n 3 * 4294967296 + dg n 4) % 10 := rfl
  have s5 : srd n 5 = (srd n 4 * 4294967296 + dg n 3) % 10 := rfl
  have s6 : srd n 6 = (srd n 5 * 4294967296 + dg n 2) % 10 := rfl
  have s7 : srd n 7 = (srd n 6 * 4294967296 + dg n 1) % 10 := rfl
  have s8 : srd n 8 = (srd n 7 * 4294967296 + dg n 0) % 10 := rfl
  have z0 : srd n 0 = 0 := rfl
  have hQ : Value.agg (qc (fun i => (srd n (7 - i) * 4294967296 + dg n i) / 10) 0).toArray = nv (n / 10) ∧ srd n 8 = n % 10 := by
    show Value.agg #[.int .u64 ((srd n 6 * 4294967296 + dg n 1) / 10 * 4294967296 + (srd n 7 * 4294967296 + dg n 0) / 10), .int .u64 ((srd n 4 * 4294967296 + dg n 3) / 10 * 4294967296 + (srd n 5 * 4294967296 + dg n 2) / 10), .int .u64 ((srd n 2 * 4294967296 + dg n 5) / 10 * 4294967296 + (srd n 3 * 4294967296 + dg n 4) / 10), .int .u64 ((srd n 0 * 4294967296 + dg n 7) / 10 * 4294967296 + (srd n 1 * 4294967296 + dg n 6) / 10)] = nv (n / 10) ∧ srd n 8 = n % 10
    rw [z0]
    generalize srd n 1 = c1 at *
    generalize srd n 2 = c2 at *
    generalize srd n 3 = c3 at *
    generalize srd n 4 = c4 at *
    generalize srd n 5 = c5 at *
    generalize srd n 6 = c6 at *
    generalize srd n 7 = c7 at *
    generalize srd n 8 = c8 at *
    generalize dg n 7 = d7 at *
    generalize dg n 6 = d6 at *
    generalize dg n 5 = d5 at *
    generalize dg n 4 = d4 at *
    generalize dg n 3 = d3 at *
    generalize dg n 2 = d2 at *
    generalize dg n 1 = d1 at *
    generalize dg n 0 = d0 at *
    obtain ⟨y7, q7⟩ : ∃ y, (0 * 4294967296 + d7) / 10 = y := ⟨_, rfl⟩
    obtain ⟨y6, q6⟩ : ∃ y, (c1 * 4294967296 + d6) / 10 = y := ⟨_, rfl⟩
    obtain ⟨y5, q5⟩ : ∃ y, (c2 * 4294967296 + d5) / 10 = y := ⟨_, rfl⟩
    obtain ⟨y4, q4⟩ : ∃ y, (c3 * 4294967296 + d4) / 10 = y := ⟨_, rfl⟩
    obtain ⟨y3, q3⟩ : ∃ y, (c4 * 4294967296 + d3) / 10 = y := ⟨_, rfl⟩
    obtain ⟨y2, q2⟩ : ∃ y, (c5 * 4294967296 + d2) / 10 = y := ⟨_, rfl⟩
    obtain ⟨y1, q1⟩ : ∃ y, (c6 * 4294967296 + d1) / 10 = y := ⟨_, rfl⟩
    obtain ⟨y0, q0⟩ : ∃ y, (c7 * 4294967296 + d0) / 10 = y := ⟨_, rfl⟩
    rw [q7, q6, q5, q4, q3, q2, q1, q0]
    have t7 : d7 = 10 * y7 + c1 ∧ 0 ≤ y7 ∧ y7 < 4294967296 ∧ 0 ≤ c1 ∧ c1 < 10 := by omega
    have t6 : c1 * 4294967296 + d6 = 10 * y6 + c2 ∧ 0 ≤ y6 ∧ y6 < 4294967296 ∧ 0 ≤ c2 ∧ c2 < 10 := by omega
    have t5 : c2 * 4294967296 + d5 = 10 * y5 + c3 ∧ 0 ≤ y5 ∧ y5 < 4294967296 ∧ 0 ≤ c3 ∧ c3 < 10 := by omega
    have t4 : c3 * 4294967296 + d4 = 10 * y4 + c4 ∧ 0 ≤ y4 ∧ y4 < 4294967296 ∧ 0 ≤ c4 ∧ c4 < 10 := by omega
    have t3 : c4 * 4294967296 + d3 = 10 * y3 + c5 ∧ 0 ≤ y3 ∧ y3 < 4294967296 ∧ 0 ≤ c5 ∧ c5 < 10 := by omega
    have t2 : c5 * 4294967296 + d2 = 10 * y2 + c6 ∧ 0 ≤ y2 ∧ y2 < 4294967296 ∧ 0 ≤ c6 ∧ c6 < 10 := by omega
    have t1 : c6 * 4294967296 + d1 = 10 * y1 + c7 ∧ 0 ≤ y1 ∧ y1 < 4294967296 ∧ 0 ≤ c7 ∧ c7 < 10 := by omega
    have t0 : c7 * 4294967296 + d0 = 10 * y0 + c8 ∧ 0 ≤ y0 ∧ y0 < 4294967296 ∧ 0 ≤ c8 ∧ c8 < 10 := by omega
    clear s1 s2 s3 s4 s5 s6 s7 s8 q0 q1 q2 q3 q4 q5 q6 q7 b0 b1 b2 b3 b4 b5 b6 b7
    have hn : n = 10 * (((((((y7 * 4294967296 + y6) * 4294967296 + y5) * 4294967296 + y4) * 4294967296 + y3) * 4294967296 + y2) * 4294967296 + y1) * 4294967296 + y0) + c8 := by omega
    have hq : n / 10 = ((((((y7 * 4294967296 + y6) * 4294967296 + y5) * 4294967296 + y4) * 4294967296 + y3) * 4294967296 + y2) * 4294967296 + y1) * 4294967296 + y0 := by omega
    have hm : n % 10 = c8 := by omega
    rw [hq, hm]
    obtain ⟨_, u7, v7, _, _⟩ := t7
    obtain ⟨_, u6, v6, _, _⟩ := t6
    obtain ⟨_, u5, v5, _, _⟩ := t5
    obtain ⟨_, u4, v4, _, _⟩ := t4
    obtain ⟨_, u3, v3, _, _⟩ := t3
    obtain ⟨_, u2, v2, _, _⟩ := t2
    obtain ⟨_, u1, v1, _, _⟩ := t1
    obtain ⟨_, u0, v0, _, _⟩ := t0
    clear hn hq hm e0
    refine ⟨?_, rfl⟩
    unfold nv
    have g0 : l0 (((((((y7 * 4294967296 + y6) * 4294967296 + y5) * 4294967296 + y4) * 4294967296 + y3) * 4294967296 + y2) * 4294967296 + y1) * 4294967296 + y0) = y1 * 4294967296 + y0 := by unfold l0; omega
    have g1 : l1 (((((((y7 * 4294967296 + y6) * 4294967296 + y5) * 4294967296 + y4) * 4294967296 + y3) * 4294967296 + y2) * 4294967296 + y1) * 4294967296 + y0) = y3 * 4294967296 + y2 := by unfold l1; omega
    have g2 : l2 (((((((y7 * 4294967296 + y6) * 4294967296 + y5) * 4294967296 + y4) * 4294967296 + y3) * 4294967296 + y2) * 4294967296 + y1) * 4294967296 + y0) = y5 * 4294967296 + y4 := by unfold l2; omega
    have g3 : l3 (((((((y7 * 4294967296 + y6) * 4294967296 + y5) * 4294967296 + y4) * 4294967296 + y3) * 4294967296 + y2) * 4294967296 + y1) * 4294967296 + y0) = y7 * 4294967296 + y6 := by unfold l3; omega
    rw [g0, g1, g2, g3]
  rw [hQ.1] at key
  have e8 : srd n (8 - 0) = n % 10 := hQ.2
  rw [e8] at key
  exact key
end Go.Proofs.YtdcojpbgijkmgaaDoor
/-
  The document's Text of a number.
-/
namespace Go.Proofs.YtdcojpbgijkmgaaDoor
open Go.RowKit
theorem sz5 : (Tryd.prog.info? 5).map (·.size) = some 1 := by kernel_rfl
theorem cvb_run {a : Int} (h0 : 0 ≤ a) (h1 : a < 256) (w : World) : (convert 22 5 (.int .u64 a)).run Tryd.prog w = .ok (.int .u8 a) w := by
  have e : IntKind.u8.wrap a = a := by rw [IntKind.wrap_u8]; omega
  rw [cvA, e]
theorem lens_run (ρ : Operand → Value) (x : Operand) (p : Option Addr) (m c : Nat) (hx : ρ x = .slice p m c) (dst : Option Tmp) (type : TypeId) (pos : String) (after : Array Edge) (guard : Option (Nat × Bool)) (w : World) : (execOp ρ { dst, op := .call { callee := .builtin .len, args := #[x], argTypes := #[51] }, type, pos, after, guard }).run Tryd.prog w = .ok (.value (.int .i64 (m : Int))) w := by
  simp [go_sem, hx]
theorem rtext_0 (n : Int) (w : World) (hz : (l0 n == 0 && (l1 n == 0 && (l2 n == 0 && l3 n == 0))) = true) : Calls Tryd.prog 24 #[nv n] w fun e w' => e = .returned (.string ⟨#[48]⟩) ∧ Mo w w' := by
  refine w_enter 52 Tryd.func24 Tryd.ntmps24 rfl rfl ?_
  have M : Mo w w := Mo.refl _
  refine w_seq ?_
  refine w_reg ?_
  refine wl_box 24 (.tmp 0) (nv (n)) ((nvar (n))) rfl rfl (fun _ => by kernel_rfl) rfl ?_
  intro k1 w1 hk hz hq Q1
  have N_k1 : w.heap.size ≤ k1 := by have := M.size; omega
  replace M := M.trans hq
  clear hk hz hq
  refine wl_mv (.const (.string ⟨#[]⟩)) (.string ⟨#[]⟩) (fun _ => rfl) rfl rfl ?_
  refine w_nil ?_
  refine xn_then ?_
  refine w_seq ?_
  refine w_seq ?_
  refine w_reg ?_
  refine wl_load 24 (.tmp 1) (pt k1 0) (nv (n)) rfl rfl (run_row Q1 24 0 4 (nvli (n)) rfl Tryd.underlying24 rfl sz24) rfl ?_
  refine wl_build 24 [] [] (.agg #[.int .u64 0, .int .u64 0, .int .u64 0, .int .u64 0]) rfl rfl (by kernel_rfl) rfl ?_
  refine wl_bin (fun x y => do eqGuard .eql 24 (.tmp 8) (.tmp 9) x y; binOp .eql 24 x y) (.tmp 8) (.tmp 9) (nv (n)) (.agg #[.int .u64 0, .int .u64 0, .int .u64 0, .int .u64 0]) (.bool true) (fun _ => rfl) rfl rfl (eqn_run hz _ _ _) rfl ?_
  refine w_nil ?_
  refine xn_then ?_
  refine w_condT rfl ?_
  refine w_seq ?_
  refine w_reg ?_
  refine wl_mv (.const (.string ⟨#[48]⟩)) (.string ⟨#[48]⟩) (fun _ => rfl) rfl rfl ?_
  refine w_nil ?_
  refine xn_then ?_
  refine w_ret ?_
  refine xr_then ?_
  exact w_ret1 _ (.string ⟨#[48]⟩) rfl rfl ⟨rfl, M⟩
theorem sub3b_run {k : Nat} (hk : 0 < k ∧ k ≤ 1000) (x y : Operand) (w : World) : (do eqGuard .sub 3 x y (.int .i64 (k : Int)) (.int .i64 1); binOp .sub 3 (.int .i64 (k : Int)) (.int .i64 1)).run Tryd.prog w = .ok (.int .i64 ((k - 1 : Nat) : Int)) w := by
  have e : (do eqGuard .sub 3 x y (.int .i64 (k : Int)) (.int .i64 1); binOp .sub 3 (.int .i64 (k : Int)) (.int .i64 1)).run Tryd.prog w = .ok (.int .i64 (IntKind.i64.wrap ((k : Int) - 1))) w := by kernel_rfl
  have h : IntKind.i64.wrap ((k : Int) - 1) = ((k - 1 : Nat) : Int) := by rw [IntKind.wrap_i64]; omega
  rw [e, h]
theorem getD_map {zs : List Int} {p : Nat} (h : p < zs.length) : (zs.map (Value.int .u8))[p]? = some (.int .u8 (zs.getD p 0)) := by
  simp [h]
theorem rtext_w (n : Int) (w : World) (hn0 : n ≠ 0) (hnn : (n.toNat : Int) = n) (hn : n < MM) (hz : (l0 n == 0 && (l1 n == 0 && (l2 n == 0 && l3 n == 0))) = false) : Calls Tryd.prog 24 #[nv n] w fun e w' => e = .returned (.string (strOf (decF 78 n))) ∧ Mo w w' := by
  refine w_enter 52 Tryd.func24 Tryd.ntmps24 rfl rfl ?_
  have M : Mo w w := Mo.refl _
  refine w_seq ?_
  refine w_reg ?_
  refine wl_box 24 (.tmp 0) (nv (n)) ((nvar (n))) rfl rfl (fun _ => by kernel_rfl) rfl ?_
  intro k1 w1 hk hz hq Q1
  have N_k1 : w.heap.size ≤ k1 := by have := M.size; omega
  replace M := M.trans hq
  clear hk hz hq
  refine wl_mv (.const (.string ⟨#[]⟩)) (.string ⟨#[]⟩) (fun _ => rfl) rfl rfl ?_
  refine w_nil ?_
  refine xn_then ?_
  refine w_seq ?_
  refine w_seq ?_
  refine w_reg ?_
  refine wl_load 24 (.tmp 1) (pt k1 0) (nv (n)) rfl rfl (run_row Q1 24 0 4 (nvli (n)) rfl Tryd.underlying24 rfl sz24) rfl ?_
  refine wl_build 24 [] [] (.agg #[.int .u64 0, .int .u64 0, .int .u64 0, .int .u64 0]) rfl rfl (by kernel_rfl) rfl ?_
  refine wl_bin (fun x y => do eqGuard .eql 24 (.tmp 8) (.tmp 9) x y; binOp .eql 24 x y) (.tmp 8) (.tmp 9) (nv (n)) (.agg #[.int .u64 0, .int .u64 0, .int .u64 0, .int .u64 0]) (.bool false) (fun _ => rfl) rfl rfl (eqn_run hz _ _ _) rfl ?_
  refine w_nil ?_
  refine xn_then ?_
  refine w_condF rfl ?_
  refine w_skip ?_
  refine xn_then ?_
  refine w_seq ?_
  refine w_reg ?_
  refine wl_mv (.const (.slice none 0 0)) (.slice none 0 0) (fun _ => rfl) rfl rfl ?_
  refine w_nil ?_
  refine xn_then ?_
  refine w_seq ?_
  refine w_block ?_
  refine w_loop (fun m l w1 => ∃ (xs : List Int) (v : Value) (f : Nat), look l 1 = pt k1 0 ∧ look l 3 = v ∧ At w1 k1 (nvli (m : Int)) ∧ w1.ownsRow w.heap.size 5 1 v xs.length (xs.map (Value.int .u8)) ∧ v.ownBlock ≠ some k1 ∧ dRev 78 n = xs ++ dRev f (m : Int) ∧ xs.length + f = 78 ∧ (m : Int) < 10 ^ f ∧ (m : Int) < MM ∧ Mo w w1) n.toNat ⟨[], .slice none 0 0, 78, rfl, rfl, by rw [hnn]; exact Q1, World.ownsRow_nil _ _ _ _, by simp [Value.ownBlock], by rw [hnn]; rfl, rfl, by rw [hnn]; exact Int.lt_trans hn (by decide), by rw [hnn]; exact hn, M⟩ ?_
  clear M Q1
  rintro m l wl ⟨xs, v, f, e1, e3, Q1, hown, on_k1, hdr, hxf, hmf, hmM, M⟩
  have hsz := M.size
  by_cases hm0 : m = 0
  · subst hm0
    have hz : (l0 ((0 : Nat) : Int) == 0 && (l1 ((0 : Nat) : Int) == 0 && (l2 ((0 : Nat) : Int) == 0 && l3 ((0 : Nat) : Int) == 0))) = true := rfl
    have hxs : dRev 78 n = xs := by rw [hdr]; rw [show (((0 : Nat) : Int)) = 0 from rfl, dRev_zero, List.append_nil]
    have hpos : 0 < xs.length := by rw [← hxs, dRev_step hn0]; simp
    obtain ⟨g, cap, rfl, hgN, hglt⟩ := hown.form hpos
    have Qg := own_at hown
    refine w_seq ?_
    refine w_seq ?_
    refine w_reg ?_
    refine wl_load 24 (.tmp 1) (pt k1 0) (nv (((0 : Nat) : Int))) rfl e1 (run_row Q1 24 0 4 (nvli (((0 : Nat) : Int))) rfl Tryd.underlying24 rfl sz24) rfl ?_
    refine wl_build 24 [] [] (.agg #[.int .u64 0, .int .u64 0, .int .u64 0, .int .u64 0]) rfl rfl (by kernel_rfl) rfl ?_
    refine wl_bin (fun x y => do eqGuard .neq 24 (.tmp 11) (.tmp 12) x y; binOp .neq 24 x y) (.tmp 11) (.tmp 12) (nv (((0 : Nat) : Int))) (.agg #[.int .u64 0, .int .u64 0, .int .u64 0, .int .u64 0]) (.bool false) (fun _ => rfl) rfl rfl (nen_run (r := true) hz _ _ _) rfl ?_
    refine w_nil ?_
    refine xn_then ?_
    refine w_condF rfl ?_
    refine w_exit ?_
    refine xx_then ?_
    refine xx_then ?_
    refine xx_blk ?_
    refine xn_then ?_
    refine w_seq ?_
    refine w_seq ?_
    refine w_reg ?_
    refine wl_mv (.tmp 3) (.slice (some ⟨g, 0, none⟩) xs.length cap) (fun _ => rfl) e3 rfl ?_
    refine wl_val (.int .i64 ((xs.length : Int))) (lens_run _ _ _ _ cap rfl _ _ _ _ _ _) rfl ?_
    refine wl_bin (fun x y => do eqGuard .sub 3 (.tmp 27) (.const (.int .i64 (1))) x y; binOp .sub 3 x y) (.tmp 27) (.const (.int .i64 (1))) (.int .i64 ((xs.length : Int))) (.int .i64 (1)) (.int .i64 (((xs.length - 1 : Nat) : Int))) (fun _ => rfl) rfl rfl (sub3b_run (by omega) _ _ _) rfl ?_
    refine wl_mv (.const (.int .i64 (0))) (.int .i64 (0)) (fun _ => rfl) rfl rfl ?_
    refine wl_mv (.tmp 28) (.int .i64 (((xs.length - 1 : Nat) : Int))) (fun _ => rfl) rfl rfl ?_
    refine w_nil ?_
    refine xn_then ?_
    refine w_block ?_
    refine w_loop (fun r l w1 => ∃ (i j : Nat) (zs : List Int), i + j + 1 = xs.length ∧ i + r = xs.length ∧ look l 3 = .slice (some ⟨g, 0, none⟩) xs.length cap ∧ look l 6 = .int .i64 (i : Int) ∧ look l 7 = .int .i64 (j : Int) ∧ RvI xs i zs ∧ At w1 g (zs.map (Value.int .u8)) ∧ Mo w w1) xs.length ⟨0, xs.length - 1, xs, by omega, by omega, e3, rfl, rfl, RvI.start xs, Qg, M⟩ ?_
    clear M Qg e3 e1 hown
    rintro r l2 wl2 ⟨i, j, zs, hij, hir, e3, e6, e7, hrv, Qg, M⟩
    have hlz := hrv.1
    by_cases hlt : i < j
    · have hl : decide ((i : Int) < (j : Int)) = true := decide_eq_true (by omega)
      refine w_seq ?_
      refine w_seq ?_
      refine w_reg ?_
      refine wl_mv (.tmp 6) (.int .i64 (i : Int)) (fun _ => rfl) e6 rfl ?_
      refine wl_mv (.tmp 7) (.int .i64 (j : Int)) (fun _ => rfl) e7 rfl ?_
      refine wl_bin (fun x y => do eqGuard .lss 3 (.tmp 29) (.tmp 30) x y; binOp .lss 3 x y) (.tmp 29) (.tmp 30) (.int .i64 (i : Int)) (.int .i64 (j : Int)) (.bool true) (fun _ => rfl) rfl rfl (lt3_run hl _ _ _) rfl ?_
      refine w_nil ?_
      refine xn_then ?_
      refine w_condT rfl ?_
      refine w_skip ?_
      refine xn_then ?_
      refine w_seq ?_
      refine w_block ?_
      refine w_any 13 [.inl (.slice (some ⟨g, 0, none⟩) xs.length cap), .inl (.int .i64 (i : Int)), .inl (.slice (some ⟨g, 0, none⟩) xs.length cap), .inl (.int .i64 (j : Int)), .inl (.slice (some ⟨g, 0, none⟩) xs.length cap), .inl (.int .i64 (j : Int)), .inl (pt g j), .inl (.int .u8 (zs.getD j 0)), .inl (.slice (some ⟨g, 0, none⟩) xs.length cap), .inl (.int .i64 (i : Int)), .inl (pt g i), .inl (.int .u8 (zs.getD i 0)), .inl (pt g i)] [2, 3] (by kernel_rfl) (by kernel_rfl) (by kernel_rfl) (by kernel_rfl) rfl (by kernel_rfl) (by kernel_rfl) (late_cons ⟨_, _, rfl, rfl, fun _ _ _ _ h => h, fun f hd => ⟨rfl, la_mv (.tmp 3) (.slice (some ⟨g, 0, none⟩) xs.length cap) (fun _ => rfl) e3⟩⟩ (late_cons ⟨_, _, rfl, rfl, fun _ _ _ _ h => h, fun f hd => ⟨rfl, la_mv (.tmp 7) (.int .i64 (j : Int)) (fun _ => rfl) e7⟩⟩ late_nil)) ?_ ?_ ?_
      · exact Ds.none rfl
      · refine ea_cons ?_ (ea_cons ?_ (ea_cons ?_ (ea_cons ?_ (ea_cons ?_ (ea_cons ?_ (ea_cons ?_ (ea_cons ?_ (ea_cons ?_ (ea_cons ?_ (ea_cons ?_ (ea_cons ?_ (ea_cons ?_ (ea_nil)))))))))))))
        · exact og_eq (.slice (some ⟨g, 0, none⟩) xs.length cap) rfl (fun f wf hq hd K hK => go_run rfl (wo_mv (.tmp 3) (.slice (some ⟨g, 0, none⟩) xs.length cap) (fun _ => rfl) e3 (hK _ (Mo.refl _))))
        · exact og_eq (.int .i64 (i : Int)) rfl (fun f wf hq hd K hK => go_run rfl (wo_mv (.tmp 6) (.int .i64 (i : Int)) (fun _ => rfl) e6 (hK _ (Mo.refl _))))
        · exact og_eq (.slice (some ⟨g, 0, none⟩) xs.length cap) rfl (fun f wf hq hd K hK => go_run rfl (wo_mv (.tmp 3) (.slice (some ⟨g, 0, none⟩) xs.length cap) (fun _ => rfl) e3 (hK _ (Mo.refl _))))
        · exact og_eq (.int .i64 (j : Int)) rfl (fun f wf hq hd K hK => go_run rfl (wo_mv (.tmp 7) (.int .i64 (j : Int)) (fun _ => rfl) e7 (hK _ (Mo.refl _))))
        · exact og_eq (.slice (some ⟨g, 0, none⟩) xs.length cap) rfl (fun f wf hq hd K hK => go_run rfl (wo_mv (.tmp 3) (.slice (some ⟨g, 0, none⟩) xs.length cap) (fun _ => rfl) e3 (hK _ (Mo.refl _))))
        · exact og_eq (.int .i64 (j : Int)) rfl (fun f wf hq hd K hK => go_run rfl (wo_mv (.tmp 7) (.int .i64 (j : Int)) (fun _ => rfl) e7 (hK _ (Mo.refl _))))
        · exact og_eq (pt g j) rfl (fun f wf hq hd K hK => go_run rfl (wo_bin (fun x y => Instr.indexAt 51 x y) (.tmp 40) (.tmp 41) (.slice (some ⟨g, 0, none⟩) xs.length cap) (.int .i64 (j : Int)) (pt g j) (fun _ => rfl) (hd 4 rfl) (hd 5 rfl) (ixs g j xs.length cap (by omega) _) (hK _ (Mo.refl _))))
        · exact og_eq (.int .u8 (zs.getD j 0)) rfl (fun f wf hq hd K hK => have Qg := Qg.mo hq; go_run rfl (wo_load 5 (.tmp 42) (pt g j) (.int .u8 (zs.getD j 0)) rfl (hd 6 rfl) (run_one (v := .int .u8 (zs.getD j 0)) Qg 5 j (getD_map (by omega)) Tryd.underlying5 rfl) (hK _ (Mo.refl _))))
        · exact og_eq (.slice (some ⟨g, 0, none⟩) xs.length cap) rfl (fun f wf hq hd K hK => go_run rfl (wo_mv (.tmp 3) (.slice (some ⟨g, 0, none⟩) xs.length cap) (fun _ => rfl) e3 (hK _ (Mo.refl _))))
        · exact og_eq (.int .i64 (i : Int)) rfl (fun f wf hq hd K hK => go_run rfl (wo_mv (.tmp 6) (.int .i64 (i : Int)) (fun _ => rfl) e6 (hK _ (Mo.refl _))))
        · exact og_eq (pt g i) rfl (fun f wf hq hd K hK => go_run rfl (wo_bin (fun x y => Instr.indexAt 51 x y) (.tmp 44) (.tmp 45) (.slice (some ⟨g, 0, none⟩) xs.length cap) (.int .i64 (i : Int)) (pt g i) (fun _ => rfl) (hd 8 rfl) (hd 9 rfl) (ixs g i xs.length cap (by omega) _) (hK _ (Mo.refl _))))
        · exact og_eq (.int .u8 (zs.getD i 0)) rfl (fun f wf hq hd K hK => have Qg := Qg.mo hq; go_run rfl (wo_load 5 (.tmp 46) (pt g i) (.int .u8 (zs.getD i 0)) rfl (hd 10 rfl) (run_one (v := .int .u8 (zs.getD i 0)) Qg 5 i (getD_map (by omega)) Tryd.underlying5 rfl) (hK _ (Mo.refl _))))
        · exact og_eq (pt g i) rfl (fun f wf hq hd K hK => go_run rfl (wo_bin (fun x y => Instr.indexAt 51 x y) (.tmp 36) (.tmp 37) (.slice (some ⟨g, 0, none⟩) xs.length cap) (.int .i64 (i : Int)) (pt g i) (fun _ => rfl) (hd 0 rfl) (hd 1 rfl) (ixs g i xs.length cap (by omega) _) (hK _ (Mo.refl _))))
      intro kf61 w61 hq hR hne
      replace Qg := Qg.mo hq
      replace M := M.trans hq
      clear hq hR hne
      refine wl_st1 5 (.tmp 48) (.tmp 43) g i (.int .u8 (zs.getD j 0)) (zs.map (Value.int .u8)) ((zs.map (Value.int .u8)).set i (.int .u8 (zs.getD j 0))) Qg rfl rfl rfl rfl (blt_t (by simp; omega)) sz5 rfl rfl (set_tk (by simp; omega)) rfl ?_
      intro w62 hS Qn
      rw [← List.map_set] at Qn
      replace Qg := Qn
      clear Qn
      replace M := hS.mo _ hgN M
      clear hS
      refine wl_bin (fun x y => Instr.indexAt 51 x y) (.tmp 38) (.tmp 39) (.slice (some ⟨g, 0, none⟩) xs.length cap) (.int .i64 (j : Int)) (pt g j) (fun _ => rfl) rfl rfl (ixs g j xs.length cap (by omega) _) rfl ?_
      refine wl_st1 5 (.tmp 49) (.tmp 47) g j (.int .u8 (zs.getD i 0)) ((zs.set i (zs.getD j 0)).map (Value.int .u8)) (((zs.set i (zs.getD j 0)).map (Value.int .u8)).set j (.int .u8 (zs.getD i 0))) Qg rfl rfl rfl rfl (blt_t (by simp; omega)) sz5 rfl rfl (set_tk (by simp; omega)) rfl ?_
      intro w63 hS Qn
      rw [← List.map_set] at Qn
      replace Qg := Qn
      clear Qn
      replace M := hS.mo _ hgN M
      clear hS
      refine w_nil ?_
      refine xn_blk ?_
      refine xn_then ?_
      refine w_reg ?_
      refine wl_mv (.tmp 6) (.int .i64 (i : Int)) (fun _ => rfl) e6 rfl ?_
      refine wl_bin (fun x y => do eqGuard .add 3 (.tmp 32) (.const (.int .i64 (1))) x y; binOp .add 3 x y) (.tmp 32) (.const (.int .i64 (1))) (.int .i64 (i : Int)) (.int .i64 (1)) (.int .i64 (((i + 1 : Nat) : Int))) (fun _ => rfl) rfl rfl (add1_run (by omega) _ _ _) rfl ?_
      refine wl_mv (.tmp 7) (.int .i64 (j : Int)) (fun _ => rfl) e7 rfl ?_
      refine wl_bin (fun x y => do eqGuard .sub 3 (.tmp 34) (.const (.int .i64 (1))) x y; binOp .sub 3 x y) (.tmp 34) (.const (.int .i64 (1))) (.int .i64 (j : Int)) (.int .i64 (1)) (.int .i64 (((j - 1 : Nat) : Int))) (fun _ => rfl) rfl rfl (sub3b_run (by omega) _ _ _) rfl ?_
      refine wl_mv (.tmp 33) (.int .i64 (((i + 1 : Nat) : Int))) (fun _ => rfl) rfl rfl ?_
      refine wl_mv (.tmp 35) (.int .i64 (((j - 1 : Nat) : Int))) (fun _ => rfl) rfl rfl ?_
      refine w_nil ?_
      exact xn_loop (r - 1) (by omega) ⟨i + 1, j - 1, _, by omega, by omega, e3, rfl, rfl, hrv.step hlt hij, Qg, M⟩
    · have hl : decide ((i : Int) < (j : Int)) = false := decide_eq_false (by omega)
      refine w_seq ?_
      refine w_seq ?_
      refine w_reg ?_
      refine wl_mv (.tmp 6) (.int .i64 (i : Int)) (fun _ => rfl) e6 rfl ?_
      refine wl_mv (.tmp 7) (.int .i64 (j : Int)) (fun _ => rfl) e7 rfl ?_
      refine wl_bin (fun x y => do eqGuard .lss 3 (.tmp 29) (.tmp 30) x y; binOp .lss 3 x y) (.tmp 29) (.tmp 30) (.int .i64 (i : Int)) (.int .i64 (j : Int)) (.bool false) (fun _ => rfl) rfl rfl (lt3_run hl _ _ _) rfl ?_
      refine w_nil ?_
      refine xn_then ?_
      refine w_condF rfl ?_
      refine w_exit ?_
      refine xx_then ?_
      refine xx_then ?_
      refine xx_blk ?_
      refine xn_then ?_
      refine w_seq ?_
      refine w_reg ?_
      refine wl_mv (.tmp 3) (.slice (some ⟨g, 0, none⟩) xs.length cap) (fun _ => rfl) e3 rfl ?_
      refine wl_un (fun v => convert 51 9 v) (.tmp 50) (.slice (some ⟨g, 0, none⟩) xs.length cap) (.string (strOf zs)) (fun _ => rfl) rfl (str_run _ g cap zs Qg _ hlz.symm) rfl ?_
      refine wl_mv (.tmp 51) (.string (strOf zs)) (fun _ => rfl) rfl rfl ?_
      refine w_nil ?_
      refine xn_then ?_
      refine w_ret ?_
      exact w_ret1 _ (.string (strOf zs)) rfl rfl ⟨by rw [hrv.done hlt hij, ← hxs, dRev_decF 77 n (by omega) (Int.lt_trans hn (by decide))], M⟩
  · have hz : (l0 (m : Int) == 0 && (l1 (m : Int) == 0 && (l2 (m : Int) == 0 && l3 (m : Int) == 0))) = false := by rw [zb (by omega) hmM]; exact decide_eq_false (by omega)
    obtain ⟨f', rfl⟩ : ∃ f', f = f' + 1 := by cases f with | zero => simp at hmf; omega | succ f => exact ⟨f, rfl⟩
    refine w_seq ?_
    refine w_seq ?_
    refine w_reg ?_
    refine wl_load 24 (.tmp 1) (pt k1 0) (nv ((m : Int))) rfl e1 (run_row Q1 24 0 4 (nvli ((m : Int))) rfl Tryd.underlying24 rfl sz24) rfl ?_
    refine wl_build 24 [] [] (.agg #[.int .u64 0, .int .u64 0, .int .u64 0, .int .u64 0]) rfl rfl (by kernel_rfl) rfl ?_
    refine wl_bin (fun x y => do eqGuard .neq 24 (.tmp 11) (.tmp 12) x y; binOp .neq 24 x y) (.tmp 11) (.tmp 12) (nv ((m : Int))) (.agg #[.int .u64 0, .int .u64 0, .int .u64 0, .int .u64 0]) (.bool true) (fun _ => rfl) rfl rfl (nen_run (r := false) hz _ _ _) rfl ?_
    refine w_nil ?_
    refine xn_then ?_
    refine w_condT rfl ?_
    refine w_skip ?_
    refine xn_then ?_
    refine w_block ?_
    refine w_seq ?_
    refine w_reg ?_
    refine wl_load 24 (.tmp 1) (pt k1 0) (nv ((m : Int))) rfl e1 (run_row Q1 24 0 4 (nvli ((m : Int))) rfl Tryd.underlying24 rfl sz24) rfl ?_
    refine wl_call 47 [(.tmp 15), (.const (.int .u64 (10)))] _ [nv ((m : Int)), .int .u64 (10)] (.tuple #[nv ((m : Int) / 10), .int .u64 ((m : Int) % 10)]) rfl rfl (fun _ _ => by kernel_rfl) (small_n (m : Int) _ (by omega) hmM) rfl ?_
    intro w21 hq
    replace hown := own_mo hown hq
    replace Q1 := Q1.mo hq
    replace M := M.trans hq
    clear hq
    refine wl_mv (.tmp 16) (.tuple #[nv ((m : Int) / 10), .int .u64 ((m : Int) % 10)]) (fun _ => rfl) rfl rfl ?_
    refine wl_un (fun v => Instr.extract v 0) (.tmp 14) (.tuple #[nv ((m : Int) / 10), .int .u64 ((m : Int) % 10)]) (nv ((m : Int) / 10)) (fun _ => rfl) rfl (by kernel_rfl) rfl ?_
    refine wl_un (fun v => Instr.extract v 1) (.tmp 14) (.tuple #[nv ((m : Int) / 10), .int .u64 ((m : Int) % 10)]) (.int .u64 ((m : Int) % 10)) (fun _ => rfl) rfl (by kernel_rfl) rfl ?_
    refine wl_alloc 24 #[.int .u64 0, .int .u64 0, .int .u64 0, .int .u64 0] rfl (fun _ => by kernel_rfl) rfl ?_
    intro k21 w22 hk hz hq Q21
    have ne_k1_k21 : k1 ≠ k21 := by have := Q1.lt; omega
    have on_k21 : v.ownBlock ≠ some k21 := fun e => by have := (hown.lt _ e).2; omega
    have N_k21 : w.heap.size ≤ k21 := by have := M.size; omega
    replace hown := own_mo hown hq
    replace Q1 := Q1.mo hq
    replace M := M.trans hq
    clear hk hz hq
    refine wl_stx 24 (.tmp 4) (.tmp 17) k21 0 (nvar ((m : Int) / 10)) [.int .u64 0, .int .u64 0, .int .u64 0, .int .u64 0] (nvli ((m : Int) / 10)) Q21 rfl rfl rfl rfl rfl sz24 rfl rfl rfl ?_
    intro w23 hS Qn
    replace Q21 := Qn
    clear Qn
    replace Q1 := hS.other _ _ ne_k1_k21 Q1
    replace hown := own_st hS hown on_k21
    replace M := hS.mo _ N_k21 M
    clear hS
    refine wl_mv (.tmp 18) (.int .u64 ((m : Int) % 10)) (fun _ => rfl) rfl rfl ?_
    refine w_nil ?_
    refine xn_then ?_
    refine w_seq ?_
    refine w_reg ?_
    refine wl_mv (.tmp 3) (v) (fun _ => rfl) e3 rfl ?_
    refine wl_mv (.tmp 5) (.int .u64 ((m : Int) % 10)) (fun _ => rfl) rfl rfl ?_
    refine wl_bin (fun x y => do eqGuard .add 22 (.const (.int .u64 (48))) (.tmp 20) x y; binOp .add 22 x y) (.const (.int .u64 (48))) (.tmp 20) (.int .u64 (48)) (.int .u64 ((m : Int) % 10)) (.int .u64 (48 + (m : Int) % 10)) (fun _ => rfl) rfl rfl (addu_run rfl (by omega) (by omega) _ _ _) rfl ?_
    refine wl_un (fun v => convert 22 5 v) (.tmp 21) (.int .u64 (48 + (m : Int) % 10)) (.int .u8 (48 + (m : Int) % 10)) (fun _ => rfl) rfl (cvb_run (by omega) (by omega) _) rfl ?_
    refine wl_bsl (.tmp 22) (48 + (m : Int) % 10) rfl rfl rfl ?_
    intro k22 w24 hk hz2 hq Q22
    have ne_k1_k22 : k1 ≠ k22 := by have := Q1.lt; omega
    have ne_k21_k22 : k21 ≠ k22 := by have := Q21.lt; omega
    have on_k22 : v.ownBlock ≠ some k22 := fun e => by have := (hown.lt _ e).2; omega
    have N_k22 : w.heap.size ≤ k22 := by have := M.size; omega
    replace hown := own_mo hown hq
    replace Q1 := Q1.mo hq
    replace Q21 := Q21.mo hq
    replace M := M.trans hq
    clear hk hz2 hq
    refine wl_app (.tmp 19) (.tmp 23) w.heap.size v xs.length (xs.map (Value.int .u8)) k22 (48 + (m : Int) % 10) rfl rfl rfl hown Q22 (by omega) (by have := M.size; omega) rfl ?_
    intro v' w25 hown2 hW hat
    have hne2 : v'.ownBlock ≠ some k1 := by rcases hat with h | h <;> rw [h]; exact on_k1; intro e; cases e; have := Q1.lt; omega
    replace M := hW.mo M (fun j e => (hown.lt _ e).1)
    replace Q1 := hW.at Q1 on_k1
    replace Q21 := hW.at Q21 on_k21
    replace Q22 := hW.at Q22 on_k22
    clear hown hW hat
    have hown := hown2
    clear hown2
    replace on_k1 := hne2
    clear on_k21
    clear on_k22
    refine wl_mv (.tmp 24) (v') (fun _ => rfl) rfl rfl ?_
    refine w_nil ?_
    refine xn_then ?_
    refine w_reg ?_
    refine wl_load 24 (.tmp 4) (pt k21 0) (nv ((m : Int) / 10)) rfl rfl (run_row Q21 24 0 4 (nvli ((m : Int) / 10)) rfl Tryd.underlying24 rfl sz24) rfl ?_
    refine wl_stx 24 (.tmp 1) (.tmp 25) k1 0 (nvar ((m : Int) / 10)) (nvli ((m : Int))) (nvli ((m : Int) / 10)) Q1 rfl rfl e1 rfl rfl sz24 rfl rfl rfl ?_
    intro w26 hS Qn
    replace Q1 := Qn
    clear Qn
    replace Q21 := hS.other _ _ ne_k1_k21.symm Q21
    replace Q22 := hS.other _ _ ne_k1_k22.symm Q22
    replace hown := own_st hS hown on_k1
    replace M := hS.mo _ N_k1 M
    clear hS
    refine w_nil ?_
    refine xn_blk ?_
    exact xn_loop (m / 10) (by omega) ⟨xs ++ [48 + (m : Int) % 10], v', f', e1, rfl, by rw [show ((m / 10 : Nat) : Int) = (m : Int) / 10 by omega]; exact Q1, by rw [List.length_append, List.map_append]; exact hown, hne2, by rw [hdr, dRev_step (by omega), List.append_assoc]; rw [show ((m / 10 : Nat) : Int) = (m : Int) / 10 by omega]; rfl, by rw [List.length_append]; simp; omega, by rw [Int.pow_succ] at hmf; omega, by omega, M⟩
theorem rtext_n (n : Int) (w : World) (h0 : 0 ≤ n) (h : n < MM) : Calls Tryd.prog 24 #[nv n] w fun e w' => e = .returned (.string (strOf (decF 78 n))) ∧ Mo w w' := by
  by_cases hz : n = 0
  · subst hz
    exact rtext_0 0 w rfl
  · exact rtext_w n w hz (by omega) h (by rw [zb h0 h]; exact decide_eq_false hz)
end Go.Proofs.YtdcojpbgijkmgaaDoor
/-
  exciseref03.Text, whatever the number.
-/
namespace Go.Proofs.YtdcojpbgijkmgaaDoor
open Go.RowKit Go.Lib
theorem sz26b : (Tryd.prog.info? 26).map (·.size) = some 6 := by kernel_rfl
theorem D_pos (n : Int) : 1 ≤ (V.dgs8 n).length := by
  show 1 ≤ (strOf (decF 78 n)).data.toList.length
  rw [strOf_list, List.length_map]
  have := decF_ne (f := 77) n
  cases h : decF 78 n with
  | nil => exact absurd h this
  | cons a r => simp
/-- Digits with some 0s ahead, no more than one is ahead of the point. -/
def LZ (D dl : List UInt8) (k : Nat) : Prop := ∃ j, dl = List.replicate j 48 ++ D ∧ (j = 0 ∨ dl.length ≤ k + 1)
theorem LZ.step {D dl : List UInt8} {k : Nat} (h : LZ D dl k) (hl : dl.length ≤ k) : LZ D (48 :: dl) k := by
  obtain ⟨j, rfl, _⟩ := h
  exact ⟨j + 1, by rw [List.replicate_succ]; rfl, Or.inr (by simp at *; omega)⟩
theorem LZ.done {D dl : List UInt8} {k : Nat} (h : LZ D dl k) (hl : ¬ dl.length ≤ k) : dl = leadz D k := by
  obtain ⟨j, rfl, h2⟩ := h
  unfold leadz
  congr 1
  simp at hl h2
  congr 1
  omega
theorem LZ.bound {D dl : List UInt8} {k : Nat} (h : LZ D dl k) : dl.length ≤ D.length + k + 1 := by
  obtain ⟨j, rfl, h2⟩ := h
  rcases h2 with rfl | h2
  · simp; omega
  · simp at *; omega
theorem fin0 {n : Int} {dl : List UInt8} (h : dl = leadz (V.dgs8 n) 0) (b : Bool) : tx (V.txt b n 0) = if b then tx (45 :: dl) else tx dl := by
  have h1 : dl = V.dgs8 n := by
    rw [h]; unfold leadz; have := D_pos n; rw [show 0 + 1 - (V.dgs8 n).length = 0 by omega]; rfl
  rw [h1]; unfold V.txt wpt; cases b <;> rfl
theorem fink {n : Int} {dl : List UInt8} {k c : Nat} (hk : k ≠ 0) (h : dl = leadz (V.dgs8 n) k) (hc : dl.length = k + c) (b : Bool) : tx (V.txt b n k) = if b then tx ([45] ++ (dl.take c ++ [46] ++ dl.drop c)) else tx (dl.take c ++ [46] ++ dl.drop c) := by
  unfold V.txt wpt; rw [if_neg hk, ← h, hc, show k + c - k = c by omega]; cases b <;> simp
theorem rtx_no (b : Bool) (n s0 : Int) (w : World) (hn0 : 0 ≤ n) (hnM : n < MM) (hck : ck b n s0 ≠ 0) : Calls Tryd.prog 10 #[dc b n s0] w fun e w' => e = .returned (.string ⟨#[63]⟩) ∧ Mo w w' := by
  refine w_enter 41 Tryd.func10 Tryd.ntmps10 rfl rfl ?_
  have M : Mo w w := Mo.refl _
  refine w_seq ?_
  refine w_reg ?_
  refine wl_box 26 (.tmp 0) (.agg #[.bool b, .int .u64 (l0 (n)), .int .u64 (l1 (n)), .int .u64 (l2 (n)), .int .u64 (l3 (n)), .int .i64 (s0)]) (#[.bool b, .int .u64 (l0 (n)), .int .u64 (l1 (n)), .int .u64 (l2 (n)), .int .u64 (l3 (n)), .int .i64 (s0)]) rfl rfl (fun _ => by kernel_rfl) rfl ?_
  intro k1 w1 hk hz hq Q1
  have N_k1 : w.heap.size ≤ k1 := by have := M.size; omega
  replace M := M.trans hq
  clear hk hz hq
  refine wl_mv (.const (.string ⟨#[]⟩)) (.string ⟨#[]⟩) (fun _ => rfl) rfl rfl ?_
  refine w_nil ?_
  refine xn_then ?_
  refine w_seq ?_
  refine w_seq ?_
  refine w_reg ?_
  refine wl_load 26 (.tmp 1) (pt k1 0) (.agg #[.bool b, .int .u64 (l0 (n)), .int .u64 (l1 (n)), .int .u64 (l2 (n)), .int .u64 (l3 (n)), .int .i64 (s0)]) rfl rfl (run_row Q1 26 0 6 [.bool b, .int .u64 (l0 (n)), .int .u64 (l1 (n)), .int .u64 (l2 (n)), .int .u64 (l3 (n)), .int .i64 (s0)] rfl Tryd.underlying26 rfl sz26) rfl ?_
  refine wl_call 19 [(.tmp 4)] _ [.agg #[.bool b, .int .u64 (l0 (n)), .int .u64 (l1 (n)), .int .u64 (l2 (n)), .int .u64 (l3 (n)), .int .i64 (s0)]] (.int .i64 (20)) rfl rfl (fun _ _ => by kernel_rfl) (rcheck_no b n s0 _ hn0 hnM hck) rfl ?_
  intro w2 hq
  replace Q1 := Q1.mo hq
  replace M := M.trans hq
  clear hq
  refine wl_bin (fun x y => do eqGuard .neq 30 (.tmp 5) (.const (.int .i64 (0))) x y; binOp .neq 30 x y) (.tmp 5) (.const (.int .i64 (0))) (.int .i64 (20)) (.int .i64 (0)) (.bool true) (fun _ => rfl) rfl rfl (V.neE (r := false) rfl _ _ _) rfl ?_
  refine w_nil ?_
  refine xn_then ?_
  refine w_condT rfl ?_
  refine w_seq ?_
  refine w_reg ?_
  refine wl_mv (.const (.string ⟨#[63]⟩)) (.string ⟨#[63]⟩) (fun _ => rfl) rfl rfl ?_
  refine w_nil ?_
  refine xn_then ?_
  refine w_ret ?_
  refine xr_then ?_
  exact w_ret1 _ (.string ⟨#[63]⟩) rfl rfl ⟨rfl, M⟩
theorem rtx_t0 (n : Int) (w : World) (hn0 : 0 ≤ n) (hnM : n < MM) (hck : ck true n ((0 : Nat) : Int) = 0) : Calls Tryd.prog 10 #[dc true n ((0 : Nat) : Int)] w fun e w' => e = .returned (tx (V.txt true n 0)) ∧ Mo w w' := by
  have hc0 : ((0 : Int) == 0) = true := rfl
  have hD : (V.dgs8 n).length ≤ 78 := by have := V.dgs8_len n; have e3 : (V.dgs8 n).length = (strOf (decF 78 n)).size := by8_len _; omega
  have hk0 : decide (((0 : Nat) : Int) > 0) = false := rfl
  refine w_enter 41 Tryd.func10 Tryd.ntmps10 rfl rfl ?_
  have M : Mo w w := Mo.refl _
  refine w_seq ?_
  refine w_reg ?_
  refine wl_box 26 (.tmp 0) (.agg #[.bool true, .int .u64 (l0 (n)), .int .u64 (l1 (n)), .int .u64 (l2 (n)), .int .u64 (l3 (n)), .int .i64 ((0 : Nat) : Int)]) (#[.bool true, .int .u64 (l0 (n)), .int .u64 (l1 (n)), .int .u64 (l2 (n)), .int .u64 (l3 (n)), .int .i64 ((0 : Nat) : Int)]) rfl rfl (fun _ => by kernel_rfl) rfl ?_
  intro k1 w1 hk hz hq Q1
  have N_k1 : w.heap.size ≤ k1 := by have := M.size; omega
  replace M := M.trans hq
  clear hk hz hq
  refine wl_mv (.const (.string ⟨#[]⟩)) (.string ⟨#[]⟩) (fun _ => rfl) rfl rfl ?_
  refine w_nil ?_
  refine xn_then ?_
  refine w_seq ?_
  refine w_seq ?_
  refine w_reg ?_
  refine wl_load 26 (.tmp 1) (pt k1 0) (.agg #[.bool true, .int .u64 (l0 (n)), .int .u64 (l1 (n)), .int .u64 (l2 (n)), .int .u64 (l3 (n)), .int .i64 ((0 : Nat) : Int)]) rfl rfl (run_row Q1 26 0 6 [.bool true, .int .u64 (l0 (n)), .int .u64 (l1 (n)), .int .u64 (l2 (n)), .int .u64 (l3 (n)), .int .i64 ((0 : Nat) : Int)] rfl Tryd.underlying26 rfl sz26) rfl ?_
  refine wl_call 19 [(.tmp 4)] _ [.agg #[.bool true, .int .u64 (l0 (n)), .int .u64 (l1 (n)), .int .u64 (l2 (n)), .int .u64 (l3 (n)), .int .i64 ((0 : Nat) : Int)]] (.int .i64 (0)) rfl rfl (fun _ _ => by kernel_rfl) (rcheck_ok true n ((0 : Nat) : Int) _ hn0 hnM hck) rfl ?_
  intro w2 hq
  replace Q1 := Q1.mo hq
  replace M := M.trans hq
  clear hq
  refine wl_bin (fun x y => do eqGuard .neq 30 (.tmp 5) (.const (.int .i64 (0))) x y; binOp .neq 30 x y) (.tmp 5) (.const (.int .i64 (0))) (.int .i64 (0)) (.int .i64 (0)) (.bool false) (fun _ => rfl) rfl rfl (V.neE (r := true) hc0 _ _ _) rfl ?_
  refine w_nil ?_
  refine xn_then ?_
  refine w_condF rfl ?_
  refine w_skip ?_
  refine xn_then ?_
  refine w_seq ?_
  refine w_reg ?_
  refine wl_un (fun v => Instr.fieldAt 26 v 1) (.tmp 1) (pt k1 0) (pt k1 1) (fun _ => rfl) rfl (by kernel_rfl) rfl ?_
  refine wl_load 24 (.tmp 7) (pt k1 1) (.agg #[.int .u64 (l0 (n)), .int .u64 (l1 (n)), .int .u64 (l2 (n)), .int .u64 (l3 (n))]) rfl rfl (run_row Q1 24 1 4 [.int .u64 (l0 (n)), .int .u64 (l1 (n)), .int .u64 (l2 (n)), .int .u64 (l3 (n))] rfl Tryd.underlying24 rfl sz24) rfl ?_
  refine wl_call 24 [(.tmp 8)] _ [.agg #[.int .u64 (l0 (n)), .int .u64 (l1 (n)), .int .u64 (l2 (n)), .int .u64 (l3 (n))]] (tx (V.dgs8 n)) rfl rfl (fun _ _ => by kernel_rfl) (rtext_n n _ hn0 hnM) rfl ?_
  intro w3 hq
  replace Q1 := Q1.mo hq
  replace M := M.trans hq
  clear hq
  refine wl_mv (.tmp 9) (tx (V.dgs8 n)) (fun _ => rfl) rfl rfl ?_
  refine w_nil ?_
  refine xn_then ?_
  refine w_seq ?_
  refine w_block ?_
  refine w_loop (fun m l w1 => ∃ dl : List UInt8, m = 0 + 1 - dl.length ∧ look l 1 = pt k1 0 ∧ look l 3 = tx dl ∧ LZ (V.dgs8 n) dl 0 ∧ At w1 k1 [.bool true, .int .u64 (l0 (n)), .int .u64 (l1 (n)), .int .u64 (l2 (n)), .int .u64 (l3 (n)), .int .i64 ((0 : Nat) : Int)] ∧ Mo w w1) _ ⟨V.dgs8 n, rfl, rfl, rfl, ⟨0, rfl, Or.inl rfl⟩, Q1, M⟩ ?_
  clear M Q1
  rintro m l wl ⟨dl, rfl, e1, e3, hz, Q1, M⟩
  have hb := hz.bound
  by_cases hlt : dl.length ≤ 0
  · have hle : decide ((dl.length : Int) ≤ ((0 : Nat) : Int)) = true := decide_eq_true (by omega)
    refine w_seq ?_
    refine w_seq ?_
    refine w_reg ?_
    refine wl_mv (.tmp 3) (tx dl) (fun _ => rfl) e3 rfl ?_
    refine wl_val (.int .i64 ((dl.length : Int))) (len_tx _ _ dl (by exact rfl) _ _ _ _ _ _) rfl ?_
    refine wl_un (fun v => Instr.fieldAt 26 v 2) (.tmp 1) (pt k1 0) (pt k1 5) (fun _ => rfl) e1 (by kernel_rfl) rfl ?_
    refine wl_load 3 (.tmp 12) (pt k1 5) (.int .i64 ((0 : Nat) : Int)) rfl rfl (run_one Q1 3 5 rfl Tryd.underlying3 rfl) rfl ?_
    refine wl_bin (fun x y => do eqGuard .leq 3 (.tmp 11) (.tmp 13) x y; binOp .leq 3 x y) (.tmp 11) (.tmp 13) (.int .i64 ((dl.length : Int))) (.int .i64 ((0 : Nat) : Int)) (.bool true) (fun _ => rfl) rfl rfl (leq3_run hle _ _ _) rfl ?_
    refine w_nil ?_
    refine xn_then ?_
    refine w_condT rfl ?_
    refine w_skip ?_
    refine xn_then ?_
    refine w_block ?_
    refine w_reg ?_
    refine wl_mv (.tmp 3) (tx dl) (fun _ => rfl) e3 rfl ?_
    refine wl_bin (fun x y => do eqGuard .add 9 (.const (.string ⟨#[48]⟩)) (.tmp 15) x y; binOp .add 9 x y) (.const (.string ⟨#[48]⟩)) (.tmp 15) (.string ⟨#[48]⟩) (tx dl) (tx (48 :: dl)) (fun _ => rfl) rfl rfl (catl_run [48] dl (by simp; omega) _ _ _) rfl ?_
    refine wl_mv (.tmp 16) (tx (48 :: dl)) (fun _ => rfl) rfl rfl ?_
    refine w_nil ?_
    refine xn_blk ?_
    exact xn_loop (0 + 1 - (48 :: dl).length) (by simp; omega) ⟨48 :: dl, rfl, e1, rfl, hz.step hlt, Q1, M⟩
  · have hle : decide ((dl.length : Int) ≤ ((0 : Nat) : Int)) = false := decide_eq_false (by omega)
    obtain ⟨c, hc⟩ : ∃ c, dl.length = 0 + c := ⟨dl.length - 0, by omega⟩
    have hfin := fin0 (hz.done hlt) true
    refine w_seq ?_
    refine w_seq ?_
    refine w_reg ?_
    refine wl_mv (.tmp 3) (tx dl) (fun _ => rfl) e3 rfl ?_
    refine wl_val (.int .i64 ((dl.length : Int))) (len_tx _ _ dl (by exact rfl) _ _ _ _ _ _) rfl ?_
    refine wl_un (fun v => Instr.fieldAt 26 v 2) (.tmp 1) (pt k1 0) (pt k1 5) (fun _ => rfl) e1 (by kernel_rfl) rfl ?_
    refine wl_load 3 (.tmp 12) (pt k1 5) (.int .i64 ((0 : Nat) : Int)) rfl rfl (run_one Q1 3 5 rfl Tryd.underlying3 rfl) rfl ?_
    refine wl_bin (fun x y => do eqGuard .leq 3 (.tmp 11) (.tmp 13) x y; binOp .leq 3 x y) (.tmp 11) (.tmp 13) (.int .i64 ((dl.length : Int))) (.int .i64 ((0 : Nat) : Int)) (.bool false) (fun _ => rfl) rfl rfl (leq3_run hle _ _ _) rfl ?_
    refine w_nil ?_
    refine xn_then ?_
    refine w_condF rfl ?_
    refine w_exit ?_
    refine xx_then ?_
    refine xx_then ?_
    refine xx_blk ?_
    refine xn_then ?_
    refine w_seq ?_
    refine w_seq ?_
    refine w_reg ?_
    refine wl_un (fun v => Instr.fieldAt 26 v 2) (.tmp 1) (pt k1 0) (pt k1 5) (fun _ => rfl) e1 (by kernel_rfl) rfl ?_
    refine wl_load 3 (.tmp 17) (pt k1 5) (.int .i64 ((0 : Nat) : Int)) rfl rfl (run_one Q1 3 5 rfl Tryd.underlying3 rfl) rfl ?_
    refine wl_bin (fun x y => do eqGuard .gtr 3 (.tmp 18) (.const (.int .i64 (0))) x y; binOp .gtr 3 x y) (.tmp 18) (.const (.int .i64 (0))) (.int .i64 ((0 : Nat) : Int)) (.int .i64 (0)) (.bool false) (fun _ => rfl) rfl rfl (gt3_run hk0 _ _ _) rfl ?_
    refine w_nil ?_
    refine xn_then ?_
    refine w_condF rfl ?_
    refine w_skip ?_
    refine xn_then ?_
    refine w_seq ?_
    refine w_seq ?_
    refine w_reg ?_
    refine wl_un (fun v => Instr.fieldAt 26 v 0) (.tmp 1) (pt k1 0) (pt k1 0) (fun _ => rfl) e1 (by kernel_rfl) rfl ?_
    refine wl_load 4 (.tmp 36) (pt k1 0) (.bool true) rfl rfl (run_one Q1 4 0 rfl Tryd.underlying4 rfl) rfl ?_
    refine w_nil ?_
    refine xn_then ?_
    refine w_condT rfl ?_
    refine w_reg ?_
    refine wl_mv (.tmp 3) (tx dl) (fun _ => rfl) e3 rfl ?_
    refine wl_bin (fun x y => do eqGuard .add 9 (.const (.string ⟨#[45]⟩)) (.tmp 38) x y; binOp .add 9 x y) (.const (.string ⟨#[45]⟩)) (.tmp 38) (.string ⟨#[45]⟩) (tx dl) (tx (45 :: dl)) (fun _ => rfl) rfl rfl (catl_run [45] dl (by simp; omega) _ _ _) rfl ?_
    refine wl_mv (.tmp 39) (tx (45 :: dl)) (fun _ => rfl) rfl rfl ?_
    refine w_nil ?_
    refine xn_then ?_
    refine w_seq ?_
    refine w_reg ?_
    refine wl_mv (.tmp 3) (tx (45 :: dl)) (fun _ => rfl) rfl rfl ?_
    refine wl_mv (.tmp 40) (tx (45 :: dl)) (fun _ => rfl) rfl rfl ?_
    refine w_nil ?_
    refine xn_then ?_
    refine w_ret ?_
    exact w_ret1 _ (tx (45 :: dl)) rfl rfl ⟨by rw [hfin]; rfl, M⟩
theorem rtx_t1 (n : Int) (k : Nat) (w : World) (hn0 : 0 ≤ n) (hnM : n < MM) (hk18 : k ≤ 18) (hkn : k ≠ 0) (hck : ck true n (k : Int) = 0) : Calls Tryd.prog 10 #[dc true n (k : Int)] w fun e w' => e = .returned (tx (V.txt true n k)) ∧ Mo w w' := by
  have hc0 : ((0 : Int) == 0) = true := rfl
  have hD : (V.dgs8 n).length ≤ 78 := by have := V.dgs8_len n; have e3 : (V.dgs8 n).length = (strOf (decF 78 n)).size := by8_len _; omega
  have hk0 : decide ((k : Int) > 0) = true := decide_eq_true (by omega)
  refine w_enter 41 Tryd.func10 Tryd.ntmps10 rfl rfl ?_
  have M : Mo w w := Mo.refl _
  refine w_seq ?_
  refine w_reg ?_
  refine wl_box 26 (.tmp 0) (.agg #[.bool true, .int .u64 (l0 (n)), .int .u64 (l1 (n)), .int .u64 (l2 (n)), .int .u64 (l3 (n)), .int .i64 (k : Int)]) (#[.bool true, .int .u64 (l0 (n)), .int .u64 (l1 (n)), .int .u64 (l2 (n)), .int .u64 (l3 (n)), .int .i64 (k : Int)]) rfl rfl (fun _ => by kernel_rfl) rfl ?_
  intro k1 w1 hk hz hq Q1
  have N_k1 : w.heap.size ≤ k1 := by have := M.size; omega
  replace M := M.trans hq
  clear hk hz hq
  refine wl_mv (.const (.string ⟨#[]⟩)) (.string ⟨#[]⟩) (fun _ => rfl) rfl rfl ?_
  refine w_nil ?_
  refine xn_then ?_
  refine w_seq ?_
  refine w_seq ?_
  refine w_reg ?_
  refine wl_load 26 (.tmp 1) (pt k1 0) (.agg #[.bool true, .int .u64 (l0 (n)), .int .u64 (l1 (n)), .int .u64 (l2 (n)), .int .u64 (l3 (n)), .int .i64 (k : Int)]) rfl rfl (run_row Q1 26 0 6 [.bool true, .int .u64 (l0 (n)), .int .u64 (l1 (n)), .int .u64 (l2 (n)), .int .u64 (l3 (n)), .int .i64 (k : Int)] rfl Tryd.underlying26 rfl sz26) rfl ?_
  refine wl_call 19 [(.tmp 4)] _ [.agg #[.bool true, .int .u64 (l0 (n)), .int .u64 (l1 (n)), .int .u64 (l2 (n)), .int .u64 (l3 (n)), .int .i64 (k : Int)]] (.int .i64 (0)) rfl rfl (fun _ _ => by kernel_rfl) (rcheck_ok true n (k : Int) _ hn0 hnM hck) rfl ?_
  intro w2 hq
  replace Q1 := Q1.mo hq
  replace M := M.trans hq
  clear hq
  refine wl_bin (fun x y => do eqGuard .neq 30 (.tmp 5) (.const (.int .i64 (0))) x y; binOp .neq 30 x y) (.tmp 5) (.const (.int .i64 (0))) (.int .i64 (0)) (.int .i64 (0)) (.bool false) (fun _ => rfl) rfl rfl (V.neE (r := true) hc0 _ _ _) rfl ?_
  refine w_nil ?_
  refine xn_then ?_
  refine w_condF rfl ?_
  refine w_skip ?_
  refine xn_then ?_
  refine w_seq ?_
  refine w_reg ?_
  refine wl_un (fun v => Instr.fieldAt 26 v 1) (.tmp 1) (pt k1 0) (pt k1 1) (fun _ => rfl) rfl (by kernel_rfl) rfl ?_
  refine wl_load 24 (.tmp 7) (pt k1 1) (.agg #[.int .u64 (l0 (n)), .int .u64 (l1 (n)), .int .u64 (l2 (n)), .int .u64 (l3 (n))]) rfl rfl (run_row Q1 24 1 4 [.int .u64 (l0 (n)), .int .u64 (l1 (n)), .int .u64 (l2 (n)), .int .u64 (l3 (n))] rfl Tryd.underlying24 rfl sz24) rfl ?_
  refine wl_call 24 [(.tmp 8)] _ [.agg #[.int .u64 (l0 (n)), .int .u64 (l1 (n)), .int .u64 (l2 (n)), .int .u64 (l3 (n))]] (tx (V.dgs8 n)) rfl rfl (fun _ _ => by kernel_rfl) (rtext_n n _ hn0 hnM) rfl ?_
  intro w3 hq
  replace Q1 := Q1.mo hq
  replace M := M.trans hq
  clear hq
  refine wl_mv (.tmp 9) (tx (V.dgs8 n)) (fun _ => rfl) rfl rfl ?_
  refine w_nil ?_
  refine xn_then ?_
  refine w_seq ?_
  refine w_block ?_
  refine w_loop (fun m l w1 => ∃ dl : List UInt8, m = k + 1 - dl.length ∧ look l 1 = pt k1 0 ∧ look l 3 = tx dl ∧ LZ (V.dgs8 n) dl k ∧ At w1 k1 [.bool true, .int .u64 (l0 (n)), .int .u64 (l1 (n)), .int .u64 (l2 (n)), .int .u64 (l3 (n)), .int .i64 (k : Int)] ∧ Mo w w1) _ ⟨V.dgs8 n, rfl, rfl, rfl, ⟨0, rfl, Or.inl rfl⟩, Q1, M⟩ ?_
  clear M Q1
  rintro m l wl ⟨dl, rfl, e1, e3, hz, Q1, M⟩
  have hb := hz.bound
  by_cases hlt : dl.length ≤ k
  · have hle : decide ((dl.length : Int) ≤ (k : Int)) = true := decide_eq_true (by omega)
    refine w_seq ?_
    refine w_seq ?_
    refine w_reg ?_
    refine wl_mv (.tmp 3) (tx dl) (fun _ => rfl) e3 rfl ?_
    refine wl_val (.int .i64 ((dl.length : Int))) (len_tx _ _ dl (by exact rfl) _ _ _ _ _ _) rfl ?_
    refine wl_un (fun v => Instr.fieldAt 26 v 2) (.tmp 1) (pt k1 0) (pt k1 5) (fun _ => rfl) e1 (by kernel_rfl) rfl ?_
    refine wl_load 3 (.tmp 12) (pt k1 5) (.int .i64 (k : Int)) rfl rfl (run_one Q1 3 5 rfl Tryd.underlying3 rfl) rfl ?_
    refine wl_bin (fun x y => do eqGuard .leq 3 (.tmp 11) (.tmp 13) x y; binOp .leq 3 x y) (.tmp 11) (.tmp 13) (.int .i64 ((dl.length : Int))) (.int .i64 (k : Int)) (.bool true) (fun _ => rfl) rfl rfl (leq3_run hle _ _ _) rfl ?_
    refine w_nil ?_
    refine xn_then ?_
    refine w_condT rfl ?_
    refine w_skip ?_
    refine xn_then ?_
    refine w_block ?_
    refine w_reg ?_
    refine wl_mv (.tmp 3) (tx dl) (fun _ => rfl) e3 rfl ?_
    refine wl_bin (fun x y => do eqGuard .add 9 (.const (.string ⟨#[48]⟩)) (.tmp 15) x y; binOp .add 9 x y) (.const (.string ⟨#[48]⟩)) (.tmp 15) (.string ⟨#[48]⟩) (tx dl) (tx (48 :: dl)) (fun _ => rfl) rfl rfl (catl_run [48] dl (by simp; omega) _ _ _) rfl ?_
    refine wl_mv (.tmp 16) (tx (48 :: dl)) (fun _ => rfl) rfl rfl ?_
    refine w_nil ?_
    refine xn_blk ?_
    exact xn_loop (k + 1 - (48 :: dl).length) (by simp; omega) ⟨48 :: dl, rfl, e1, rfl, hz.step hlt, Q1, M⟩
  · have hle : decide ((dl.length : Int) ≤ (k : Int)) = false := decide_eq_false (by omega)
    obtain ⟨c, hc⟩ : ∃ c, dl.length = k + c := ⟨dl.length - k, by omega⟩
    have hfin := fink hkn (hz.done hlt) hc true
    refine w_seq ?_
    refine w_seq ?_
    refine w_reg ?_
    refine wl_mv (.tmp 3) (tx dl) (fun _ => rfl) e3 rfl ?_
    refine wl_val (.int .i64 ((dl.length : Int))) (len_tx _ _ dl (by exact rfl) _ _ _ _ _ _) rfl ?_
    refine wl_un (fun v => Instr.fieldAt 26 v 2) (.tmp 1) (pt k1 0) (pt k1 5) (fun _ => rfl) e1 (by kernel_rfl) rfl ?_
    refine wl_load 3 (.tmp 12) (pt k1 5) (.int .i64 (k : Int)) rfl rfl (run_one Q1 3 5 rfl Tryd.underlying3 rfl) rfl ?_
    refine wl_bin (fun x y => do eqGuard .leq 3 (.tmp 11) (.tmp 13) x y; binOp .leq 3 x y) (.tmp 11) (.tmp 13) (.int .i64 ((dl.length : Int))) (.int .i64 (k : Int)) (.bool false) (fun _ => rfl) rfl rfl (leq3_run hle _ _ _) rfl ?_
    refine w_nil ?_
    refine xn_then ?_
    refine w_condF rfl ?_
    refine w_exit ?_
    refine xx_then ?_
    refine xx_then ?_
    refine xx_blk ?_
    refine xn_then ?_
    refine w_seq ?_
    refine w_seq ?_
    refine w_reg ?_
    refine wl_un (fun v => Instr.fieldAt 26 v 2) (.tmp 1) (pt k1 0) (pt k1 5) (fun _ => rfl) e1 (by kernel_rfl) rfl ?_
    refine wl_load 3 (.tmp 17) (pt k1 5) (.int .i64 (k : Int)) rfl rfl (run_one Q1 3 5 rfl Tryd.underlying3 rfl) rfl ?_
    refine wl_bin (fun x y => do eqGuard .gtr 3 (.tmp 18) (.const (.int .i64 (0))) x y; binOp .gtr 3 x y) (.tmp 18) (.const (.int .i64 (0))) (.int .i64 (k : Int)) (.int .i64 (0)) (.bool true) (fun _ => rfl) rfl rfl (gt3_run hk0 _ _ _) rfl ?_
    refine w_nil ?_
    refine xn_then ?_
    refine w_condT rfl ?_
    refine w_any 15 [.inl (tx dl), .inl (tx dl), .inl (.int .i64 ((dl.length : Int))), .inl (pt k1 5), .inl (.int .i64 (k : Int)), .inl (.int .i64 ((c : Int))), .inl (tx (dl.take c)), .inl (tx (dl.take c ++ [46])), .inl (tx dl), .inl (tx dl), .inl (.int .i64 ((dl.length : Int))), .inl (pt k1 5), .inl (.int .i64 (k : Int)), .inl (.int .i64 ((c : Int))), .inl (tx (dl.drop c))] [] (by kernel_rfl) (by kernel_rfl) (by kernel_rfl) (by kernel_rfl) rfl (by kernel_rfl) (by kernel_rfl) late_nil ?_ ?_ ?_
    · exact Ds.none rfl
    · refine ea_cons ?_ (ea_cons ?_ (ea_cons ?_ (ea_cons ?_ (ea_cons ?_ (ea_cons ?_ (ea_cons ?_ (ea_cons ?_ (ea_cons ?_ (ea_cons ?_ (ea_cons ?_ (ea_cons ?_ (ea_cons ?_ (ea_cons ?_ (ea_cons ?_ (ea_nil)))))))))))))))
      · exact og_eq (tx dl) rfl (fun f wf hq hd K hK => go_run rfl (wo_mv (.tmp 3) (tx dl) (fun _ => rfl) e3 (hK _ (Mo.refl _))))
      · exact og_eq (tx dl) rfl (fun f wf hq hd K hK => go_run rfl (wo_mv (.tmp 3) (tx dl) (fun _ => rfl) e3 (hK _ (Mo.refl _))))
      · exact og_eq (.int .i64 ((dl.length : Int))) rfl (fun f wf hq hd K hK => go_run rfl (wo_val (.int .i64 ((dl.length : Int))) (len_tx _ _ dl (by exact (hd 1 rfl)) _ _ _ _ _ _) (hK _ (Mo.refl _))))
      · exact og_eq (pt k1 5) rfl (fun f wf hq hd K hK => go_run rfl (wo_un (fun v => Instr.fieldAt 26 v 2) (.tmp 1) (pt k1 0) (pt k1 5) (fun _ => rfl) e1 (by kernel_rfl) (hK _ (Mo.refl _))))
      · exact og_eq (.int .i64 (k : Int)) rfl (fun f wf hq hd K hK => have Q1 := Q1.mo hq; go_run rfl (wo_load 3 (.tmp 23) (pt k1 5) (.int .i64 (k : Int)) rfl (hd 3 rfl) (run_one Q1 3 5 rfl Tryd.underlying3 rfl) (hK _ (Mo.refl _))))
      · exact og_eq (.int .i64 ((c : Int))) rfl (fun f wf hq hd K hK => go_run rfl (wo_bin (fun x y => do eqGuard .sub 3 (.tmp 22) (.tmp 24) x y; binOp .sub 3 x y) (.tmp 22) (.tmp 24) (.int .i64 ((dl.length : Int))) (.int .i64 (k : Int)) (.int .i64 ((c : Int))) (fun _ => rfl) (hd 2 rfl) (hd 4 rfl) (sub3_run hc (by omega) _ _ _) (hK _ (Mo.refl _))))
      · exact og_eq (tx (dl.take c)) rfl (fun f wf hq hd K hK => go_run rfl (wo_val (tx (dl.take c)) (hi_run _ _ _ dl c (by exact (hd 0 rfl)) (by exact (hd 5 rfl)) (by omega) _ _ _ _ _ _) (hK _ (Mo.refl _))))
      · exact og_eq (tx (dl.take c ++ [46])) rfl (fun f wf hq hd K hK => go_run rfl (wo_bin (fun x y => do eqGuard .add 9 (.tmp 26) (.const (.string ⟨#[46]⟩)) x y; binOp .add 9 x y) (.tmp 26) (.const (.string ⟨#[46]⟩)) (tx (dl.take c)) (.string ⟨#[46]⟩) (tx (dl.take c ++ [46])) (fun _ => rfl) (hd 6 rfl) rfl (catl_run (dl.take c) [46] (by simp; omega) _ _ _) (hK _ (Mo.refl _))))
      · exact og_eq (tx dl) rfl (fun f wf hq hd K hK => go_run rfl (wo_mv (.tmp 3) (tx dl) (fun _ => rfl) e3 (hK _ (Mo.refl _))))
      · exact og_eq (tx dl) rfl (fun f wf hq hd K hK => go_run rfl (wo_mv (.tmp 3) (tx dl) (fun _ => rfl) e3 (hK _ (Mo.refl _))))
      · exact og_eq (.int .i64 ((dl.length : Int))) rfl (fun f wf hq hd K hK => go_run rfl (wo_val (.int .i64 ((dl.length : Int))) (len_tx _ _ dl (by exact (hd 9 rfl)) _ _ _ _ _ _) (hK _ (Mo.refl _))))
      · exact og_eq (pt k1 5) rfl (fun f wf hq hd K hK => go_run rfl (wo_un (fun v => Instr.fieldAt 26 v 2) (.tmp 1) (pt k1 0) (pt k1 5) (fun _ => rfl) e1 (by kernel_rfl) (hK _ (Mo.refl _))))
      · exact og_eq (.int .i64 (k : Int)) rfl (fun f wf hq hd K hK => have Q1 := Q1.mo hq; go_run rfl (wo_load 3 (.tmp 31) (pt k1 5) (.int .i64 (k : Int)) rfl (hd 11 rfl) (run_one Q1 3 5 rfl Tryd.underlying3 rfl) (hK _ (Mo.refl _))))
      · exact og_eq (.int .i64 ((c : Int))) rfl (fun f wf hq hd K hK => go_run rfl (wo_bin (fun x y => do eqGuard .sub 3 (.tmp 30) (.tmp 32) x y; binOp .sub 3 x y) (.tmp 30) (.tmp 32) (.int .i64 ((dl.length : Int))) (.int .i64 (k : Int)) (.int .i64 ((c : Int))) (fun _ => rfl) (hd 10 rfl) (hd 12 rfl) (sub3_run hc (by omega) _ _ _) (hK _ (Mo.refl _))))
      · exact og_eq (tx (dl.drop c)) rfl (fun f wf hq hd K hK => go_run rfl (wo_val (tx (dl.drop c)) (lo_run _ _ _ dl c (by exact (hd 8 rfl)) (by exact (hd 13 rfl)) (by omega) _ _ _ _ _ _) (hK _ (Mo.refl _))))
    intro kf21 w21 hq hR hne
    replace Q1 := Q1.mo hq
    replace M := M.trans hq
    clear hq hR hne
    refine wl_bin (fun x y => do eqGuard .add 9 (.tmp 27) (.tmp 34) x y; binOp .add 9 x y) (.tmp 27) (.tmp 34) (tx (dl.take c ++ [46])) (tx (dl.drop c)) (tx (dl.take c ++ [46] ++ dl.drop c)) (fun _ => rfl) rfl rfl (catl_run (dl.take c ++ [46]) (dl.drop c) (by simp; omega) _ _ _) rfl ?_
    refine wl_mv (.tmp 35) (tx (dl.take c ++ [46] ++ dl.drop c)) (fun _ => rfl) rfl rfl ?_
    refine w_nil ?_
    refine xn_then ?_
    refine w_seq ?_
    refine w_seq ?_
    refine w_reg ?_
    refine wl_un (fun v => Instr.fieldAt 26 v 0) (.tmp 1) (pt k1 0) (pt k1 0) (fun _ => rfl) e1 (by kernel_rfl) rfl ?_
    refine wl_load 4 (.tmp 36) (pt k1 0) (.bool true) rfl rfl (run_one Q1 4 0 rfl Tryd.underlying4 rfl) rfl ?_
    refine w_nil ?_
    refine xn_then ?_
    refine w_condT rfl ?_
    refine w_reg ?_
    refine wl_mv (.tmp 3) (tx (dl.take c ++ [46] ++ dl.drop c)) (fun _ => rfl) rfl rfl ?_
    refine wl_bin (fun x y => do eqGuard .add 9 (.const (.string ⟨#[45]⟩)) (.tmp 38) x y; binOp .add 9 x y) (.const (.string ⟨#[45]⟩)) (.tmp 38) (.string ⟨#[45]⟩) (tx (dl.take c ++ [46] ++ dl.drop c)) (tx ([45] ++ (dl.take c ++ [46] ++ dl.drop c))) (fun _ => rfl) rfl rfl (catl_run [45] (dl.take c ++ [46] ++ dl.drop c) (by simp; omega) _ _ _) rfl ?_
    refine wl_mv (.tmp 39) (tx ([45] ++ (dl.take c ++ [46] ++ dl.drop c))) (fun _ => rfl) rfl rfl ?_
    refine w_nil ?_
    refine xn_then ?_
    refine w_seq ?_
    refine w_reg ?_
    refine wl_mv (.tmp 3) (tx ([45] ++ (dl.take c ++ [46] ++ dl.drop c))) (fun _ => rfl) rfl rfl ?_
    refine wl_mv (.tmp 40) (tx ([45] ++ (dl.take c ++ [46] ++ dl.drop c))) (fun _ => rfl) rfl rfl ?_
    refine w_nil ?_
    refine xn_then ?_
    refine w_ret ?_
    exact w_ret1 _ (tx ([45] ++ (dl.take c ++ [46] ++ dl.drop c))) rfl rfl ⟨by rw [hfin]; rfl, M⟩
theorem rtx_f0 (n : Int) (w : World) (hn0 : 0 ≤ n) (hnM : n < MM) (hck : ck false n ((0 : Nat) : Int) = 0) : Calls Tryd.prog 10 #[dc false n ((0 : Nat) : Int)] w fun e w' => e = .returned (tx (V.txt false n 0)) ∧ Mo w w' := by
  have hc0 : ((0 : Int) == 0) = true := rfl
  have hD : (V.dgs8 n).length ≤ 78 := by have := V.dgs8_len n; have e3 : (V.dgs8 n).length = (strOf (decF 78 n)).size := by8_len _; omega
  have hk0 : decide (((0 : Nat) : Int) > 0) = false := rfl
  refine w_enter 41 Tryd.func10 Tryd.ntmps10 rfl rfl ?_
  have M : Mo w w := Mo.refl _
  refine w_seq ?_
  refine w_reg ?_
  refine wl_box 26 (.tmp 0) (.agg #[.bool false, .int .u64 (l0 (n)), .int .u64 (l1 (n)), .int .u64 (l2 (n)), .int .u64 (l3 (n)), .int .i64 ((0 : Nat) : Int)]) (#[.bool false, .int .u64 (l0 (n)), .int .u64 (l1 (n)), .int .u64 (l2 (n)), .int .u64 (l3 (n)), .int .i64 ((0 : Nat) : Int)]) rfl rfl (fun _ => by kernel_rfl) rfl ?_
  intro k1 w1 hk hz hq Q1
  have N_k1 : w.heap.size ≤ k1 := by have := M.size; omega
  replace M := M.trans hq
  clear hk hz hq
  refine wl_mv (.const (.string ⟨#[]⟩)) (.string ⟨#[]⟩) (fun _ => rfl) rfl rfl ?_
  refine w_nil ?_
  refine xn_then ?_
  refine w_seq ?_
  refine w_seq ?_
  refine w_reg ?_
  refine wl_load 26 (.tmp 1) (pt k1 0) (.agg #[.bool false, .int .u64 (l0 (n)), .int .u64 (l1 (n)), .int .u64 (l2 (n)), .int .u64 (l3 (n)), .int .i64 ((0 : Nat) : Int)]) rfl rfl (run_row Q1 26 0 6 [.bool false, .int .u64 (l0 (n)), .int .u64 (l1 (n)), .int .u64 (l2 (n)), .int .u64 (l3 (n)), .int .i64 ((0 : Nat) : Int)] rfl Tryd.underlying26 rfl sz26) rfl ?_
  refine wl_call 19 [(.tmp 4)] _ [.agg #[.bool false, .int .u64 (l0 (n)), .int .u64 (l1 (n)), .int .u64 (l2 (n)), .int .u64 (l3 (n)), .int .i64 ((0 : Nat) : Int)]] (.int .i64 (0)) rfl rfl (fun _ _ => by kernel_rfl) (rcheck_ok false n ((0 : Nat) : Int) _ hn0 hnM hck) rfl ?_
  intro w2 hq
  replace Q1 := Q1.mo hq
  replace M := M.trans hq
  clear hq
  refine wl_bin (fun x y => do eqGuard .neq 30 (.tmp 5) (.const (.int .i64 (0))) x y; binOp .neq 30 x y) (.tmp 5) (.const (.int .i64 (0))) (.int .i64 (0)) (.int .i64 (0)) (.bool false) (fun _ => rfl) rfl rfl (V.neE (r := true) hc0 _ _ _) rfl ?_
  refine w_nil ?_
  refine xn_then ?_
  refine w_condF rfl ?_
  refine w_skip ?_
  refine xn_then ?_
  refine w_seq ?_
  refine w_reg ?_
  refine wl_un (fun v => Instr.fieldAt 26 v 1) (.tmp 1) (pt k1 0) (pt k1 1) (fun _ => rfl) rfl (by kernel_rfl) rfl ?_
  refine wl_load 24 (.tmp 7) (pt k1 1) (.agg #[.int .u64 (l0 (n)), .int .u64 (l1 (n)), .int .u64 (l2 (n)), .int .u64 (l3 (n))]) rfl rfl (run_row Q1 24 1 4 [.int .u64 (l0 (n)), .int .u64 (l1 (n)), .int .u64 (l2 (n)), .int .u64 (l3 (n))] rfl Tryd.underlying24 rfl sz24) rfl ?_
  refine wl_call 24 [(.tmp 8)] _ [.agg #[.int .u64 (l0 (n)), .int .u64 (l1 (n)), .int .u64 (l2 (n)), .int .u64 (l3 (n))]] (tx (V.dgs8 n)) rfl rfl (fun _ _ => by kernel_rfl) (rtext_n n _ hn0 hnM) rfl ?_
  intro w3 hq
  replace Q1 := Q1.mo hq
  replace M := M.trans hq
  clear hq
  refine wl_mv (.tmp 9) (tx (V.dgs8 n)) (fun _ => rfl) rfl rfl ?_
  refine w_nil ?_
  refine xn_then ?_
  refine w_seq ?_
  refine w_block ?_
  refine w_loop (fun m l w1 => ∃ dl : List UInt8, m = 0 + 1 - dl.length ∧ look l 1 = pt k1 0 ∧ look l 3 = tx dl ∧ LZ (V.dgs8 n) dl 0 ∧ At w1 k1 [.bool false, .int .u64 (l0 (n)), .int .u64 (l1 (n)), .int .u64 (l2 (n)), .int .u64 (l3 (n)), .int .i64 ((0 : Nat) : Int)] ∧ Mo w w1) _ ⟨V.dgs8 n, rfl, rfl, rfl, ⟨0, rfl, Or.inl rfl⟩, Q1, M⟩ ?_
  clear M Q1
  rintro m l wl ⟨dl, rfl, e1, e3, hz, Q1, M⟩
  have hb := hz.bound
  by_cases hlt : dl.length ≤ 0
  · have hle : decide ((dl.length : Int) ≤ ((0 : Nat) : Int)) = true := decide_eq_true (by omega)
    refine w_seq ?_
    refine w_seq ?_
    refine w_reg ?_
    refine wl_mv (.tmp 3) (tx dl) (fun _ => rfl) e3 rfl ?_
    refine wl_val (.int .i64 ((dl.length : Int))) (len_tx _ _ dl (by exact rfl) _ _ _ _ _ _) rfl ?_
    refine wl_un (fun v => Instr.fieldAt 26 v 2) (.tmp 1) (pt k1 0) (pt k1 5) (fun _ => rfl) e1 (by kernel_rfl) rfl ?_
    refine wl_load 3 (.tmp 12) (pt k1 5) (.int .i64 ((0 : Nat) : Int)) rfl rfl (run_one Q1 3 5 rfl Tryd.underlying3 rfl) rfl ?_
    refine wl_bin (fun x y => do eqGuard .leq 3 (.tmp 11) (.tmp 13) x y; binOp .leq 3 x y) (.tmp 11) (.tmp 13) (.int .i64 ((dl.length : Int))) (.int .i64 ((0 : Nat) : Int)) (.bool true) (fun _ => rfl) rfl rfl (leq3_run hle _ _ _) rfl ?_
    refine w_nil ?_
    refine xn_then ?_
    refine w_condT rfl ?_
    refine w_skip ?_
    refine xn_then ?_
    refine w_block ?_
    refine w_reg ?_
    refine wl_mv (.tmp 3) (tx dl) (fun _ => rfl) e3 rfl ?_
    refine wl_bin (fun x y => do eqGuard .add 9 (.const (.string ⟨#[48]⟩)) (.tmp 15) x y; binOp .add 9 x y) (.const (.string ⟨#[48]⟩)) (.tmp 15) (.string ⟨#[48]⟩) (tx dl) (tx (48 :: dl)) (fun _ => rfl) rfl rfl (catl_run [48] dl (by simp; omega) _ _ _) rfl ?_
    refine wl_mv (.tmp 16) (tx (48 :: dl)) (fun _ => rfl) rfl rfl ?_
    refine w_nil ?_
    refine xn_blk ?_
    exact xn_loop (0 + 1 - (48 :: dl).length) (by simp; omega) ⟨48 :: dl, rfl, e1, rfl, hz.step hlt, Q1, M⟩
  · have hle : decide ((dl.length : Int) ≤ ((0 : Nat) : Int)) = false := decide_eq_false (by omega)
    obtain ⟨c, hc⟩ : ∃ c, dl.length = 0 + c := ⟨dl.length - 0, by omega⟩
    have hfin := fin0 (hz.done hlt) false
    refine w_seq ?_
    refine w_seq ?_
    refine w_reg ?_
    refine wl_mv (.tmp 3) (tx dl) (fun _ => rfl) e3 rfl ?_
    refine wl_val (.int .i64 ((dl.length : Int))) (len_tx _ _ dl (by exact rfl) _ _ _ _ _ _) rfl ?_
    refine wl_un (fun v => Instr.fieldAt 26 v 2) (.tmp 1) (pt k1 0) (pt k1 5) (fun _ => rfl) e1 (by kernel_rfl) rfl ?_
    refine wl_load 3 (.tmp 12) (pt k1 5) (.int .i64 ((0 : Nat) : Int)) rfl rfl (run_one Q1 3 5 rfl Tryd.underlying3 rfl) rfl ?_
    refine wl_bin (fun x y => do eqGuard .leq 3 (.tmp 11) (.tmp 13) x y; binOp .leq 3 x y) (.tmp 11) (.tmp 13) (.int .i64 ((dl.length : Int))) (.int .i64 ((0 : Nat) : Int)) (.bool false) (fun _ => rfl) rfl rfl (leq3_run hle _ _ _) rfl ?_
    refine w_nil ?_
    refine xn_then ?_
    refine w_condF rfl ?_
    refine w_exit ?_
    refine xx_then ?_
    refine xx_then ?_
    refine xx_blk ?_
    refine xn_then ?_
    refine w_seq ?_
    refine w_seq ?_
    refine w_reg ?_
    refine wl_un (fun v => Instr.fieldAt 26 v 2) (.tmp 1) (pt k1 0) (pt k1 5) (fun _ => rfl) e1 (by kernel_rfl) rfl ?_
    refine wl_load 3 (.tmp 17) (pt k1 5) (.int .i64 ((0 : Nat) : Int)) rfl rfl (run_one Q1 3 5 rfl Tryd.underlying3 rfl) rfl ?_
    refine wl_bin (fun x y => do eqGuard .gtr 3 (.tmp 18) (.const (.int .i64 (0))) x y; binOp .gtr 3 x y) (.tmp 18) (.const (.int .i64 (0))) (.int .i64 ((0 : Nat) : Int)) (.int .i64 (0)) (.bool false) (fun _ => rfl) rfl rfl (gt3_run hk0 _ _ _) rfl ?_
    refine w_nil ?_
    refine xn_then ?_
    refine w_condF rfl ?_
    refine w_skip ?_
    refine xn_then ?_
    refine w_seq ?_
    refine w_seq ?_
    refine w_reg ?_
    refine wl_un (fun v => Instr.fieldAt 26 v 0) (.tmp 1) (pt k1 0) (pt k1 0) (fun _ => rfl) e1 (by kernel_rfl) rfl ?_
    refine wl_load 4 (.tmp 36) (pt k1 0) (.bool false) rfl rfl (run_one Q1 4 0 rfl Tryd.underlying4 rfl) rfl ?_
    refine w_nil ?_
    refine xn_then ?_
    refine w_condF rfl ?_
    refine w_skip ?_
    refine xn_then ?_
    refine w_seq ?_
    refine w_reg ?_
    refine wl_mv (.tmp 3) (tx dl) (fun _ => rfl) e3 rfl ?_
    refine wl_mv (.tmp 40) (tx dl) (fun _ => rfl) rfl rfl ?_
    refine w_nil ?_
    refine xn_then ?_
    refine w_ret ?_
    exact w_ret1 _ (tx dl) rfl rfl ⟨by rw [hfin]; rfl, M⟩
theorem rtx_f1 (n : Int) (k : Nat) (w : World) (hn0 : 0 ≤ n) (hnM : n < MM) (hk18 : k ≤ 18) (hkn : k ≠ 0) (hck : ck false n (k : Int) = 0) : Calls Tryd.prog 10 #[dc false n (k : Int)] w fun e w' => e = .returned (tx (V.txt false n k)) ∧ Mo w w' := by
  have hc0 : ((0 : Int) == 0) = true := rfl
  have hD : (V.dgs8 n).length ≤ 78 := by have := V.dgs8_len n; have e3 : (V.dgs8 n).length = (strOf (decF 78 n)).size := by8_len _; omega
  have hk0 : decide ((k : Int) > 0) = true := decide_eq_true (by omega)
  refine w_enter 41 Tryd.func10 Tryd.ntmps10 rfl rfl ?_
  have M : Mo w w := Mo.refl _
  refine w_seq ?_
  refine w_reg ?_
  refine wl_box 26 (.tmp 0) (.agg #[.bool false, .int .u64 (l0 (n)), .int .u64 (l1 (n)), .int .u64 (l2 (n)), .int .u64 (l3 (n)), .int .i64 (k : Int)]) (#[.bool false, .int .u64 (l0 (n)), .int .u64 (l1 (n)), .int .u64 (l2 (n)), .int .u64 (l3 (n)), .int .i64 (k : Int)]) rfl rfl (fun _ => by kernel_rfl) rfl ?_
  intro k1 w1 hk hz hq Q1
  have N_k1 : w.heap.size ≤ k1 := by have := M.size; omega
  replace M := M.trans hq
  clear hk hz hq
  refine wl_mv (.const (.string ⟨#[]⟩)) (.string ⟨#[]⟩) (fun _ => rfl) rfl rfl ?_
  refine w_nil ?_
  refine xn_then ?_
  refine w_seq ?_
  refine w_seq ?_
  refine w_reg ?_
  refine wl_load 26 (.tmp 1) (pt k1 0) (.agg #[.bool false, .int .u64 (l0 (n)), .int .u64 (l1 (n)), .int .u64 (l2 (n)), .int .u64 (l3 (n)), .int .i64 (k : Int)]) rfl rfl (run_row Q1 26 0 6 [.bool false, .int .u64 (l0 (n)), .int .u64 (l1 (n)), .int .u64 (l2 (n)), .int .u64 (l3 (n)), .int .i64 (k : Int)] rfl Tryd.underlying26 rfl sz26) rfl ?_
  refine wl_call 19 [(.tmp 4)] _ [.agg #[.bool false, .int .u64 (l0 (n)), .int .u64 (l1 (n)), .int .u64 (l2 (n)), .int .u64 (l3 (n)), .int .i64 (k : Int)]] (.int .i64 (0)) rfl rfl (fun _ _ => by kernel_rfl) (rcheck_ok false n (k : Int) _ hn0 hnM hck) rfl ?_
  intro w2 hq
  replace Q1 := Q1.mo hq
  replace M := M.trans hq
  clear hq
  refine wl_bin (fun x y => do eqGuard .neq 30 (.tmp 5) (.const (.int .i64 (0))) x y; binOp .neq 30 x y) (.tmp 5) (.const (.int .i64 (0))) (.int .i64 (0)) (.int .i64 (0)) (.bool false) (fun _ => rfl) rfl rfl (V.neE (r := true) hc0 _ _ _) rfl ?_
  refine w_nil ?_
  refine xn_then ?_
  refine w_condF rfl ?_
  refine w_skip ?_
  refine xn_then ?_
  refine w_seq ?_
  refine w_reg ?_
  refine wl_un (fun v => Instr.fieldAt 26 v 1) (.tmp 1) (pt k1 0) (pt k1 1) (fun _ => rfl) rfl (by kernel_rfl) rfl ?_
  refine wl_load 24 (.tmp 7) (pt k1 1) (.agg #[.int .u64 (l0 (n)), .int .u64 (l1 (n)), .int .u64 (l2 (n)), .int .u64 (l3 (n))]) rfl rfl (run_row Q1 24 1 4 [.int .u64 (l0 (n)), .int .u64 (l1 (n)), .int .u64 (l2 (n)), .int .u64 (l3 (n))] rfl Tryd.underlying24 rfl sz24) rfl ?_
  refine wl_call 24 [(.tmp 8)] _ [.agg #[.int .u64 (l0 (n)), .int .u64 (l1 (n)), .int .u64 (l2 (n)), .int .u64 (l3 (n))]] (tx (V.dgs8 n)) rfl rfl (fun _ _ => by kernel_rfl) (rtext_n n _ hn0 hnM) rfl ?_
  intro w3 hq
  replace Q1 := Q1.mo hq
  replace M := M.trans hq
  clear hq
  refine wl_mv (.tmp 9) (tx (V.dgs8 n)) (fun _ => rfl) rfl rfl ?_
  refine w_nil ?_
  refine xn_then ?_
  refine w_seq ?_
  refine w_block ?_
  refine w_loop (fun m l w1 => ∃ dl : List UInt8, m = k + 1 - dl.length ∧ look l 1 = pt k1 0 ∧ look l 3 = tx dl ∧ LZ (V.dgs8 n) dl k ∧ At w1 k1 [.bool false, .int .u64 (l0 (n)), .int .u64 (l1 (n)), .int .u64 (l2 (n)), .int .u64 (l3 (n)), .int .i64 (k : Int)] ∧ Mo w w1) _ ⟨V.dgs8 n, rfl, rfl, rfl, ⟨0, rfl, Or.inl rfl⟩, Q1, M⟩ ?_
  clear M Q1
  rintro m l wl ⟨dl, rfl, e1, e3, hz, Q1, M⟩
  have hb := hz.bound
  by_cases hlt : dl.length ≤ k
  · have hle : decide ((dl.length : Int) ≤ (k : Int)) = true := decide_eq_true (by omega)
    refine w_seq ?_
    refine w_seq ?_
    refine w_reg ?_
    refine wl_mv (.tmp 3) (tx dl) (fun _ => rfl) e3 rfl ?_
    refine wl_val (.int .i64 ((dl.length : Int))) (len_tx _ _ dl (by exact rfl) _ _ _ _ _ _) rfl ?_
    refine wl_un (fun v => Instr.fieldAt 26 v 2) (.tmp 1) (pt k1 0) (pt k1 5) (fun _ => rfl) e1 (by kernel_rfl) rfl ?_
    refine wl_load 3 (.tmp 12) (pt k1 5) (.int .i64 (k : Int)) rfl rfl (run_one Q1 3 5 rfl Tryd.underlying3 rfl) rfl ?_
    refine wl_bin (fun x y => do eqGuard .leq 3 (.tmp 11) (.tmp 13) x y; binOp .leq 3 x y) (.tmp 11) (.tmp 13) (.int .i64 ((dl.length : Int))) (.int .i64 (k : Int)) (.bool true) (fun _ => rfl) rfl rfl (leq3_run hle _ _ _) rfl ?_
    refine w_nil ?_
    refine xn_then ?_
    refine w_condT rfl ?_
    refine w_skip ?_
    refine xn_then ?_
    refine w_block ?_
    refine w_reg ?_
    refine wl_mv (.tmp 3) (tx dl) (fun _ => rfl) e3 rfl ?_
    refine wl_bin (fun x y => do eqGuard .add 9 (.const (.string ⟨#[48]⟩)) (.tmp 15) x y; binOp .add 9 x y) (.const (.string ⟨#[48]⟩)) (.tmp 15) (.string ⟨#[48]⟩) (tx dl) (tx (48 :: dl)) (fun _ => rfl) rfl rfl (catl_run [48] dl (by simp; omega) _ _ _) rfl ?_
    refine wl_mv (.tmp 16) (tx (48 :: dl)) (fun _ => rfl) rfl rfl ?_
    refine w_nil ?_
    refine xn_blk ?_
    exact xn_loop (k + 1 - (48 :: dl).length) (by simp; omega) ⟨48 :: dl, rfl, e1, rfl, hz.step hlt, Q1, M⟩
  · have hle : decide ((dl.length : Int) ≤ (k : Int)) = false := decide_eq_false (by omega)
    obtain ⟨c, hc⟩ : ∃ c, dl.length = k + c := ⟨dl.length - k, by omega⟩
    have hfin := fink hkn (hz.done hlt) hc false
    refine w_seq ?_
    refine w_seq ?_
    refine w_reg ?_
    refine wl_mv (.tmp 3) (tx dl) (fun _ => rfl) e3 rfl ?_
    refine wl_val (.int .i64 ((dl.length : Int))) (len_tx _ _ dl (by exact rfl) _ _ _ _ _ _) rfl ?_
    refine wl_un (fun v => Instr.fieldAt 26 v 2) (.tmp 1) (pt k1 0) (pt k1 5) (fun _ => rfl) e1 (by kernel_rfl) rfl ?_
    refine wl_load 3 (.tmp 12) (pt k1 5) (.int .i64 (k : Int)) rfl rfl (run_one Q1 3 5 rfl Tryd.underlying3 rfl) rfl ?_
    refine wl_bin (fun x y => do eqGuard .leq 3 (.tmp 11) (.tmp 13) x y; binOp .leq 3 x y) (.tmp 11) (.tmp 13) (.int .i64 ((dl.length : Int))) (.int .i64 (k : Int)) (.bool false) (fun _ => rfl) rfl rfl (leq3_run hle _ _ _) rfl ?_
    refine w_nil ?_
    refine xn_then ?_
    refine w_condF rfl ?_
    refine w_exit ?_
    refine xx_then ?_
    refine xx_then ?_
    refine xx_blk ?_
    refine xn_then ?_
    refine w_seq ?_
    refine w_seq ?_
    refine w_reg ?_
    refine wl_un (fun v => Instr.fieldAt 26 v 2) (.tmp 1) (pt k1 0) (pt k1 5) (fun _ => rfl) e1 (by kernel_rfl) rfl ?_
    refine wl_load 3 (.tmp 17) (pt k1 5) (.int .i64 (k : Int)) rfl rfl (run_one Q1 3 5 rfl Tryd.underlying3 rfl) rfl ?_
    refine wl_bin (fun x y => do eqGuard .gtr 3 (.tmp 18) (.const (.int .i64 (0))) x y; binOp .gtr 3 x y) (.tmp 18) (.const (.int .i64 (0))) (.int .i64 (k : Int)) (.int .i64 (0)) (.bool true) (fun _ => rfl) rfl rfl (gt3_run hk0 _ _ _) rfl ?_
    refine w_nil ?_
    refine xn_then ?_
    refine w_condT rfl ?_
    refine w_any 15 [.inl (tx dl), .inl (tx dl), .inl (.int .i64 ((dl.length : Int))), .inl (pt k1 5), .inl (.int .i64 (k : Int)), .inl (.int .i64 ((c : Int))), .inl (tx (dl.take c)), .inl (tx (dl.take c ++ [46])), .inl (tx dl), .inl (tx dl), .inl (.int .i64 ((dl.length : Int))), .inl (pt k1 5), .inl (.int .i64 (k : Int)), .inl (.int .i64 ((c : Int))), .inl (tx (dl.drop c))] [] (by kernel_rfl) (by kernel_rfl) (by kernel_rfl) (by kernel_rfl) rfl (by kernel_rfl) (by kernel_rfl) late_nil ?_ ?_ ?_
    · exact Ds.none rfl
    · refine ea_cons ?_ (ea_cons ?_ (ea_cons ?_ (ea_cons ?_ (ea_cons ?_ (ea_cons ?_ (ea_cons ?_ (ea_cons ?_ (ea_cons ?_ (ea_cons ?_ (ea_cons ?_ (ea_cons ?_ (ea_cons ?_ (ea_cons ?_ (ea_cons ?_ (ea_nil)))))))))))))))
      · exact og_eq (tx dl) rfl (fun f wf hq hd K hK => go_run rfl (wo_mv (.tmp 3) (tx dl) (fun _ => rfl) e3 (hK _ (Mo.refl _))))
      · exact og_eq (tx dl) rfl (fun f wf hq hd K hK => go_run rfl (wo_mv (.tmp 3) (tx dl) (fun _ => rfl) e3 (hK _ (Mo.refl _))))
      · exact og_eq (.int .i64 ((dl.length : Int))) rfl (fun f wf hq hd K hK => go_run rfl (wo_val (.int .i64 ((dl.length : Int))) (len_tx _ _ dl (by exact (hd 1 rfl)) _ _ _ _ _ _) (hK _ (Mo.refl _))))
      · exact og_eq (pt k1 5) rfl (fun f wf hq hd K hK => go_run rfl (wo_un (fun v => Instr.fieldAt 26 v 2) (.tmp 1) (pt k1 0) (pt k1 5) (fun _ => rfl) e1 (by kernel_rfl) (hK _ (Mo.refl _))))
      · exact og_eq (.int .i64 (k : Int)) rfl (fun f wf hq hd K hK => have Q1 := Q1.mo hq; go_run rfl (wo_load 3 (.tmp 23) (pt k1 5) (.int .i64 (k : Int)) rfl (hd 3 rfl) (run_one Q1 3 5 rfl Tryd.underlying3 rfl) (hK _ (Mo.refl _))))
      · exact og_eq (.int .i64 ((c : Int))) rfl (fun f wf hq hd K hK => go_run rfl (wo_bin (fun x y => do eqGuard .sub 3 (.tmp 22) (.tmp 24) x y; binOp .sub 3 x y) (.tmp 22) (.tmp 24) (.int .i64 ((dl.length : Int))) (.int .i64 (k : Int)) (.int .i64 ((c : Int))) (fun _ => rfl) (hd 2 rfl) (hd 4 rfl) (sub3_run hc (by omega) _ _ _) (hK _ (Mo.refl _))))
      · exact og_eq (tx (dl.take c)) rfl (fun f wf hq hd K hK => go_run rfl (wo_val (tx (dl.take c)) (hi_run _ _ _ dl c (by exact (hd 0 rfl)) (by exact (hd 5 rfl)) (by omega) _ _ _ _ _ _) (hK _ (Mo.refl _))))
      · exact og_eq (tx (dl.take c ++ [46])) rfl (fun f wf hq hd K hK => go_run rfl (wo_bin (fun x y => do eqGuard .add 9 (.tmp 26) (.const (.string ⟨#[46]⟩)) x y; binOp .add 9 x y) (.tmp 26) (.const (.string ⟨#[46]⟩)) (tx (dl.take c)) (.string ⟨#[46]⟩) (tx (dl.take c ++ [46])) (fun _ => rfl) (hd 6 rfl) rfl (catl_run (dl.take c) [46] (by simp; omega) _ _ _) (hK _ (Mo.refl _))))
      · exact og_eq (tx dl) rfl (fun f wf hq hd K hK => go_run rfl (wo_mv (.tmp 3) (tx dl) (fun _ => rfl) e3 (hK _ (Mo.refl _))))
      · exact og_eq (tx dl) rfl (fun f wf hq hd K hK => go_run rfl (wo_mv (.tmp 3) (tx dl) (fun _ => rfl) e3 (hK _ (Mo.refl _))))
      · exact og_eq (.int .i64 ((dl.length : Int))) rfl (fun f wf hq hd K hK => go_run rfl (wo_val (.int .i64 ((dl.length : Int))) (len_tx _ _ dl (by exact (hd 9 rfl)) _ _ _ _ _ _) (hK _ (Mo.refl _))))
      · exact og_eq (pt k1 5) rfl (fun f wf hq hd K hK => go_run rfl (wo_un (fun v => Instr.fieldAt 26 v 2) (.tmp 1) (pt k1 0) (pt k1 5) (fun _ => rfl) e1 (by kernel_rfl) (hK _ (Mo.refl _))))
      · exact og_eq (.int .i64 (k : Int)) rfl (fun f wf hq hd K hK => have Q1 := Q1.mo hq; go_run rfl (wo_load 3 (.tmp 31) (pt k1 5) (.int .i64 (k : Int)) rfl (hd 11 rfl) (run_one Q1 3 5 rfl Tryd.underlying3 rfl) (hK _ (Mo.refl _))))
      · exact og_eq (.int .i64 ((c : Int))) rfl (fun f wf hq hd K hK => go_run rfl (wo_bin (fun x y => do eqGuard .sub 3 (.tmp 30) (.tmp 32) x y; binOp .sub 3 x y) (.tmp 30) (.tmp 32) (.int .i64 ((dl.length : Int))) (.int .i64 (k : Int)) (.int .i64 ((c : Int))) (fun _ => rfl) (hd 10 rfl) (hd 12 rfl) (sub3_run hc (by omega) _ _ _) (hK _ (Mo.refl _))))
      · exact og_eq (tx (dl.drop c)) rfl (fun f wf hq hd K hK => go_run rfl (wo_val (tx (dl.drop c)) (lo_run _ _ _ dl c (by exact (hd 8 rfl)) (by exact (hd 13 rfl)) (by omega) _ _ _ _ _ _) (hK _ (Mo.refl _))))
    intro kf21 w21 hq hR hne
    replace Q1 := Q1.mo hq
    replace M := M.trans hq
    clear hq hR hne
    refine wl_bin (fun x y => do eqGuard .add 9 (.tmp 27) (.tmp 34) x y; binOp .add 9 x y) (.tmp 27) (.tmp 34) (tx (dl.take c ++ [46])) (tx (dl.drop c)) (tx (dl.take c ++ [46] ++ dl.drop c)) (fun _ => rfl) rfl rfl (catl_run (dl.take c ++ [46]) (dl.drop c) (by simp; omega) _ _ _) rfl ?_
    refine wl_mv (.tmp 35) (tx (dl.take c ++ [46] ++ dl.drop c)) (fun _ => rfl) rfl rfl ?_
    refine w_nil ?_
    refine xn_then ?_
    refine w_seq ?_
    refine w_seq ?_
    refine w_reg ?_
    refine wl_un (fun v => Instr.fieldAt 26 v 0) (.tmp 1) (pt k1 0) (pt k1 0) (fun _ => rfl) e1 (by kernel_rfl) rfl ?_
    refine wl_load 4 (.tmp 36) (pt k1 0) (.bool false) rfl rfl (run_one Q1 4 0 rfl Tryd.underlying4 rfl) rfl ?_
    refine w_nil ?_
    refine xn_then ?_
    refine w_condF rfl ?_
    refine w_skip ?_
    refine xn_then ?_
    refine w_seq ?_
    refine w_reg ?_
    refine wl_mv (.tmp 3) (tx (dl.take c ++ [46] ++ dl.drop c)) (fun _ => rfl) rfl rfl ?_
    refine wl_mv (.tmp 40) (tx (dl.take c ++ [46] ++ dl.drop c)) (fun _ => rfl) rfl rfl ?_
    refine w_nil ?_
    refine xn_then ?_
    refine w_ret ?_
    exact w_ret1 _ (tx (dl.take c ++ [46] ++ dl.drop c)) rfl rfl ⟨by rw [hfin]; rfl, M⟩
theorem rtx_ok (b : Bool) (n : Int) (k : Nat) (w : World) (hn0 : 0 ≤ n) (hnM : n < MM) (hk18 : k ≤ 18) (hck : ck b n (k : Int) = 0) : Calls Tryd.prog 10 #[dc b n (k : Int)] w fun e w' => e = .returned (tx (V.txt b n k)) ∧ Mo w w' := by
  by_cases h : k = 0
  · subst h
    cases b
    · exact rtx_f0 n w hn0 hnM hck
    · exact rtx_t0 n w hn0 hnM hck
  · cases b
    · exact rtx_f1 n k w hn0 hnM hk18 h hck
    · exact rtx_t1 n k w hn0 hnM hk18 h hck
end Go.Proofs.YtdcojpbgijkmgaaDoor
/-
  A number's text, digit by digit from behind.
-/
namespace Go.Proofs.YtdcojpbgijkmgaaDoor
open Go.RowKit Go.Lib
theorem decF_fuel : ∀ (f : Nat) (m : Int), 0 ≤ m → m < 10 ^ (f + 1) → decF (f + 1) m = decF (f + 2) m
  | 0, m, h0, h => by
    have e : m / 10 = 0 := by simp at h; omega
    rw [text_end e, text_end e]
  | f + 1, m, h0, h => by
    by_cases e : m / 10 = 0
    · rw [text_end e, text_end e]
    · rw [text_on e, text_on e, decF_fuel f (m / 10) (by omega) (by rw [Int.pow_succ] at h; omega)]
/-- The last digit. -/
def ld (n : Int) : UInt8 := UInt8.ofNat (48 + n % 10).toNat
theorem dgs8_map (n : Int) : V.dgs8 n = (decF 78 n).map (fun d => UInt8.ofNat d.toNat) := strOf_list _
theorem dgs8_end {n : Int} (h : n / 10 = 0) : V.dgs8 n = [ld n] := by rw [dgs8_map, text_end h]; rfl
theorem dgs8_on {n : Int} (h0 : 0 ≤ n) (hM : n < MM) (h : n / 10 ≠ 0) : V.dgs8 n = V.dgs8 (n / 10) ++ [ld n] := by
  have hb : n / 10 < 10 ^ 77 := by
    have : MM < 10 * 10 ^ 77 := by decide
    omega
  rw [dgs8_map, dgs8_map, text_on h, ← decF_fuel 76 (n / 10) (by omega) hb, List.map_append]; rfl
theorem ldz_step (n : Int) (k : Nat) (h0 : 0 ≤ n) (hM : n < MM) : leadz (V.dgs8 n) (k + 1) = leadz (V.dgs8 (n / 10)) k ++ [ld n] := by
  by_cases h : n / 10 = 0
  · rw [h, dgs8_end h]
    have e0 : V.dgs8 0 = [48] := by rw [dgs8_end (by decide)]; rfl
    rw [e0]
    unfold leadz
    simp [List.replicate_succ']
  · rw [dgs8_on h0 hM h]
    unfold leadz
    simp
/-- The sign. -/
def sgn8 (b : Bool) : List UInt8 := if b then [45] else []
/-- A number's text, with its point even where nothing stands behind. -/
def ptx (b : Bool) (n : Int) (k : Nat) : List UInt8 := sgn8 b ++ ((leadz (V.dgs8 n) k).take ((leadz (V.dgs8 n) k).length - k) ++ 46 :: (leadz (V.dgs8 n) k).drop ((leadz (V.dgs8 n) k).length - k))
theorem leadz_len (l : List UInt8) (k : Nat) : k + 1 ≤ (leadz l k).length := by unfold leadz; simp; omega
theorem ptx_s (b : Bool) (n : Int) (k : Nat) (h0 : 0 ≤ n) (hM : n < MM) : ptx b n (k + 1) = ptx b (n / 10) k ++ [ld n] := by
  unfold ptx
  rw [ldz_step n k h0 hM]
  have hl := leadz_len (V.dgs8 (n / 10)) k
  generalize leadz (V.dgs8 (n / 10)) k = L at *
  have e : (L ++ [ld n]).length - (k + 1) = L.length - k := by simp
  rw [e, List.take_append_of_le_length (by omega), List.drop_append_of_le_length (by omega)]
  simp
theorem lz0 (n : Int) : leadz (V.dgs8 n) 0 = V.dgs8 n := by
  unfold leadz; have := D_pos n; rw [show 0 + 1 - (V.dgs8 n).length = 0 by omega]; rfl
theorem ptx_0 (b : Bool) (n : Int) : ptx b n 0 = V.txt b n 0 ++ [46] := by
  unfold ptx V.txt wpt sgn8; rw [lz0]; generalize V.dgs8 n = D; cases b <;> simp
theorem ptx_k (b : Bool) (n : Int) (k : Nat) (hk : k ≠ 0) : ptx b n k = V.txt b n k := by
  unfold ptx V.txt wpt sgn8; rw [if_neg hk]; cases b <;> simp
theorem ld_48 {n : Int} (h : n % 10 = 0) : ((ld n).toNat : Int) = 48 := by unfold ld; rw [h]; rfl
theorem ld_d {n : Int} : ((ld n).toNat : Int) = 48 + n % 10 := by
  unfold ld
  rw [UInt8.toNat_ofNat']
  omega
theorem idx_sn (l : List UInt8) (c : UInt8) (w : World) : (Instr.index 9 (tx (l ++ [c])) (.int .i64 (l.length : Int))).run Tryd.prog w = .ok (.int .u8 (c.toNat : Int)) w := by
  have h : l.length < (⟨(l ++ [c]).toArray⟩ : ByteArray).size := by rw [tx_size]; simp
  have e : (⟨(l ++ [c]).toArray⟩ : ByteArray)[l.length] = c := by
    show (l ++ [c]).toArray[l.length] = c
    simp
  have := idx_s (⟨(l ++ [c]).toArray⟩ : ByteArray) l.length h w
  rw [e] at this
  exact this
theorem hi_sn (ρ : Operand → Value) (x y : Operand) (l : List UInt8) (c : UInt8) (hx : ρ x = tx (l ++ [c])) (hy : ρ y = .int .i64 (l.length : Int)) (dst : Option Tmp) (type : TypeId) (pos : String) (after : Array Edge) (guard : Option (Nat × Bool)) (w : World) :
    (execOp ρ { dst, op := .slice 9 x none (some y) none, type, pos, after, guard }).run Tryd.prog w = .ok (.value (tx l)) w := by
  have := hi_run ρ x y (l ++ [c]) l.length hx hy (by simp) dst type pos after guard w
  rw [List.take_left] at this
  exact this
theorem sub1_sn (l : List UInt8) (c : UInt8) (h : l.length ≤ 1000) (x y : Operand) (w : World) : (do eqGuard .sub 3 x y (.int .i64 ((l ++ [c]).length : Int)) (.int .i64 1); binOp .sub 3 (.int .i64 ((l ++ [c]).length : Int)) (.int .i64 1)).run Tryd.prog w = .ok (.int .i64 (l.length : Int)) w :=
  sub3_run (b := 1) (by simp; omega) (by simp; omega) x y w
end Go.Proofs.YtdcojpbgijkmgaaDoor
/-
  A number's text is a decimal one, of its parts; a decimal text is the text of the number that it says.
-/
namespace Go.Proofs.YtdcojpbgijkmgaaDoor
open Go.RowKit
theorem dgs8_dig (n : Int) {x : UInt8} (h : x ∈ V.dgs8 n) : isD x = true := by
  rw [dgs8_map] at h
  obtain ⟨d, hd, rfl⟩ := List.mem_map.1 h
  have := decF_digits 78 n d hd
  unfold isD
  have e : ((UInt8.ofNat d.toNat).toNat : Int) = d := by rw [UInt8.toNat_ofNat']; omega
  rw [e]
  simp
  omega
theorem pv_dv : ∀ (l : List Int) (v : Int), (∀ d ∈ l, 48 ≤ d ∧ d ≤ 57) → (l.map fun d => UInt8.ofNat d.toNat).foldl (fun v c => v * 10 + ((c.toNat : Int) - 48)) v = l.foldl (fun v d => v * 10 + (d - 48)) v
  | [], _, _ => rfl
  | d :: l, v, h => by
    have hd := h d (by simp)
    have e : ((UInt8.ofNat d.toNat).toNat : Int) = d := by rw [UInt8.toNat_ofNat']; omega
    simp only [List.map_cons, List.foldl_cons, e]
    exact pv_dv l _ (fun x hx => h x (by simp [hx]))
theorem pv_d8 {n : Int} (h0 : 0 ≤ n) (hM : n < MM) : pv (V.dgs8 n) = n := by
  rw [dgs8_map]
  have h := decF_dv 78 n h0 (Int.lt_trans hM (by decide))
  exact (pv_dv _ 0 (decF_digits 78 n)).trans h
theorem d8_ne (n : Int) : V.dgs8 n ≠ [] := fun e => by have := D_pos n; rw [e] at this; simp at this
theorem d8_cn {n : Int} (h0 : 0 ≤ n) (hM : n < MM) : Cn (V.dgs8 n) := by
  refine ⟨d8_ne n, fun x hx => dgs8_dig n hx, ?_⟩
  by_cases hz : n = 0
  · left; subst hz; rw [dgs8_end rfl]; rfl
  · right
    have h := decF_head 78 n (by omega) (Int.lt_trans hM (by decide))
    rw [dgs8_map]
    intro e
    cases hd : decF 78 n with
    | nil => rw [hd] at e; cases e
    | cons d r =>
      rw [hd] at e h
      have hb := decF_digits 78 n d (by rw [hd]; simp)
      simp only [List.map_cons, List.head?_cons, Option.some.injEq] at e
      have e2 := congrArg UInt8.toNat e
      rw [UInt8.toNat_ofNat'] at e2
      have e48 : (48 : UInt8).toNat = 48 := rfl
      simp only [List.headD_cons] at h
      omega
theorem dw0_rep (j : Nat) (z : List UInt8) : dw0 (List.replicate j 48 ++ z) = dw0 z := by
  induction j with
  | zero => rfl
  | succ j ih =>
    rw [List.replicate_succ, List.cons_append]
    have e : dw0 (48 :: (List.replicate j 48 ++ z)) = dw0 (List.replicate j 48 ++ z) := rfl
    rw [e, ih]
theorem dw0_hd : ∀ {z : List UInt8}, z.head? ≠ some 48 → dw0 z = z
  | [], _ => rfl
  | x :: z, h => by
    have : (x == 48) = false := beq_eq_false_iff_ne.2 fun e => h (by rw [e]; rfl)
    simp [dw0, this]
theorem woz_leadz {z : List UInt8} (h : Cn z) (k : Nat) : woz (leadz z k) = z := by
  unfold leadz woz
  have e : (List.replicate (k + 1 - z.length) 48 ++ z).dropWhile (· == 48) = dw0 z := dw0_rep _ z
  rw [e]
  by_cases hh : z.head? = some 48
  · rcases h.hd with h1 | h1
    · match z, h1, hh with
      | [x], _, hh =>
        cases hh
        rfl
    · exact absurd hh h1
  · rw [dw0_hd hh, if_neg h.ne]
theorem txt_df {b : Bool} {n : Int} {k : Nat} (h0 : 0 ≤ n) (hM : n < MM) (hck : ck b n (k : Int) = 0) :
    ∃ A B, Df (V.txt b n k) b A B ∧ nof A B = n ∧ B.length = k := by
  have hc := d8_cn h0 hM
  have hl := leadz_len (V.dgs8 n) k
  have hAB : (leadz (V.dgs8 n) k).take ((leadz (V.dgs8 n) k).length - k) ++ (leadz (V.dgs8 n) k).drop ((leadz (V.dgs8 n) k).length - k) = leadz (V.dgs8 n) k := List.take_append_drop _ _
  have hdig : ∀ x ∈ leadz (V.dgs8 n) k, isD x = true := fun x hx => by
    unfold leadz at hx
    rcases List.mem_append.1 hx with hx | hx
    · rw [List.eq_of_mem_replicate hx]; rfl
    · exact hc.dg x hx
  have hlB : ((leadz (V.dgs8 n) k).drop ((leadz (V.dgs8 n) k).length - k)).length = k := by rw [List.length_drop]; omega
  have hlA : ((leadz (V.dgs8 n) k).take ((leadz (V.dgs8 n) k).length - k)).length = (leadz (V.dgs8 n) k).length - k := by rw [List.length_take]; omega
  refine ⟨(leadz (V.dgs8 n) k).take ((leadz (V.dgs8 n) k).length - k), (leadz (V.dgs8 n) k).drop ((leadz (V.dgs8 n) k).length - k), ⟨?_, ?_, ?_, ?_, ?_, ?_⟩, ?_, hlB⟩
  · by_cases hk : k = 0
    · subst hk
      rw [lz0]
      simp only [Nat.sub_zero, List.drop_length, List.take_length, if_true, List.append_nil]
      unfold V.txt wpt sg8
      cases b <;> rfl
    · rw [if_neg (fun e => hk (by rw [e] at hlB; simpa using hlB.symm))]
      unfold V.txt wpt sg8
      rw [if_neg hk]
      cases b <;> rfl
  · intro e
    rw [e] at hlA
    simp at hlA
    omega
  · intro x hx
    exact hdig x (by rw [← hAB]; exact List.mem_append_left _ hx)
  · intro x hx
    exact hdig x (by rw [← hAB]; exact List.mem_append_right _ hx)
  · by_cases hs : (V.dgs8 n).length ≤ k + 1
    · left
      rw [hlA]
      have : (leadz (V.dgs8 n) k).length = k + 1 := by unfold leadz; rw [List.length_append, List.length_replicate]; omega
      omega
    · right
      have e : leadz (V.dgs8 n) k = V.dgs8 n := by unfold leadz; rw [show k + 1 - (V.dgs8 n).length = 0 by omega]; rfl
      rw [e, List.head?_eq_getElem?, List.getElem?_take_of_lt (by omega), ← List.head?_eq_getElem?]
      rcases hc.hd with h1 | h1
      · omega
      · exact h1
  · intro hb
    rw [hAB]
    have hn : n ≠ 0 := fun e => by
      subst e; subst hb
      unfold ck at hck
      simp at hck
    have hne : (V.dgs8 n).head? ≠ some 48 := by
      rcases hc.hd with h1 | h1
      · intro e
        have hp := pv_d8 h0 hM
        match hz : V.dgs8 n, h1, e with
        | [x], _, e =>
          cases e
          rw [hz] at hp
          exact hn hp.symm
      · exact h1
    cases hz : V.dgs8 n with
    | nil => exact absurd hz (d8_ne n)
    | cons x r =>
      rw [hz] at hne
      exact ⟨x, by unfold leadz; simp, fun e => hne (by rw [e]; rfl)⟩
  · unfold nof
    rw [hAB, woz_leadz hc, pv_d8 h0 hM]
theorem d8_pv : ∀ (m : Nat) (z : List UInt8), z.length = m → Cn z → pv z < MM → V.dgs8 (pv z) = z
  | 0, z, hl, h, _ => absurd (List.eq_nil_of_length_eq_zero hl) h.ne
  | m + 1, z, hl, h, hM => by
    have hz := List.dropLast_concat_getLast h.ne
    generalize hy : z.dropLast = y at hz
    generalize z.getLast h.ne = c at hz
    have hyl : y.length = m := by rw [← hy]; simp; omega
    subst hz
    have hc := isD_b (h.dg c (by simp))
    have hcc : ∀ v : Int, v % 10 = (c.toNat : Int) - 48 → ld v = c := fun v hv => by
      apply UInt8.toNat_inj.1
      have := ld_d (n := v)
      omega
    rw [pv_snoc] at hM ⊢
    by_cases hy0 : y = []
    · subst hy0
      have e0 : pv [] = 0 := rfl
      rw [e0]
      rw [dgs8_end (by omega), hcc _ (by omega)]
      rfl
    · have hyp : 0 < y.length := List.length_pos_iff.2 hy0
      have hyd : ∀ x ∈ y, isD x = true := fun x hx => h.dg x (by simp [hx])
      have hyh : y.head? ≠ some 48 := by
        rcases h.hd with h1 | h1
        · rw [List.length_append, List.length_singleton] at h1; omega
        · cases y with
          | nil => exact absurd rfl hy0
          | cons a r => exact h1
      have hpos := pv_pos hyd hy0 hyh
      have ih := d8_pv m y hyl ⟨hy0, hyd, Or.inr hyh⟩ (by omega)
      have hd10 : (pv y * 10 + ((c.toNat : Int) - 48)) / 10 = pv y := by omega
      rw [dgs8_on (by omega) hM (by omega), hd10, ih, hcc _ (by omega)]
theorem rep_dw0 : ∀ (L : List UInt8), L = List.replicate (L.length - (dw0 L).length) 48 ++ dw0 L
  | [] => rfl
  | x :: L => by
    by_cases hx : x = 48
    · subst hx
      have e : dw0 (48 :: L) = dw0 L := by simp [dw0]
      rw [e]
      have hle : (dw0 L).length ≤ L.length := (List.dropWhile_sublist _).length_le
      rw [List.length_cons, show L.length + 1 - (dw0 L).length = (L.length - (dw0 L).length) + 1 by omega, List.replicate_succ, List.cons_append]
      congr 1
      exact rep_dw0 L
    · rw [dw0_hd (by simpa using hx), Nat.sub_self]; rfl
theorem leadz_woz {A B : List UInt8} (hne : A ≠ []) (h : A.length = 1 ∨ A.head? ≠ some 48) : leadz (woz (A ++ B)) B.length = A ++ B := by
  have hp : 0 < A.length := List.length_pos_iff.2 hne
  by_cases hh : (A ++ B).head? = some 48
  · have hl : A.length = 1 := by
      rcases h with h | h
      · exact h
      · exfalso; apply h
        cases A with
        | nil => exact absurd rfl hne
        | cons a r => exact hh
    have hL : (A ++ B).length = B.length + 1 := by rw [List.length_append]; omega
    have hr := rep_dw0 (A ++ B)
    unfold leadz woz
    by_cases hz : (A ++ B).dropWhile (· == 48) = []
    · rw [if_pos hz]
      rw [show dw0 (A ++ B) = [] from hz, hL] at hr
      rw [hr]
      simp only [List.length_cons, List.length_nil, List.append_nil, Nat.sub_zero, Nat.add_sub_cancel, Nat.zero_add]
      rw [List.replicate_succ']
    · rw [if_neg hz]
      rw [hL] at hr
      exact hr.symm
  · unfold leadz woz
    rw [show (A ++ B).dropWhile (· == 48) = A ++ B from dw0_hd hh, if_neg (by simp [hne]), show B.length + 1 - (A ++ B).length = 0 by rw [List.length_append]; omega]
    rfl
theorem df_txt {l : List UInt8} {b : Bool} {A B : List UInt8} (h : Df l b A B) (hM : nof A B < MM) : V.txt b (nof A B) B.length = l := by
  have hc := cn_woz h.dg
  have e := d8_pv _ _ rfl hc hM
  have hlz : leadz (V.dgs8 (nof A B)) B.length = A ++ B := by rw [e]; exact leadz_woz h.ne h.ld
  rw [h.eq]
  unfold V.txt wpt sg8
  by_cases hB : B = []
  · subst hB
    have hz := lz0 (nof A [])
    rw [show ([] : List UInt8).length = 0 from rfl] at hlz ⊢
    rw [hz, List.append_nil] at hlz
    rw [if_pos rfl, if_pos rfl, hlz, List.append_nil]
    cases b <;> rfl
  · rw [if_neg (fun q => hB (List.eq_nil_of_length_eq_zero q)), hlz, if_neg hB, List.length_append, Nat.add_sub_cancel, List.take_left, List.drop_left]
    cases b <;> rfl
end Go.Proofs.YtdcojpbgijkmgaaDoor
